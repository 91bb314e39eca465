/- What bytes are, as a descriptor, by the document. -/
import Derived.Test.YtjncnojplkljnaaDeR
import Derived.Test.YtjncnojplkljnaaDsM
namespace Go.Proofs.Ytjncnojplkljnaa
open Go.RowKit

set_option maxHeartbeats 4000000 in
set_option maxRecDepth 100000 in
theorem RParse_no {k r c q : Int} {N W : Nat} {y : Int} (h : Par k r c q N W y) (w : World) (bo : Option Addr) (m bc : Nat) (E : Int) (hE : (if y = 0 then (if m = W then (0 : Int) else 20) else y) = E) (hne : E ≠ 0) (A D : Int) (t : Nat) (R V : Nat → Int) :
    Calls Try.prog 22 #[.agg #[.int .i64 k, .int .i64 r, .int .i64 c, .int .i64 q], .slice bo m bc] w (AnsD w E A D t R V) := by
  have HM := fun v => May_any k r c q v
  rw [h.may] at HM
  unfold AnsD
  rw [lenE_not hne, lenI_not hne, lenI_not hne]
  obtain ⟨w0, hw0⟩ : ∃ w0, w0 = w.alloc (.cells #[.int .i64 k, .int .i64 r, .int .i64 c, .int .i64 q] 24) := ⟨_, rfl⟩
  obtain ⟨w1, hw1⟩ : ∃ w1, w1 = w0.alloc (.cells #[.int .i64 0, .int .i64 0, .slice none 0 0] 35) := ⟨_, rfl⟩
  have b0 : Below w.heap.size w w0 := by rw [hw0]; exact below_alloc _ _
  have b1 : Below w0.heap.size w0 w1 := by rw [hw1]; exact below_alloc _ _
  have z0 : w0.heap.size = w.heap.size + 1 := by rw [hw0]; simp
  have HZ1 : Hid (w1.heap.size = w.heap.size + 2) := by show _ = _; rw [hw1]; simp [z0]
  have HP : Hid (∀ u, Below w1.heap.size w1 u → (u.cell? ⟨w.heap.size, 0, none⟩ = some (.int .i64 k) ∧ u.cell? ⟨w.heap.size, 1, none⟩ = some (.int .i64 r) ∧ u.cell? ⟨w.heap.size, 2, none⟩ = some (.int .i64 c) ∧ u.cell? ⟨w.heap.size, 3, none⟩ = some (.int .i64 q)) ∧ (u.cell? ⟨w.heap.size + 1, 0, none⟩ = some (.int .i64 0) ∧ u.cell? ⟨w.heap.size + 1, 1, none⟩ = some (.int .i64 0) ∧ u.cell? ⟨w.heap.size + 1, 2, none⟩ = some (.slice none 0 0)) ∧ ∀ i, u.frozen? ⟨w.heap.size + 1, i, none⟩ = false) := fun u hu => ⟨par_held hw0 (below_then b1 hu), by rw [← z0]; exact ⟨⟨blk_held hw1 hu 0 rfl, blk_held hw1 hu 1 rfl, blk_held hw1 hu 2 rfl⟩, blk_free hw1 hu⟩⟩
  have HBB : Hid (Below w.heap.size w w1) := below_then b0 b1
  rcases h.err with rfl | rfl
  · rw [if_pos rfl] at hE
    by_cases hm : m = W
    · rw [if_pos hm] at hE; exact absurd hE.symm hne
    · rw [if_neg hm] at hE
      subst hE
      obtain ⟨hmy, _⟩ := h.fine
      obtain ⟨f1, _⟩ := h.good hmy
      have HW := fun v => W_any k r c q v
      rw [f1] at HW
      rw [decide_eq_true rfl] at HM
      have hn2 : ((m : Int) != (W : Int)) = true := by simpa using (by omega : ¬ (m : Int) = (W : Int))
      clear h hm hne hmy f1
      go_enter Try.func22, Try.ntmps22
      go_wp2_with fail
      rw [← hw0, ← hw1]
      clear hw0 hw1 z0 b0 b1
      refine (HM _).mono ?_
      rintro e wa ⟨rfl, ha⟩
      have HA : Hid (Below w1.heap.size w1 wa) := ha
      clear ha
      obtain ⟨⟨p0, p1, p2, p3⟩, ⟨t0, t1, t2⟩, f⟩ := HP.out _ HA.out
      go_wp2_with fail
      refine (HW _).mono ?_
      rintro e wb ⟨rfl, hb⟩
      have HB1 : Hid (Below w1.heap.size w1 wb) := below_then HA.out hb
      clear hb p0 p1 p2 p3 t0 t1 t2 f
      obtain ⟨⟨p0, p1, p2, p3⟩, ⟨t0, t1, t2⟩, f⟩ := HP.out _ HB1.out
      go_wp2_with fail
      refine bodyPost_ret (v := .tuple #[.agg #[.int .i64 0, .int .i64 0, .slice none 0 0], .int .i64 20]) (by simp [results, Try.results22, go_sem, t0, t1, t2]) rfl ⟨none, 0, rfl, owr_nil _ _ _ _, ?_⟩
      have hB := below_then HBB.out HB1.out
      exact ((hB.setCell (Nat.le_succ _) _).setCell (Nat.le_succ _) _).setCell (Nat.le_succ _) _
  · rw [if_neg (by decide)] at hE
    subst hE
    rw [decide_eq_false (by decide)] at HM
    clear h hne
    go_enter Try.func22, Try.ntmps22
    go_wp2_with fail
    rw [← hw0, ← hw1]
    clear hw0 hw1 z0 b0 b1
    refine (HM _).mono ?_
    rintro e wa ⟨rfl, ha⟩
    have HA : Hid (Below w1.heap.size w1 wa) := ha
    clear ha
    obtain ⟨⟨p0, p1, p2, p3⟩, ⟨t0, t1, t2⟩, f⟩ := HP.out _ HA.out
    go_wp2_with fail
    refine bodyPost_ret (v := .tuple #[.agg #[.int .i64 0, .int .i64 0, .slice none 0 0], .int .i64 2]) (by simp [results, Try.results22, go_sem, t0, t1, t2]) rfl ⟨none, 0, rfl, owr_nil _ _ _ _, ?_⟩
    have hB := below_then HBB.out HA.out
    exact ((hB.setCell (Nat.le_succ _) _).setCell (Nat.le_succ _) _).setCell (Nat.le_succ _) _
set_option maxHeartbeats 8000000 in
set_option maxRecDepth 100000 in
theorem RParse_ok {k r c q : Int} {N W : Nat} (h : Par k r c q N W 0) (w : World) (bo : Option Addr) (bc : Nat) (F : Nat → UInt8) (hB : Bec w bo W bc F) (E : Int) (hE : (if isD W q F = true then (0 : Int) else 150) = E) :
    Calls Try.prog 22 #[.agg #[.int .i64 k, .int .i64 r, .int .i64 c, .int .i64 q], .slice bo W bc] w (AnsD w E ((nm F 0 4 : Nat) : Int) ((nm F 4 1 : Nat) : Int) (nm F 5 2) (rdR F 7) (rdV F 7)) := by
  obtain ⟨hmy, hW1, hW2, hq⟩ := h.fine
  obtain ⟨f1, f2, f3, _, hkc⟩ := h.good hmy
  clear hkc
  have HM := fun v => May_any k r c q v
  rw [h.may, decide_eq_true rfl] at HM
  have HW := fun v => W_any k r c q v
  rw [f1] at HW
  have HD := fun v => D_good k r c q v W f1 f2 f3
  have hn2 : ((W : Int) != (W : Int)) = false := by simp
  have hbc := hB.room
  have HBE : Hid (Bec w bo W bc F) := hB
  obtain ⟨A, hA⟩ : ∃ A, nm F 0 4 = A := ⟨_, rfl⟩
  obtain ⟨D, hD⟩ : ∃ A, nm F 4 1 = A := ⟨_, rfl⟩
  obtain ⟨M, hMM⟩ : ∃ A, nm F 5 2 = A := ⟨_, rfl⟩
  have HNA : Hid (nm F 0 4 = A) := hA
  have HND : Hid (nm F 4 1 = D) := hD
  have HNM : Hid (nm F 5 2 = M) := hMM
  have lA : A < 4294967296 := by rw [← hA]; exact nm_lt F 0 4
  have lD : D < 256 := by rw [← hD]; exact nm_lt F 4 1
  have lM : M < 65536 := by rw [← hMM]; exact nm_lt F 5 2
  have HGT : Hid (dir W < M → E = 150) := fun hg => by rw [← hE, if_neg]; intro hd; have := (okD_few hW1 (isD_true hd).1).1; rw [hMM] at this; omega
  obtain ⟨RR, hRR⟩ : ∃ X, rdR F 7 = X := ⟨_, rfl⟩
  obtain ⟨VV, hVV⟩ : ∃ X, rdV F 7 = X := ⟨_, rfl⟩
  have HRV : Hid (∀ i, rdR (fun j => F (7 + j)) 0 i = RR i ∧ rdV (fun j => F (7 + j)) 0 i = VV i) := fun i => by
    rw [← hRR, ← hVV]
    unfold rdR rdV
    rw [nm_move, nm_move, Nat.zero_add, Nat.add_assoc]
    exact ⟨rfl, rfl⟩
  have HNO : Hid (okD W q (A : Int) (D : Int) M RR VV = false → E = 150) := fun hk => by rw [← hE, if_neg]; intro hd; have := (isD_true hd).1; rw [hA, hD, hMM, hRR, hVV, hk] at this; cases this
  have HYES : Hid (okD W q (A : Int) (D : Int) M RR VV = true → ((∀ j, j < W → 7 + 6 * M ≤ j → F j = 0) → E = 0) ∧ ((¬ ∀ j, j < W → 7 + 6 * M ≤ j → F j = 0) → E = 150)) := fun hk => by
    rw [← hE]
    constructor
    · intro hz
      rw [if_pos]
      exact decide_eq_true (by rw [hA, hD, hMM, hRR, hVV]; exact ⟨hk, hz⟩)
    · intro hz
      rw [if_neg]
      intro hd
      have := (isD_true hd).2
      rw [hMM] at this
      exact hz this
  have HDE : Hid (∀ j, deB (A : Int) (D : Int) M RR VV j = if j < 7 + 6 * M then F j else 0) := fun j => by
    have := deB_rd F j
    rw [hA, hD, hMM, hRR, hVV] at this
    exact this
  have hdr := dir_room hW1
  have hdl := dir_le hW2
  unfold AnsD
  rw [hA, hD, hMM, hRR, hVV]
  clear hB hA hD hMM hRR hVV hE
  generalize dir W = dd at *
  obtain ⟨w0, hw0⟩ : ∃ w0, w0 = w.alloc (.cells #[.int .i64 k, .int .i64 r, .int .i64 c, .int .i64 q] 24) := ⟨_, rfl⟩
  obtain ⟨w1, hw1⟩ : ∃ w1, w1 = w0.alloc (.cells #[.int .i64 0, .int .i64 0, .slice none 0 0] 35) := ⟨_, rfl⟩
  have b0 : Below w.heap.size w w0 := by rw [hw0]; exact below_alloc _ _
  have b1 : Below w0.heap.size w0 w1 := by rw [hw1]; exact below_alloc _ _
  have z0 : w0.heap.size = w.heap.size + 1 := by rw [hw0]; simp
  have HZ1 : Hid (w1.heap.size = w.heap.size + 2) := by show _ = _; rw [hw1]; simp [z0]
  have HP : Hid (∀ u, Below w1.heap.size w1 u → (u.cell? ⟨w.heap.size, 0, none⟩ = some (.int .i64 k) ∧ u.cell? ⟨w.heap.size, 1, none⟩ = some (.int .i64 r) ∧ u.cell? ⟨w.heap.size, 2, none⟩ = some (.int .i64 c) ∧ u.cell? ⟨w.heap.size, 3, none⟩ = some (.int .i64 q)) ∧ (u.cell? ⟨w.heap.size + 1, 0, none⟩ = some (.int .i64 0) ∧ u.cell? ⟨w.heap.size + 1, 1, none⟩ = some (.int .i64 0) ∧ u.cell? ⟨w.heap.size + 1, 2, none⟩ = some (.slice none 0 0)) ∧ ∀ i, u.frozen? ⟨w.heap.size + 1, i, none⟩ = false) := fun u hu => ⟨par_held hw0 (below_then b1 hu), by rw [← z0]; exact ⟨⟨blk_held hw1 hu 0 rfl, blk_held hw1 hu 1 rfl, blk_held hw1 hu 2 rfl⟩, blk_free hw1 hu⟩⟩
  have HBB : Hid (Below w.heap.size w w1) := below_then b0 b1
  go_enter Try.func22, Try.ntmps22
  go_wp2_with fail
  rw [← hw0, ← hw1]
  clear hw0 hw1 z0 b0 b1
  refine (HM _).mono ?_
  rintro e wa ⟨rfl, ha⟩
  have HA : Hid (Below w1.heap.size w1 wa) := ha
  clear ha
  obtain ⟨⟨p0, p1, p2, p3⟩, ⟨t0, t1, t2⟩, f⟩ := HP.out _ HA.out
  go_wp2_with fail
  refine (HW _).mono ?_
  rintro e wb ⟨rfl, hb⟩
  have HB1 : Hid (Below w1.heap.size w1 wb) := below_then HA.out hb
  clear hb p0 p1 p2 p3 t0 t1 t2 f
  obtain ⟨⟨p0, p1, p2, p3⟩, ⟨t0, t1, t2⟩, f⟩ := HP.out _ HB1.out
  obtain ⟨b, off, rfl, hc⟩ := (HBE.out.below (below_then HBB.out HB1.out)).rd (by omega)
  have c4 := hc 4 (by omega)
  have i4 : (4 : Int) < (W : Int) := by omega
  have n4 : 4 < W := by omega
  have n5 : ¬ W ≤ 4 := by omega
  have wD : IntKind.i64.wrap (D : Int) = (D : Int) := by rw [IntKind.wrap_i64]; omega
  have i5 : (4 : Int) ≤ (bc : Int) := by omega
  have HK1 : Hid (∀ v, Below wb.heap.size wb v → Calls Try.prog 47 #[.slice (some ⟨b, off, none⟩) 4 bc] v fun e w' => e = .returned (.int .i64 (A : Int)) ∧ w' = v) := fun v hv => by
    have := worth_any v (some ⟨b, off, none⟩) 4 bc F (fun _ => ⟨b, off, rfl, fun j hj => held (hc j (by omega)) hv⟩) (by omega)
    rw [HNA.out] at this
    exact this
  have HK2 : Hid (∀ v, Below wb.heap.size wb v → Calls Try.prog 47 #[.slice (some ⟨b, off + 5, none⟩) 2 (bc - 5)] v fun e w' => e = .returned (.int .i64 (M : Int)) ∧ w' = v) := fun v hv => by
    have := worth_any v (some ⟨b, off + 5, none⟩) 2 (bc - 5) (fun j => F (5 + j)) (fun _ => ⟨b, off + 5, rfl, fun j hj => by rw [Nat.add_assoc]; exact held (hc (5 + j) (by omega)) hv⟩) (by omega)
    rw [show nm (fun j => F (5 + j)) 0 2 = nm F 5 2 from nm_move F 5 0 2, HNM.out] at this
    exact this
  have hc4 : (((F 4).toNat : Nat) : Int) = (D : Int) := by rw [← HND.out, nm, nm, Nat.zero_mul, Nat.zero_add, Nat.add_zero]
  rw [hc4] at c4
  have C4 := fun o => held c4 (below_alloc wb o)
  clear hc hc4
  go_wp2_with fail
  go_region_held3 (fun v => v.cell? ⟨b, off + 4, none⟩ = some (.int .u8 (D : Int))) (go_keep)
    ((go_at_call 47; refine (HK1.out _ (by first | exact below_drew _ _ | exact below_then (below_alloc _ _) (below_drew _ _) | exact below_then (below_drew _ _) (below_alloc _ _))).mono ?_; rintro e w' ⟨rfl, hw'⟩; obtain rfl := hw'.symm))
  all_goals (
    obtain ⟨wy, hwy⟩ : ∃ wy, wy = wb.alloc (.cells #[.int .i64 (A : Int), .int .i64 (D : Int), .slice none 0 0] 35) := ⟨_, rfl⟩
    have by1 : Below wb.heap.size wb wy := by rw [hwy]; exact below_alloc _ _
    have HXY : Hid (∀ v, Below wy.heap.size wy v → (v.cell? ⟨wb.heap.size, 0, none⟩ = some (.int .i64 (A : Int)) ∧ v.cell? ⟨wb.heap.size, 1, none⟩ = some (.int .i64 (D : Int)) ∧ v.cell? ⟨wb.heap.size, 2, none⟩ = some (.slice none 0 0)) ∧ ∀ i, v.frozen? ⟨wb.heap.size, i, none⟩ = false) := fun v hv => ⟨⟨blk_held hwy hv 0 rfl, blk_held hwy hv 1 rfl, blk_held hwy hv 2 rfl⟩, blk_free hwy hv⟩
    have HZY : Hid (wy.heap.size = wb.heap.size + 1) := by show _ = _; rw [hwy]; simp
    rw [← hwy]
    clear hwy
    obtain ⟨wx, hwx⟩ : ∃ wx, wx = wy.drew := ⟨_, rfl⟩
    have byx : Below wy.heap.size wy wx := by rw [hwx]; exact below_drew _ _
    have HYX : Hid (Below wy.heap.size wy wx) := byx
    have HX1 : Hid (Below w1.heap.size w1 wx) := below_then HB1.out (below_then by1 byx)
    have HBX : Hid (Below wb.heap.size wb wx) := below_then by1 byx
    rw [← hwx]
    clear hwx by1 byx c4 C4 p0 p1 p2 p3 t0 t1 t2 f
    have j1 : (7 : Int) ≤ (bc : Int) := by omega
    have j2 : (5 : Int) ≤ (bc : Int) := by omega
    have j3 : ¬ bc = 5 := by omega
    have j4 : ¬ bc = 7 := by omega
    have j5 : (7 : Int) ≤ (W : Int) := by omega
    obtain ⟨⟨p0, p1, p2, p3⟩, ⟨t0, t1, t2⟩, f⟩ := HP.out _ HX1.out
    go_wp2_with fail
    refine (HK2.out _ HBX.out).mono ?_
    rintro e w' ⟨rfl, hw'⟩
    obtain rfl := hw'.symm
    go_wp2_with fail
    refine (HD _).mono ?_
    rintro e wd ⟨rfl, hd⟩
    have HXD : Hid (Below wx.heap.size wx wd) := hd
    have HD1 : Hid (Below w1.heap.size w1 wd) := below_then HX1.out hd
    clear hd p0 p1 p2 p3 t0 t1 t2 f
    obtain ⟨⟨p0, p1, p2, p3⟩, ⟨t0, t1, t2⟩, f⟩ := HP.out _ HD1.out
    by_cases hgt : dd < M
    · have g1 : decide ((dd : Int) < (M : Int)) = true := decide_eq_true (by omega)
      have HE2 : Hid (E = 150) := HGT.out hgt
      have hgi : (dd : Int) < (M : Int) := by omega
      go_wp2_with fail
      refine bodyPost_ret (v := .tuple #[.agg #[.int .i64 0, .int .i64 0, .slice none 0 0], .int .i64 150]) (by simp [results, Try.results22, go_sem, t0, t1, t2]) rfl ⟨none, 0, by rw [HE2.out]; rfl, by rw [HE2.out]; exact owr_nil _ _ _ _, ?_⟩
      have hB := below_then HBB.out HD1.out
      exact ((hB.setCell (Nat.le_succ _) _).setCell (Nat.le_succ _) _).setCell (Nat.le_succ _) _
    · have g1 : decide ((dd : Int) < (M : Int)) = false := decide_eq_false (by omega)
      have hMd : M ≤ dd := by omega
      have hgi : ¬ (dd : Int) < (M : Int) := by omega
      have hbe := bec_behind (k := 7) (HBE.out.below (below_then HBB.out HD1.out)) (by omega)
      go_wp2_with fail
      refine (read_any wd _ (W - 7) (bc - 7) M _ hbe (by omega) (by omega)).mono ?_
      rintro e we ⟨uo, uc, rfl, hou, he⟩
      have HOU : Hid (OwR wd.heap.size we uo M uc RR VV) := hou.congr fun i _ => HRV.out i
      obtain ⟨⟨x0, x1, x2⟩, xf⟩ := HXY.out we (below_then (below_then HYX.out HXD.out) he)
      have HDEE : Hid (Below wd.heap.size wd we) := he
      have HSZ : Hid (wb.heap.size + 1 ≤ wd.heap.size ∧ w1.heap.size ≤ wb.heap.size) := ⟨by have h1 := HZY.out; have h2 := (below_then HYX.out HXD.out).size; show _ ≤ _; omega, HB1.out.size⟩
      obtain ⟨wf, hwf⟩ : ∃ wf, wf = we.setCell ⟨wb.heap.size, 2, none⟩ (.slice uo M uc) := ⟨_, rfl⟩
      have HXF : Hid (wf.cell? ⟨wb.heap.size, 0, none⟩ = some (.int .i64 (A : Int)) ∧ wf.cell? ⟨wb.heap.size, 1, none⟩ = some (.int .i64 (D : Int)) ∧ wf.cell? ⟨wb.heap.size, 2, none⟩ = some (.slice uo M uc)) := by
        rw [hwf]
        exact ⟨(World.cell?_setCell_other we _ _ _ (by intro e; cases e)).trans x0, (World.cell?_setCell_other we _ _ _ (by intro e; cases e)).trans x1, World.cell?_setCell_same we _ _ x2⟩
      have HOF : Hid (OwR wd.heap.size wf uo M uc RR VV) := by
        refine HOU.out.stay fun t ht _ => ?_
        rw [hwf]
        exact heap_setCell_other _ _ _ _ (by have := HSZ.out.1; show t ≠ wb.heap.size; omega)
      have HF1 : Hid (Below w1.heap.size w1 wf) := by
        rw [hwf]
        exact (below_then HD1.out HDEE.out).setCell HSZ.out.2 _
      have HS : Hid (∀ v, Below wf.heap.size wf v → (v.cell? ⟨w.heap.size, 0, none⟩ = some (.int .i64 k) ∧ v.cell? ⟨w.heap.size, 1, none⟩ = some (.int .i64 r) ∧ v.cell? ⟨w.heap.size, 2, none⟩ = some (.int .i64 c) ∧ v.cell? ⟨w.heap.size, 3, none⟩ = some (.int .i64 q)) ∧ (v.cell? ⟨wb.heap.size, 0, none⟩ = some (.int .i64 (A : Int)) ∧ v.cell? ⟨wb.heap.size, 1, none⟩ = some (.int .i64 (D : Int)) ∧ v.cell? ⟨wb.heap.size, 2, none⟩ = some (.slice uo M uc)) ∧ (convert 29 9 (.slice (some ⟨b, off, none⟩) W bc)).run Try.prog v = .ok (.string (sOf (lsF W F))) v) := fun v hv => ⟨(HP.out v (below_then HF1.out hv)).1, ⟨held HXF.out.1 hv, held HXF.out.2.1 hv, held HXF.out.2.2 hv⟩, conv_any (HBE.out.below (below_then HBB.out (below_then HF1.out hv)))⟩
      clear hou he hbe p0 p1 p2 p3 t0 t1 t2 f
      go_wp2_with fail
      rw [← hwf]
      clear hwf x0 x1 x2 xf HOU HXY
      have HS2 : ∀ v, Below wf.heap.size wf v → (v.cell? ⟨w.heap.size, 0, none⟩ = some (.int .i64 k) ∧ v.cell? ⟨w.heap.size, 1, none⟩ = some (.int .i64 r) ∧ v.cell? ⟨w.heap.size, 2, none⟩ = some (.int .i64 c) ∧ v.cell? ⟨w.heap.size, 3, none⟩ = some (.int .i64 q) ∧ v.cell? ⟨wb.heap.size, 0, none⟩ = some (.int .i64 (A : Int)) ∧ v.cell? ⟨wb.heap.size, 1, none⟩ = some (.int .i64 (D : Int)) ∧ v.cell? ⟨wb.heap.size, 2, none⟩ = some (.slice uo M uc) ∧ (convert 29 9 (.slice (some ⟨b, off, none⟩) W bc)).run Try.prog v = .ok (.string (sOf (lsF W F))) v) := fun v hv => by
        obtain ⟨⟨a1, a2, a3, a4⟩, ⟨a5, a6, a7⟩, a8⟩ := HS.out v hv
        exact ⟨a1, a2, a3, a4, a5, a6, a7, a8⟩
      have CMY := fun v (hv : Below wf.heap.size wf v) => DMay_any h v (A : Int) (D : Int) uo M uc RR VV (HOF.out.rec.rd.below hv)
      obtain ⟨ok, hok⟩ : ∃ ok, okD W q (A : Int) (D : Int) M RR VV = ok := ⟨_, rfl⟩
      rw [hok] at CMY
      cases ok
      · have HE2 : Hid (E = 150) := HNO.out hok
        clear hok
        refine wp_region_noPanic (pr_no wf k r c q (A : Int) (D : Int) w.heap.size wb.heap.size W bc M uo (some ⟨b, off, none⟩) uc (sOf (lsF W F)) HS2 CMY _ (fun _ _ _ h => h) (fun wg hg => NoPanic.normal ?_))
        have HG1 : Hid (Below w1.heap.size w1 wg) := below_then HF1.out hg
        clear hg HS2 CMY
        obtain ⟨_, ⟨t0, t1, t2⟩, f⟩ := HP.out _ HG1.out
        go_wp2_with fail
        refine bodyPost_ret (v := .tuple #[.agg #[.int .i64 0, .int .i64 0, .slice none 0 0], .int .i64 150]) (by simp [results, Try.results22, go_sem, t0, t1, t2]) rfl ⟨none, 0, by rw [HE2.out]; rfl, by rw [HE2.out]; exact owr_nil _ _ _ _, ?_⟩
        have hB := below_then HBB.out HG1.out
        exact ((hB.setCell (Nat.le_succ _) _).setCell (Nat.le_succ _) _).setCell (Nat.le_succ _) _
      · have CMD := fun v (hv : Below wf.heap.size wf v) => MadeD_any h v (A : Int) (D : Int) uo M uc RR VV (HOF.out.rec.rd.below hv) hok
        obtain ⟨GG, hGG⟩ : ∃ G, deB (A : Int) (D : Int) M RR VV = G := ⟨_, rfl⟩
        rw [hGG] at CMD
        have HGE : Hid (∀ j, j < W → GG j = if j < 7 + 6 * M then F j else 0) := fun j _ => by rw [← hGG]; exact HDE.out j
        have HIS := HYES.out hok
        have CMD2 := fun v hv => (CMD v hv).mono (R' := fun e w' => ∃ g2, e = .returned (.slice (some ⟨g2, 0, none⟩) W W) ∧ (convert 29 9 (.slice (some ⟨g2, 0, none⟩) W W)).run Try.prog w' = .ok (.string (sOf (lsF W GG))) w' ∧ Below v.heap.size v w') (by rintro e w' ⟨g2, h1, h2, h3, h4⟩; exact ⟨g2, h1, conv_any h2.bec, h4⟩)
        clear hok hGG CMD
        by_cases his : ∀ j, j < W → 7 + 6 * M ≤ j → F j = 0
        · have hE0 : E = 0 := HIS.1 his
          have hls : lsF W GG = lsF W F := lsF_eq.2 ⟨rfl, fun j hj => by
            rw [HGE.out j hj]
            split
            · rfl
            · exact (his j hj (by omega)).symm⟩
          have hls2 : (sOf (lsF W GG)).toList = (sOf (lsF W F)).toList := by rw [hls]
          clear his HIS hls
          refine wp_region_noPanic (pr_eq wf k r c q (A : Int) (D : Int) w.heap.size wb.heap.size W bc M uo (some ⟨b, off, none⟩) uc (sOf (lsF W F)) (sOf (lsF W GG)) hls2 HS2 CMY CMD2 _ (fun _ _ _ h => h) (fun wg g2 hg => NoPanic.normal ?_))
          have HG1 : Hid (Below w1.heap.size w1 wg) := below_then HF1.out hg
          have HOG : Hid (OwR wd.heap.size wg uo M uc RR VV) := HOF.out.below hg
          obtain ⟨_, _, _, _, x0, x1, x2, _⟩ := HS2 wg hg
          clear hg HS2 CMY CMD2 hls2
          obtain ⟨_, ⟨t0, t1, t2⟩, f⟩ := HP.out _ HG1.out
          have HTT : Hid (∀ t, wd.heap.size ≤ t → t ≠ w.heap.size + 1) := fun t ht e => by have h1 := HSZ.out; have h2 := HZ1.out; omega
          have HLL : Hid (w.heap.size ≤ wd.heap.size) := by have h1 := HSZ.out; have h2 := HZ1.out; show _ ≤ _; omega
          subst hE0
          go_wp2_with fail
          refine bodyPost_ret (v := .tuple #[.agg #[.int .i64 (A : Int), .int .i64 (D : Int), .slice uo M uc], .int .i64 0]) (by simp [results, Try.results22, go_sem, t0, t1, t2]) rfl ⟨uo, uc, by rw [lenE_zero, lenI_zero, lenI_zero], by rw [lenE_zero]; refine OwR.mono (HOG.out.stay fun t ht _ => ?_) HLL.out; have hne := HTT.out t ht; exact (heap_setCell_other _ _ _ _ hne).trans ((heap_setCell_other _ _ _ _ hne).trans (heap_setCell_other _ _ _ _ hne)), ?_⟩
          have hB := below_then HBB.out HG1.out
          exact ((hB.setCell (Nat.le_succ _) _).setCell (Nat.le_succ _) _).setCell (Nat.le_succ _) _
        · have HE2 : Hid (E = 150) := HIS.2 his
          have hls2 : ¬ (sOf (lsF W GG)).toList = (sOf (lsF W F)).toList := fun e => by
            rw [sOf_list, sOf_list] at e
            refine his fun j hj hl => ?_
            have h1 := (lsF_eq.1 e).2 j hj
            rw [HGE.out j hj, if_neg (by omega)] at h1
            exact h1.symm
          clear his HIS
          refine wp_region_noPanic (pr_ne wf k r c q (A : Int) (D : Int) w.heap.size wb.heap.size W bc M uo (some ⟨b, off, none⟩) uc (sOf (lsF W F)) (sOf (lsF W GG)) hls2 HS2 CMY CMD2 _ (fun _ _ _ h => h) (fun wg g2 hg => NoPanic.normal ?_))
          have HG1 : Hid (Below w1.heap.size w1 wg) := below_then HF1.out hg
          clear hg HS2 CMY CMD2 hls2
          obtain ⟨_, ⟨t0, t1, t2⟩, f⟩ := HP.out _ HG1.out
          go_wp2_with fail
          refine bodyPost_ret (v := .tuple #[.agg #[.int .i64 0, .int .i64 0, .slice none 0 0], .int .i64 150]) (by simp [results, Try.results22, go_sem, t0, t1, t2]) rfl ⟨none, 0, by rw [HE2.out]; rfl, by rw [HE2.out]; exact owr_nil _ _ _ _, ?_⟩
          have hB := below_then HBB.out HG1.out
          exact ((hB.setCell (Nat.le_succ _) _).setCell (Nat.le_succ _) _).setCell (Nat.le_succ _) _
          )
end Go.Proofs.Ytjncnojplkljnaa
