/- What bytes are, as a leaf, by the document. -/
import Derived.Test.YtjncnojplkljnaaDeS
import Derived.Test.YtjncnojplkljnaaDeE
import Derived.Test.YtjncnojplkljnaaDsL
namespace Go.Proofs.Ytjncnojplkljnaa
open Go.RowKit
theorem lfB_all (n : Nat) (F : Nat → UInt8) (j : Nat) : lfB n (rdR F 0) (rdV F 0) j = if j < 6 * n then F j else 0 := by
  unfold lfB
  split
  · rw [rfB_rd, Nat.zero_add]
  · rfl
set_option maxHeartbeats 4000000 in
set_option maxRecDepth 100000 in
theorem RRefs_no {k r c q : Int} {N W : Nat} {y : Int} (h : Par k r c q N W y) (w : World) (bo : Option Addr) (m bc : Nat) (n : Int) (E : Int) (hE : (if y = 0 then (if m = W then (if n < 1 ∨ ((lea W : Nat) : Int) < n then (20 : Int) else 0) else 20) else y) = E) (hne : E ≠ 0) (t : Nat) (R V : Nat → Int) :
    Calls Try.prog 23 #[.agg #[.int .i64 k, .int .i64 r, .int .i64 c, .int .i64 q], .slice bo m bc, .int .i64 n] w (AnsR w E t R V) := by
  have HM := fun v => May_any k r c q v
  rw [h.may] at HM
  unfold AnsR
  rw [lenE_not hne]
  obtain ⟨w0, hw0⟩ : ∃ w0, w0 = w.alloc (.cells #[.int .i64 k, .int .i64 r, .int .i64 c, .int .i64 q] 24) := ⟨_, rfl⟩
  have b0 : Below w.heap.size w w0 := by rw [hw0]; exact below_alloc _ _
  have HBB : Hid (Below w.heap.size w w0) := b0
  have HP : Hid (∀ u, Below w0.heap.size w0 u → u.cell? ⟨w.heap.size, 0, none⟩ = some (.int .i64 k) ∧ u.cell? ⟨w.heap.size, 1, none⟩ = some (.int .i64 r) ∧ u.cell? ⟨w.heap.size, 2, none⟩ = some (.int .i64 c) ∧ u.cell? ⟨w.heap.size, 3, none⟩ = some (.int .i64 q)) := fun u hu => par_held hw0 hu
  rcases h.err with rfl | rfl
  · rw [if_pos rfl] at hE
    rw [decide_eq_true rfl] at HM
    obtain ⟨hmy, hW, _, hq⟩ := h.fine
    obtain ⟨f1, f2, f3, _, hkc⟩ := h.good hmy
    clear hkc
    have HL := fun v => L_good k r c q v W f1 f2 f3
    have HW := fun v => W_any k r c q v
    rw [f1] at HW
    by_cases hm : m = W
    · subst hm
      rw [if_pos rfl] at hE
      have hn2 : ((m : Int) != (m : Int)) = false := by simp
      by_cases h1 : n < 1
      · rw [if_pos (.inl h1)] at hE
        subst hE
        have e1 : decide (n < 1) = true := decide_eq_true h1
        clear h hmy f1 f2 f3 hq hne HL
        go_enter Try.func23, Try.ntmps23
        go_wp2_with fail
        rw [← hw0]
        clear hw0 b0
        refine (HM _).mono ?_
        rintro e wa ⟨rfl, ha⟩
        obtain ⟨p0, p1, p2, p3⟩ := HP.out _ ha
        go_wp2_with fail
        refine (HW _).mono ?_
        rintro e wb ⟨rfl, hb⟩
        have k2 : Hid (Below w0.heap.size w0 wb) := below_then ha hb
        clear p0 p1 p2 p3 ha hb
        obtain ⟨p0, p1, p2, p3⟩ := HP.out _ k2.out
        go_wp2_with fail
        go_ret2
        exact ⟨none, 0, rfl, owr_nil _ _ _ _, below_then HBB.out k2.out⟩
      · by_cases h2 : ((lea m : Nat) : Int) < n
        · rw [if_pos (.inr h2)] at hE
          subst hE
          have e1 : decide (n < 1) = false := decide_eq_false h1
          generalize lea m = ll at *
          have e2 : decide ((ll : Int) < n) = true := decide_eq_true h2
          clear h hmy f1 f2 f3 hq hne
          go_enter Try.func23, Try.ntmps23
          go_wp2_with fail
          rw [← hw0]
          clear hw0 b0
          refine (HM _).mono ?_
          rintro e wa ⟨rfl, ha⟩
          obtain ⟨p0, p1, p2, p3⟩ := HP.out _ ha
          go_wp2_with fail
          refine (HW _).mono ?_
          rintro e wb ⟨rfl, hb⟩
          have k2 : Hid (Below w0.heap.size w0 wb) := below_then ha hb
          clear p0 p1 p2 p3 ha hb
          obtain ⟨p0, p1, p2, p3⟩ := HP.out _ k2.out
          go_wp2_with fail
          refine (HL _).mono ?_
          rintro e wl ⟨rfl, hl⟩
          have k3 : Hid (Below w0.heap.size w0 wl) := below_then k2.out hl
          clear p0 p1 p2 p3 hl
          obtain ⟨p0, p1, p2, p3⟩ := HP.out _ k3.out
          go_wp2_with fail
          go_ret2
          exact ⟨none, 0, rfl, owr_nil _ _ _ _, below_then HBB.out k3.out⟩
        · rw [if_neg (by omega)] at hE
          exact absurd hE.symm hne
    · rw [if_neg hm] at hE
      subst hE
      have hn2 : ((m : Int) != (W : Int)) = true := by simpa using (by omega : ¬ (m : Int) = (W : Int))
      clear h hmy f1 f2 f3 hq hne hm HL
      go_enter Try.func23, Try.ntmps23
      go_wp2_with fail
      rw [← hw0]
      clear hw0 b0
      refine (HM _).mono ?_
      rintro e wa ⟨rfl, ha⟩
      obtain ⟨p0, p1, p2, p3⟩ := HP.out _ ha
      go_wp2_with fail
      refine (HW _).mono ?_
      rintro e wb ⟨rfl, hb⟩
      have k2 : Hid (Below w0.heap.size w0 wb) := below_then ha hb
      clear p0 p1 p2 p3 ha hb
      obtain ⟨p0, p1, p2, p3⟩ := HP.out _ k2.out
      go_wp2_with fail
      go_ret2
      exact ⟨none, 0, rfl, owr_nil _ _ _ _, below_then HBB.out k2.out⟩
  · rw [if_neg (by decide)] at hE
    subst hE
    rw [decide_eq_false (by decide)] at HM
    clear h hne
    go_enter Try.func23, Try.ntmps23
    go_wp2_with fail
    rw [← hw0]
    clear hw0 b0
    refine (HM _).mono ?_
    rintro e wa ⟨rfl, ha⟩
    obtain ⟨p0, p1, p2, p3⟩ := HP.out _ ha
    go_wp2_with fail
    go_ret2
    exact ⟨none, 0, rfl, owr_nil _ _ _ _, below_then HBB.out ha⟩
set_option maxHeartbeats 8000000 in
set_option maxRecDepth 100000 in
theorem RRefs_ok {k r c q : Int} {N W : Nat} (h : Par k r c q N W 0) (w : World) (bo : Option Addr) (bc : Nat) (F : Nat → UInt8) (hB : Bec w bo W bc F) (n : Nat) (h1 : 1 ≤ n) (h2 : n ≤ lea W) (E : Int) (hE : (if isL W q n F = true then (0 : Int) else 150) = E) :
    Calls Try.prog 23 #[.agg #[.int .i64 k, .int .i64 r, .int .i64 c, .int .i64 q], .slice bo W bc, .int .i64 (n : Int)] w (AnsR w E n (rdR F 0) (rdV F 0)) := by
  obtain ⟨hmy, hW1, hW2, hq⟩ := h.fine
  obtain ⟨f1, f2, f3, _, hkc⟩ := h.good hmy
  clear hkc
  have hll := lea_le hW2
  have hlr := lea_room W
  have HM := fun v => May_any k r c q v
  rw [h.may, decide_eq_true rfl] at HM
  have HW := fun v => W_any k r c q v
  have HL := fun v => L_good k r c q v W f1 f2 f3
  rw [f1] at HW
  have HRD := fun v hv => read_any v bo W bc n F hv (by omega) (by omega)
  have HRF := fun v uo uc hv => refs_any k r c q v uo n uc (rdR F 0) (rdV F 0) hv (by omega)
  have hn2 : ((W : Int) != (W : Int)) = false := by simp
  have HBE : Hid (Bec w bo W bc F) := hB
  have e1 : decide ((n : Int) < 1) = false := decide_eq_false (by omega)
  have i1 : ¬ (n : Int) < 1 := by omega
  have e2 : decide ((lea W : Int) < (n : Int)) = false := decide_eq_false (by omega)
  have i2 : ¬ (lea W : Int) < (n : Int) := by omega
  have HCW : Hid (∀ v bo bc H, Bec v bo (6 * n) bc H → Calls Try.prog 43 #[.agg #[.int .i64 k, .int .i64 r, .int .i64 c, .int .i64 q], .slice bo (6 * n) bc] v fun e w' => ∃ g, e = .returned (.slice (some ⟨g, 0, none⟩) W W) ∧ Bk w' g W (upR (fun _ => 0) 0 (6 * n) H) ∧ v.heap.size ≤ g ∧ Below v.heap.size v w') := fun v bo bc H hv => wide_any (r := r) (q := q) f1 hW2 v bo (6 * n) bc H hv (by omega) (by omega)
  have HNO : Hid (okL q n (rdR F 0) (rdV F 0) = false → E = 150) := fun hk => by rw [← hE, if_neg]; intro hd; have := (isL_true hd).1; rw [hk] at this; cases this
  have HYES : Hid (okL q n (rdR F 0) (rdV F 0) = true → ((∀ j, j < W → 6 * n ≤ j → F j = 0) → E = 0) ∧ ((¬ ∀ j, j < W → 6 * n ≤ j → F j = 0) → E = 150)) := fun hk => by
    rw [← hE]
    constructor
    · intro hz
      rw [if_pos]
      exact decide_eq_true ⟨hk, hz⟩
    · intro hz
      rw [if_neg]
      intro hd
      exact hz (isL_true hd).2
  unfold AnsR
  have HCT : Hid (okL q n (rdR F 0) (rdV F 0) = true → ∀ v uo uc, RdR v uo n (rdR F 0) (rdV F 0) → Calls Try.prog 44 #[.slice uo n uc] v fun e w' => ∃ to tc, e = .returned (.slice to (6 * n) tc) ∧ OwU v.heap.size w' to (6 * n) tc (rfB (rdR F 0) (rdV F 0)) ∧ Below v.heap.size v w') := fun hk v uo uc hv => told_any v uo n uc (rdR F 0) (rdV F 0) hv (by omega) (okL_nums hq hk)
  obtain ⟨w0, hw0⟩ : ∃ w0, w0 = w.alloc (.cells #[.int .i64 k, .int .i64 r, .int .i64 c, .int .i64 q] 24) := ⟨_, rfl⟩
  have b0 : Below w.heap.size w w0 := by rw [hw0]; exact below_alloc _ _
  have HBB : Hid (Below w.heap.size w w0) := b0
  have HP : Hid (∀ u, Below w0.heap.size w0 u → u.cell? ⟨w.heap.size, 0, none⟩ = some (.int .i64 k) ∧ u.cell? ⟨w.heap.size, 1, none⟩ = some (.int .i64 r) ∧ u.cell? ⟨w.heap.size, 2, none⟩ = some (.int .i64 c) ∧ u.cell? ⟨w.heap.size, 3, none⟩ = some (.int .i64 q)) := fun u hu => par_held hw0 hu
  clear h hB hE hmy f1 f2 f3 hll hlr h2
  generalize lea W = ll at *
  go_enter Try.func23, Try.ntmps23
  go_wp2_with fail
  rw [← hw0]
  clear hw0 b0
  refine (HM _).mono ?_
  rintro e wa ⟨rfl, ha⟩
  obtain ⟨p0, p1, p2, p3⟩ := HP.out _ ha
  go_wp2_with fail
  refine (HW _).mono ?_
  rintro e wb ⟨rfl, hb⟩
  have k2 : Hid (Below w0.heap.size w0 wb) := below_then ha hb
  clear p0 p1 p2 p3 ha hb
  obtain ⟨p0, p1, p2, p3⟩ := HP.out _ k2.out
  go_wp2_with fail
  refine (HL _).mono ?_
  rintro e wl ⟨rfl, hl⟩
  have k3 : Hid (Below w0.heap.size w0 wl) := below_then k2.out hl
  clear p0 p1 p2 p3 hl
  obtain ⟨p0, p1, p2, p3⟩ := HP.out _ k3.out
  go_wp2_with fail
  refine (HRD _ (HBE.out.below (below_then HBB.out k3.out))).mono ?_
  rintro e we ⟨uo, uc, rfl, hou, he⟩
  have HOU : Hid (OwR w.heap.size we uo n uc (rdR F 0) (rdV F 0)) := hou.mono (below_then HBB.out k3.out).size
  have k4 : Hid (Below w0.heap.size w0 we) := below_then k3.out he
  clear p0 p1 p2 p3 hou he
  obtain ⟨p0, p1, p2, p3⟩ := HP.out _ k4.out
  go_wp2_with fail
  have HS2 : ∀ v, Below we.heap.size we v → (v.cell? ⟨w.heap.size, 0, none⟩ = some (.int .i64 k) ∧ v.cell? ⟨w.heap.size, 1, none⟩ = some (.int .i64 r) ∧ v.cell? ⟨w.heap.size, 2, none⟩ = some (.int .i64 c) ∧ v.cell? ⟨w.heap.size, 3, none⟩ = some (.int .i64 q) ∧ (convert 29 9 (.slice bo W bc)).run Try.prog v = .ok (.string (sOf (lsF W F))) v) := fun v hv => by
    obtain ⟨a1, a2, a3, a4⟩ := HP.out v (below_then k4.out hv)
    exact ⟨a1, a2, a3, a4, conv_any (HBE.out.below (below_then HBB.out (below_then k4.out hv)))⟩
  have CMY := fun v (hv : Below we.heap.size we v) => HRF v uo uc (HOU.out.rec.rd.below hv)
  obtain ⟨ok, hok⟩ : ∃ ok, okL q n (rdR F 0) (rdV F 0) = ok := ⟨_, rfl⟩
  rw [hok] at CMY
  cases ok
  · have HE2 : Hid (E = 150) := HNO.out hok
    clear hok
    refine wp_region_noPanic (rr_no we k r c q w.heap.size W bc n uo bo uc (sOf (lsF W F)) HS2 CMY _ (fun _ _ _ h => h) (fun wg hg => NoPanic.normal ?_))
    go_wp2_with fail
    go_ret2
    exact ⟨none, 0, by rw [HE2.out]; rfl, by rw [HE2.out]; exact owr_nil _ _ _ _, below_then HBB.out (below_then k4.out hg)⟩
  · have CTD := fun v (hv : Below we.heap.size we v) => HCT.out hok v uo uc (HOU.out.rec.rd.below hv)
    have CWD : ∀ v to tc, Below we.heap.size we v → Bec v to (6 * n) tc (rfB (rdR F 0) (rdV F 0)) → Calls Try.prog 43 #[.agg #[.int .i64 k, .int .i64 r, .int .i64 c, .int .i64 q], .slice to (6 * n) tc] v fun e w' => ∃ g2, e = .returned (.slice (some ⟨g2, 0, none⟩) W W) ∧ (convert 29 9 (.slice (some ⟨g2, 0, none⟩) W W)).run Try.prog w' = .ok (.string (sOf (lsF W (lfB n (rdR F 0) (rdV F 0))))) w' ∧ Below v.heap.size v w' := fun v to tc _ hv => (HCW.out v to tc _ hv).mono (by
      rintro e w' ⟨g2, h1, h2, h3, h4⟩
      refine ⟨g2, h1, ?_, h4⟩
      have := conv_any h2.bec
      rw [show (upR (fun _ => 0) 0 (6 * n) (rfB (rdR F 0) (rdV F 0))) = lfB n (rdR F 0) (rdV F 0) from funext fun j => lf_wide n _ _ j] at this
      exact this)
    have HIS := HYES.out hok
    have hmem : ∀ j, lfB n (rdR F 0) (rdV F 0) j = if j < 6 * n then F j else 0 := lfB_all n F
    clear hok
    by_cases his : ∀ j, j < W → 6 * n ≤ j → F j = 0
    · have hE0 : E = 0 := HIS.1 his
      have hls : lsF W (lfB n (rdR F 0) (rdV F 0)) = lsF W F := lsF_eq.2 ⟨rfl, fun j hj => by
        rw [hmem j]
        split
        · rfl
        · exact (his j hj (by omega)).symm⟩
      have hls2 : (sOf (lsF W (lfB n (rdR F 0) (rdV F 0)))).toList = (sOf (lsF W F)).toList := by rw [hls]
      clear his HIS hls hmem
      refine wp_region_noPanic (rr_eq we k r c q w.heap.size W bc n uo bo uc (sOf (lsF W F)) (sOf (lsF W (lfB n (rdR F 0) (rdV F 0)))) (rfB (rdR F 0) (rdV F 0)) hls2 HS2 CMY CTD CWD _ (fun _ _ _ h => h) (fun wg g2 to tc hg => NoPanic.normal ?_))
      have HG1 : Hid (Below w0.heap.size w0 wg) := below_then k4.out hg
      have HOG : Hid (OwR w.heap.size wg uo n uc (rdR F 0) (rdV F 0)) := HOU.out.below hg
      clear hg HS2 CMY CTD CWD hls2
      subst hE0
      go_wp2_with fail
      go_ret2
      exact ⟨uo, uc, by rw [lenE_zero]; rfl, by rw [lenE_zero]; exact HOG.out, below_then HBB.out HG1.out⟩
    · have HE2 : Hid (E = 150) := HIS.2 his
      have hls2 : ¬ (sOf (lsF W (lfB n (rdR F 0) (rdV F 0)))).toList = (sOf (lsF W F)).toList := fun e => by
        rw [sOf_list, sOf_list] at e
        refine his fun j hj hl => ?_
        have h1 := (lsF_eq.1 e).2 j hj
        rw [hmem j, if_neg (by omega)] at h1
        exact h1.symm
      clear his HIS hmem
      refine wp_region_noPanic (rr_ne we k r c q w.heap.size W bc n uo bo uc (sOf (lsF W F)) (sOf (lsF W (lfB n (rdR F 0) (rdV F 0)))) (rfB (rdR F 0) (rdV F 0)) hls2 HS2 CMY CTD CWD _ (fun _ _ _ h => h) (fun wg g2 to tc hg => NoPanic.normal ?_))
      have HG1 : Hid (Below w0.heap.size w0 wg) := below_then k4.out hg
      clear hg HS2 CMY CTD CWD hls2
      go_wp2_with fail
      go_ret2
      exact ⟨none, 0, by rw [HE2.out]; rfl, by rw [HE2.out]; exact owr_nil _ _ _ _, below_then HBB.out HG1.out⟩
theorem RRefs_any {k r c q : Int} {N W : Nat} {y : Int} (h : Par k r c q N W y) (w : World) (bo : Option Addr) (m bc : Nat) (F : Nat → UInt8) (hB : Bec w bo m bc F) (n : Int) (E : Int) (hE : erR y W q m n F = E) :
    Calls Try.prog 23 #[.agg #[.int .i64 k, .int .i64 r, .int .i64 c, .int .i64 q], .slice bo m bc, .int .i64 n] w (AnsR w E n.toNat (rdR F 0) (rdV F 0)) := by
  unfold erR at hE
  rcases h.err with rfl | rfl
  · rw [if_pos rfl] at hE
    by_cases hm : m = W
    · rw [if_pos hm] at hE
      subst hm
      by_cases hn : n < 1 ∨ ((lea m : Nat) : Int) < n
      · rw [if_pos hn] at hE
        subst hE
        exact RRefs_no h w bo m bc n 20 (by rw [if_pos rfl, if_pos rfl, if_pos hn]) (by decide) _ _ _
      · rw [if_neg hn] at hE
        obtain ⟨t, rfl⟩ : ∃ t : Nat, n = (t : Int) := ⟨n.toNat, by omega⟩
        rw [Int.toNat_natCast] at hE ⊢
        exact RRefs_ok h w bo bc F hB t (by omega) (by omega) E hE
    · rw [if_neg hm] at hE
      exact RRefs_no h w bo m bc n E (by rw [if_pos rfl, if_neg hm]; exact hE) (by rw [← hE]; decide) _ _ _
  · rw [if_neg (by decide)] at hE
    exact RRefs_no h w bo m bc n E (by rw [if_neg (by decide)]; exact hE) (by rw [← hE]; decide) _ _ _
end Go.Proofs.Ytjncnojplkljnaa
