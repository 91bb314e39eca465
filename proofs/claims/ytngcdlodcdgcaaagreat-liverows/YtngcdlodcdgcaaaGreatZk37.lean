import Derived.Test.YtngcdlodcdgcaaaGreatZk36
namespace Go.Proofs.YtngcdlodcdgcaaaGreat
open Go.RowKit
theorem neqv_yes (w : World) (a : Addr) (l c : Nat) : (binOp .neq 33 (.slice (some a) l c) (.slice none 0 0)).run Tryz.prog w = .ok (.bool true) w := run_neq_slice_nil w 33 3 (some a) l c Tryz.underlying33
theorem neqv_no (w : World) : (binOp .neq 33 (.slice none 0 0) (.slice none 0 0)).run Tryz.prog w = .ok (.bool false) w := run_neq_slice_nil w 33 3 none 0 0 Tryz.underlying33
theorem he_err {N : Nat} {c : Int} {n0 n1 : Nat} {kd : UInt8} {i : Nat} (hk : kd = 1 \/ kd = 2) (h0 : n0 = 0 \/ n0 = sz N c) (h1 : n1 = 0 \/ n1 = sz N c) (hi : i < N) : erC 0 N c n0 n1 ((kd.toNat : Nat) : Int) (i : Int) = 0 := by
  have e0 : erQ 0 N c n0 = 0 := by unfold erQ; rw [if_pos rfl, if_pos h0]
  have e1 : erQ 0 N c n1 = 0 := by unfold erQ; rw [if_pos rfl, if_pos h1]
  have eT : erT 0 N c n0 n1 = 0 := by unfold erT; rw [if_pos e0, e1]
  unfold erC
  rw [if_pos eT, if_pos]
  refine ⟨?_, by omega, by omega⟩
  rcases hk with rfl | rfl
  · exact .inl rfl
  · exact .inr rfl
theorem at_six {a v : World} {g : Nat} {t : TypeId} {x0 x1 x2 x3 x4 x5 : Value} (h : At a v g #[x0, x1, x2, x3, x4, x5] t) (u0 u1 u2 u3 u4 u5 : Value) : At a ((((((v.setCell ⟨g, 0, none⟩ u0).setCell ⟨g, 1, none⟩ u1).setCell ⟨g, 2, none⟩ u2).setCell ⟨g, 3, none⟩ u3).setCell ⟨g, 4, none⟩ u4).setCell ⟨g, 5, none⟩ u5) g #[u0, u1, u2, u3, u4, u5] t := (((((h.set 0 u0).set 1 u1).set 2 u2).set 3 u3).set 4 u4).set 5 u5
structure Each (wz : World) (N : Nat) (A : Nat -> Option Addr) (L C : Nat -> Nat) (z : Nat -> Sl) (fn : Nat) (cap : Array Value) (I : Nat -> World -> (Nat -> Prop) -> Prop) : Prop where
  fnc : ∀ xs w, (callFunc fn xs).run Tryz.prog w = .ok (.enter fn xs) w
  stab : ∀ d v v' Y, I d v Y -> Below v.heap.size v v' -> I d v' Y
  at_ : ∀ d v Y, I d v Y -> ∀ g, Y g -> wz.heap.size <= g /\ g < v.heap.size
  step : ∀ d, d < N -> ∀ v Y B, I d v Y -> Below wz.heap.size wz v -> (∀ g, Y g -> g < B) -> ∀ ao ca bo cb, Got B v (z d) ao ca bo cb ->
    Calls Tryz.prog fn (#[.int .i64 (d : Int), .agg #[.slice (A (2 * d)) (L (2 * d)) (C (2 * d)), .slice (A (2 * d + 1)) (L (2 * d + 1)) (C (2 * d + 1))], slv (z d) ao ca bo cb] ++ cap) v fun e v' => e = .returned (.tuple #[]) /\ ∃ Y', I (d + 1) v' Y' /\ Only Y v v' /\ ∀ g, Y' g -> Y g \/ v.heap.size <= g
set_option maxHeartbeats 8000000 in
set_option maxRecDepth 100000 in
theorem each_any {k r c q : Int} {N W : Nat} (h : Par k r c q N W 0) (wz w : World) (hbz : Below wz.heap.size wz w) (ro : Option Addr) (rc : Nat) (A : Nat -> Option Addr) (L C : Nat -> Nat) (F : Nat -> Nat -> UInt8) (hr : Rw wz ro N A L C F) (hL : ∀ j, j < 2 * N -> L j = 0 \/ L j = sz N c) (kd : UInt8) (hk : kd = 1 \/ kd = 2) (v : Int) (t : Sl) (ht : tS (yy N c L F) kd v (2 * N) = t)
    (fn : Nat) (cap : Array Value) (I : Nat -> World -> (Nat -> Prop) -> Prop) (hE : Each wz N A L C (zz (yy N c L F) kd t) fn cap I) (Y0 : Nat -> Prop) (h0 : I 0 w Y0) :
    Calls Tryz.prog 131 #[stv k r c q ro N rc kd, .int .i64 v, .func (.func fn) #[] cap] w fun e w' => e = .returned (.tuple #[]) /\ ∃ Y, I N w' Y /\ Only Y0 w w' /\ ∀ g, Y g -> Y0 g \/ w.heap.size <= g := by
  have hle := h.le
  have HV : Hid (∀ u, Below wz.heap.size wz u -> Calls Tryz.prog 144 #[stv k r c q ro N rc kd, .int .i64 v] u (AnsV u t)) := fun u hu => vector_any h u ro rc A L C F (hr.below hu) hL kd hk v t ht
  obtain ⟨w0, hw0⟩ : ∃ w0, w0 = w.alloc (.cells #[.int .i64 k, .int .i64 r, .int .i64 c, .int .i64 q, .slice ro N rc, .int .u8 ((kd.toNat : Nat) : Int)] 186) := ⟨_, rfl⟩
  have B0 : Hid (Below w.heap.size w w0) := by show Below _ _ _; rw [hw0]; exact below_alloc _ _
  have Z0 : Hid (w0.heap.size = w.heap.size + 1) := by show _ = _; rw [hw0]; simp
  have L0 : Hid (∀ v, Below w0.heap.size w0 v -> At w v w.heap.size #[.int .i64 k, .int .i64 r, .int .i64 c, .int .i64 q, .slice ro N rc, .int .u8 ((kd.toNat : Nat) : Int)] 186) := fun v hv => (at_made (Below.refl _ _) hw0).below hv
  have HR : Hid (Rw wz ro N A L C F) := hr
  have HEa : Hid (Each wz N A L C (zz (yy N c L F) kd t) fn cap I) := hE
  have hfn := hE.fnc
  have HI : Hid (I 0 w Y0) := h0
  have HBZ : Hid (Below wz.heap.size wz w) := hbz
  have HF : Hid (∀ u i, Below wz.heap.size wz u -> i < N -> t.ce ≠ 0 -> Calls Tryz.prog 145 #[.agg #[.int .i64 k, .int .i64 r, .int .i64 c, .int .i64 q], .agg #[.slice (A (2 * i)) (L (2 * i)) (C (2 * i)), .slice (A (2 * i + 1)) (L (2 * i + 1)) (C (2 * i + 1))], .int .u8 ((kd.toNat : Nat) : Int), .int .i64 (i : Int), .int .i64 (t.V i)] u fun e w' => ∃ n y ao ca bo cb, e = .returned (.tuple #[.int .i64 (n : Int), slv (zz (yy N c L F) kd t i) ao ca bo cb, .bool y, .int .i64 0]) /\ Got u.heap.size w' (zz (yy N c L F) kd t i) ao ca bo cb /\ Below u.heap.size u w') := fun u i hu hi hne => by
    have hv1 : 1 <= t.V i /\ t.V i <= 1073741824 := by
      rcases tS_is (v := v) hk (yy_ok N c L F) (2 * N) (Nat.le_refl _) with ⟨a, _⟩ | ⟨j, _, a2, _, a4, _⟩
      · rw [ht] at a; rw [a] at hne; exact absurd rfl hne
      · rw [ht] at a2; rw [a2]; exact (ok_of a4.1).V i hi
    have hE0 : erF (erC 0 N c (L (2 * i)) (L (2 * i + 1)) ((kd.toNat : Nat) : Int) (i : Int)) (t.V i) = 0 := by
      unfold erF; rw [if_pos (he_err hk (hL _ (by omega)) (hL _ (by omega)) hi), if_pos hv1]
    have hy0 : he 0 N c (i : Int) (L (2 * i)) (F (2 * i)) = yy N c L F (2 * i) := by unfold yy; rw [show 2 * i / 2 = i by omega]
    have hy1 : he 0 N c (i : Int) (L (2 * i + 1)) (F (2 * i + 1)) = yy N c L F (2 * i + 1) := by unfold yy; rw [show (2 * i + 1) / 2 = i by omega]
    have hF := Find_any h u _ _ _ _ _ _ _ _ ((hr.below hu).bec (2 * i) (by omega)) ((hr.below hu).bec (2 * i + 1) (by omega)) kd (i : Int) (t.V i) 0 hE0 _ _ hy0 hy1
    refine hF.mono ?_
    rintro e w' ⟨ao, ca, bo, cb, rfl, hg, hb⟩
    have hz : zz (yy N c L F) kd t i = fZ (yy N c L F (2 * i)) (yy N c L F (2 * i + 1)) kd (t.V i) := if_neg hne
    rw [hz]
    exact ⟨_, _, ao, ca, bo, cb, rfl, hg, hb⟩
  have HZN : Hid (t.ce = 0 -> ∀ i, zz (yy N c L F) kd t i = zSl) := fun e i => if_pos e
  have HTV : Hid (t.ce ≠ 0 -> t.vn = N) := fun hne => by
    rcases tS_is (v := v) hk (yy_ok N c L F) (2 * N) (Nat.le_refl _) with ⟨a, _⟩ | ⟨j, _, a2, _, a4, _⟩
    · rw [ht] at a; rw [a] at hne; exact absurd rfl hne
    · rw [ht] at a2; rw [a2]; exact (ok_of a4.1).vn
  have HTZ : Hid (t.ce = 0 -> t.vn = 0) := fun he => by
    rcases tS_is (v := v) hk (yy_ok N c L F) (2 * N) (Nat.le_refl _) with ⟨a, _⟩ | ⟨j, _, a2, _, a4, _⟩
    · rw [ht] at a; rw [a]; rfl
    · rw [ht] at a2; rw [a2] at he; exact absurd he (ok_of a4.1).ne
  generalize zz (yy N c L F) kd t = z at *
  clear h hr hE h0 hbz ht hk hL
  unfold AnsV at HV
  unfold stv at HV ⊢
  unfold slv at HF
  go_enter Tryz.func131, Tryz.ntmps131
  go_wp2_with fail
  rw [<- hw0]
  refine (HV.out _ (HBZ.out.trans (B0.out.mono HBZ.out.size))).mono ?_
  rintro e wb ⟨ao, ca, rfl, hown, hnil, hbb⟩
  have HB : Hid (Below w0.heap.size w0 wb) := hbb
  have HO : Hid (Own w0.heap.size wb ao t.vn ca t.V) := hown
  have q0 := L0.out wb hbb
  have p4 := q0.cell (i := 4) rfl
  have HI0 : Hid (I 0 wb Y0) := HEa.out.stab _ _ _ _ HI.out (below_then B0.out hbb)
  have HY0 : Hid (∀ g, Y0 g -> wz.heap.size <= g /\ g < w.heap.size) := HEa.out.at_ _ _ _ HI.out
  clear hw0 hown hbb q0
  by_cases hne : t.ce = 0
  · have hvn := HTZ.out hne
    obtain rfl : ao = none := hnil.2 hne
    obtain rfl : ca = 0 := (HO.out.vec.nil rfl).2
    have hZ := HZN.out hne
    rw [hvn]
    have nn := neqv_no
    clear hnil hvn HF
    go_wp2_with fail
    go_loopw [16] (fun y wr => ∃ i : Nat, i <= N /\ y = .int .i64 (i : Int) /\ (∃ Y, Hid (I i wr Y) /\ Hid (∀ g, Y g -> Y0 g \/ wb.heap.size <= g)) /\ Hid (Only Y0 w wr) /\ Hid (∀ g, w.heap.size <= g -> g < wb.heap.size -> wr.heap[g]? = wb.heap[g]?) /\ Hid (wb.heap.size <= wr.heap.size)) (fun y _ => N - (intOf y).toNat)
    case atStart => exact ⟨0, Nat.zero_le _, rfl, ⟨Y0, HI0.out, fun g hg => .inl hg⟩, .of_below (below_then B0.out HB.out), fun _ _ _ => rfl, Nat.le_refl _⟩
    case round =>
      obtain ⟨i, hi, rfl, ⟨Y, hI, hY⟩, hO, hK, hS⟩ := hrel
      have hbr : Hid (Below wz.heap.size wz wr) := HBZ.out.trans (hO.out.below (fun g hg => (HY0.out g hg).1) HBZ.out.size)
      by_cases hlt : i < N
      · obtain ⟨b, off, rfl, hcc⟩ := HR.out.at_ (by omega)
        have c0 : wr.cell? ⟨b, off + i * 2, none⟩ = some (.slice (A (2 * i)) (L (2 * i)) (C (2 * i))) := held (hcc i hlt).1 hbr.out
        have c1 : wr.cell? ⟨b, off + i * 2 + 1, none⟩ = some (.slice (A (2 * i + 1)) (L (2 * i + 1)) (C (2 * i + 1))) := held (hcc i hlt).2 hbr.out
        have q4 : wr.cell? ⟨w.heap.size, 4, none⟩ = some (.slice (some ⟨b, off, none⟩) N rc) := by
          rw [World.cell?_of_block (hK.out w.heap.size (Nat.le_refl _) (by have := HB.out.size; have := Z0.out; omega))]; exact p4
        have hst := HEa.out.step i hlt
        rw [hZ] at hst
        unfold slv at hst
        have i1 : (0 : Int) <= (i : Int) := by omega
        have i2 : (i : Int) < (N : Int) := by omega
        obtain ⟨wx, hwx⟩ : ∃ wx, wx = wr.alloc (.cells #[.slice (A (2 * i)) (L (2 * i)) (C (2 * i)), .slice (A (2 * i + 1)) (L (2 * i + 1)) (C (2 * i + 1))] 127) := ⟨_, rfl⟩
        obtain ⟨wy, hwy⟩ : ∃ wy, wy = wx.alloc (.cells #[.int .u8 0, .int .i64 0, .int .i64 0, .int .i64 0, .slice none 0 0, .slice none 0 0] 83) := ⟨_, rfl⟩
        have HXY : Hid (Below wr.heap.size wr wy) := by show Below _ _ _; rw [hwy, hwx]; exact below_then (below_alloc _ _) (below_alloc _ _)
        have hst2 := hst wy Y wr.heap.size (HEa.out.stab _ _ _ _ hI.out HXY.out) (hbr.out.trans (HXY.out.mono hbr.out.size)) (fun g hg => (HEa.out.at_ _ _ _ hI.out g hg).2) none 0 none 0 (got_z _ _)
        clear hst hcc
        go_wp2_with fail
        rw [<- hwx, <- hwy]
        clear hwx hwy c0 c1 q4
        refine hst2.mono ?_
        clear hst2
        rintro e v' ⟨rfl, Y', hI', hO', hY'⟩
        go_wp2_with fail
        go_roundw
        case rel =>
          have hs1 := HXY.out.size
          have hat := HEa.out.at_ _ _ _ hI.out
          refine ⟨i + 1, by omega, by go_num, ⟨Y', hI', fun g hg => ?_⟩, ?_, fun g g1 g2 => ?_, ?_⟩
          · rcases hY' g hg with a | a
            · exact hY.out g a
            · have := hS.out; exact .inr (by omega)
          · refine (hO.out.then HXY.out).step hO' fun g hg hy => ?_
            rcases hY.out g hy with a | a
            · exact a
            · have := HB.out.size; have := Z0.out; omega
          · rw [hO'.block g (by have := hS.out; omega) (fun hy => by
              rcases hY.out g hy with a | a
              · have := (HY0.out g a).2; omega
              · omega), HXY.out.block g (by have := hS.out; omega)]
            exact hK.out g g1 g2
          · have := hO'.size; have := hS.out; show _ <= _; omega
        case measure => simp [intOf]; omega
      · obtain rfl : i = N := by omega
        go_wp2_with fail
        refine bodyPost_end (results_none rfl _ _ _) rfl ?_
        refine ⟨rfl, Y, hI.out, hO.out, fun g hg => ?_⟩
        rcases hY.out g hg with a | a
        · exact .inl a
        · have := HB.out.size; have := Z0.out; exact .inr (by omega)
  · have hvn := HTV.out hne
    have HNE : Hid (t.ce ≠ 0) := hne
    rw [hvn] at HO ⊢
    obtain ⟨ad, rfl⟩ : ∃ ad, ao = some ad := by
      cases ao with
      | none => exact absurd (hnil.1 rfl) hne
      | some ad => exact ⟨ad, rfl⟩
    have nn := neqv_yes
    clear hnil hvn hne
    go_wp2_with fail
    go_loopw [16] (fun y wr => ∃ i : Nat, i <= N /\ y = .int .i64 (i : Int) /\ (∃ Y, Hid (I i wr Y) /\ Hid (∀ g, Y g -> Y0 g \/ wb.heap.size <= g)) /\ Hid (Only Y0 w wr) /\ Hid (∀ g, w.heap.size <= g -> g < wb.heap.size -> wr.heap[g]? = wb.heap[g]?) /\ Hid (wb.heap.size <= wr.heap.size)) (fun y _ => N - (intOf y).toNat)
    case atStart => exact ⟨0, Nat.zero_le _, rfl, ⟨Y0, HI0.out, fun g hg => .inl hg⟩, .of_below (below_then B0.out HB.out), fun _ _ _ => rfl, Nat.le_refl _⟩
    case round =>
      obtain ⟨i, hi, rfl, ⟨Y, hI, hY⟩, hO, hK, hS⟩ := hrel
      have hbr : Hid (Below wz.heap.size wz wr) := HBZ.out.trans (hO.out.below (fun g hg => (HY0.out g hg).1) HBZ.out.size)
      by_cases hlt : i < N
      · obtain ⟨b, off, rfl, hcc⟩ := HR.out.at_ (by omega)
        have c0 : wr.cell? ⟨b, off + i * 2, none⟩ = some (.slice (A (2 * i)) (L (2 * i)) (C (2 * i))) := held (hcc i hlt).1 hbr.out
        have c1 : wr.cell? ⟨b, off + i * 2 + 1, none⟩ = some (.slice (A (2 * i + 1)) (L (2 * i + 1)) (C (2 * i + 1))) := held (hcc i hlt).2 hbr.out
        have hAt : At w wr w.heap.size #[.int .i64 k, .int .i64 r, .int .i64 c, .int .i64 q, .slice (some ⟨b, off, none⟩) N rc, .int .u8 ((kd.toNat : Nat) : Int)] 186 := ⟨Nat.le_refl _, (hK.out w.heap.size (Nat.le_refl _) (by have := HB.out.size; have := Z0.out; omega)).trans (L0.out wb HB.out).2⟩
        obtain ⟨gv, hgv, hg1, hg2⟩ := HO.out.at_ (by omega)
        cases hgv
        have hcv : wr.cell? ⟨gv, i, none⟩ = some (.int .i64 (t.V i)) := by
          rw [World.cell?_of_block (hK.out gv (by have := Z0.out; omega) hg2)]; exact HO.out.cell hlt
        have hst := HEa.out.step i hlt
        have hF := fun u hu => HF.out u i hu hlt HNE.out
        unfold slv at hst
        have i1 : (0 : Int) <= (i : Int) := by omega
        have i2 : (i : Int) < (N : Int) := by omega
        obtain ⟨wx, hwx⟩ : ∃ wx, wx = wr.alloc (.cells #[.slice (A (2 * i)) (L (2 * i)) (C (2 * i)), .slice (A (2 * i + 1)) (L (2 * i + 1)) (C (2 * i + 1))] 127) := ⟨_, rfl⟩
        obtain ⟨wy, hwy⟩ : ∃ wy, wy = wx.alloc (.cells #[.int .u8 0, .int .i64 0, .int .i64 0, .int .i64 0, .slice none 0 0, .slice none 0 0] 83) := ⟨_, rfl⟩
        have bx : Below wr.heap.size wr wx := by rw [hwx]; exact below_alloc _ _
        have by_ : Below wx.heap.size wx wy := by rw [hwy]; exact below_alloc _ _
        have zx : wx.heap.size = wr.heap.size + 1 := by rw [hwx]; simp
        have zy : wy.heap.size = wr.heap.size + 1 + 1 := by rw [hwy]; simp [zx]
        have HXY : Hid (Below wr.heap.size wr wy) := below_then bx by_
        have HZY : Hid (wy.heap.size = wr.heap.size + 1 + 1) := zy
        have CH : Hid (∀ v, Below wy.heap.size wy v -> (v.cell? ⟨w.heap.size, 0, none⟩ = some (.int .i64 k) /\ v.cell? ⟨w.heap.size, 1, none⟩ = some (.int .i64 r) /\ v.cell? ⟨w.heap.size, 2, none⟩ = some (.int .i64 c) /\ v.cell? ⟨w.heap.size, 3, none⟩ = some (.int .i64 q) /\ v.cell? ⟨w.heap.size, 5, none⟩ = some (.int .u8 ((kd.toNat : Nat) : Int)) /\ v.cell? ⟨gv, i, none⟩ = some (.int .i64 (t.V i)) /\ v.cell? ⟨wr.heap.size, 0, none⟩ = some (.slice (A (2 * i)) (L (2 * i)) (C (2 * i))) /\ v.cell? ⟨wr.heap.size, 1, none⟩ = some (.slice (A (2 * i + 1)) (L (2 * i + 1)) (C (2 * i + 1))))) := fun v hv => by
          have q := hAt.below (below_then HXY.out hv)
          exact ⟨q.cell (i := 0) rfl, q.cell (i := 1) rfl, q.cell (i := 2) rfl, q.cell (i := 3) rfl, q.cell (i := 5) rfl, held hcv (below_then HXY.out hv), blk_held hwx (below_then by_ hv) 0 rfl, blk_held hwx (below_then by_ hv) 1 rfl⟩
        have GH : Hid (∀ v, Below wy.heap.size wy v -> At wr v (wr.heap.size + 1) #[.int .u8 0, .int .i64 0, .int .i64 0, .int .i64 0, .slice none 0 0, .slice none 0 0] 83) := fun v hv => by rw [<- zx]; exact (at_made bx hwy).below hv
        have q4 := hAt.cell (i := 4) rfl
        have hlw : w.heap.size < wr.heap.size := hAt.lt
        have hlg : gv < wr.heap.size := World.block_lt_of_cell? wr _ hcv
        obtain ⟨a0, a1, a2, a3, a5, av, x0, x1⟩ := CH.out wy (Below.refl _ _)
        have n1 : ¬ wr.heap.size + 1 = w.heap.size := by omega
        have n2 : ¬ w.heap.size = wr.heap.size + 1 := by omega
        have n3 : ¬ wr.heap.size + 1 = gv := by omega
        have n4 : ¬ gv = wr.heap.size + 1 := by omega
        have HST : Hid _ := hst
        have HWZ : Hid (Below wz.heap.size wz wy) := hbr.out.trans (HXY.out.mono hbr.out.size)
        clear hst hcc hcv hAt bx by_ zx zy
        go_wp2_with fail
        rw [<- hwx, <- hwy]
        clear hwx hwy c0 c1 q4
        go_region_held3 (fun v => v.cell? ⟨w.heap.size, 0, none⟩ = some (.int .i64 k) /\ v.cell? ⟨w.heap.size, 1, none⟩ = some (.int .i64 r) /\ v.cell? ⟨w.heap.size, 2, none⟩ = some (.int .i64 c) /\ v.cell? ⟨w.heap.size, 3, none⟩ = some (.int .i64 q) /\ v.cell? ⟨w.heap.size, 5, none⟩ = some (.int .u8 ((kd.toNat : Nat) : Int)) /\ v.cell? ⟨gv, i, none⟩ = some (.int .i64 (t.V i)) /\ v.cell? ⟨wr.heap.size, 0, none⟩ = some (.slice (A (2 * i)) (L (2 * i)) (C (2 * i))) /\ v.cell? ⟨wr.heap.size, 1, none⟩ = some (.slice (A (2 * i + 1)) (L (2 * i + 1)) (C (2 * i + 1)))) (go_keep) ((go_at_call 145; refine (hF _ (HWZ.out.trans ((below_drew _ _).mono HWZ.out.size))).mono ?_; rintro e wf ⟨fn', fy, fo, fa, fb, fc, rfl, hfg, hfb⟩; have HFB : Hid (Below wy.heap.size wy wf) := of_drew' hfb; have HFG : Hid (Got wy.heap.size wf (z i) fo fa fb fc) := hfg; obtain ⟨e0, e1, e2, e3, e5, ev, f0, f1⟩ := CH.out wf HFB.out; have qh := GH.out wf HFB.out; have m0 := qh.cell (i := 0) rfl; have m1 := qh.cell (i := 1) rfl; have m2 := qh.cell (i := 2) rfl; have m3 := qh.cell (i := 3) rfl; have m4 := qh.cell (i := 4) rfl; have m5 := qh.cell (i := 5) rfl; have mf := qh.free; clear hfb hfg qh))
        obtain ⟨wg, hwg⟩ : ∃ wg, wg = (((((wf.setCell ⟨wr.heap.size + 1, 0, none⟩ (.int .u8 (((z i).kd.toNat : Nat) : Int))).setCell ⟨wr.heap.size + 1, 1, none⟩ (.int .i64 (z i).ix)).setCell ⟨wr.heap.size + 1, 2, none⟩ (.int .i64 (z i).ce)).setCell ⟨wr.heap.size + 1, 3, none⟩ (.int .i64 (z i).st)).setCell ⟨wr.heap.size + 1, 4, none⟩ (.slice fo (z i).vn fa)).setCell ⟨wr.heap.size + 1, 5, none⟩ (.slice fb (z i).dn fc) := ⟨_, rfl⟩
        rw [<- hwg]
        have hAg : At wr wg (wr.heap.size + 1) #[.int .u8 (((z i).kd.toNat : Nat) : Int), .int .i64 (z i).ix, .int .i64 (z i).ce, .int .i64 (z i).st, .slice fo (z i).vn fa, .slice fb (z i).dn fc] 83 := by
          rw [hwg]; exact at_six (GH.out wf HFB.out) (.int .u8 (((z i).kd.toNat : Nat) : Int)) (.int .i64 (z i).ix) (.int .i64 (z i).ce) (.int .i64 (z i).st) (.slice fo (z i).vn fa) (.slice fb (z i).dn fc)
        have hOg : Only (fun x => x = wr.heap.size + 1) wf wg := by
          rw [hwg]; exact only_six wf (wr.heap.size + 1) (.int .u8 (((z i).kd.toNat : Nat) : Int)) (.int .i64 (z i).ix) (.int .i64 (z i).ce) (.int .i64 (z i).st) (.slice fo (z i).vn fa) (.slice fb (z i).dn fc)
        have hBf : Below wr.heap.size wr wf := below_then HXY.out HFB.out
        have hBg : Below wr.heap.size wr wg := hBf.trans (hOg.below (fun x hx => by omega) hBf.size)
        have hGg : Got wr.heap.size wg (z i) fo fa fb fc := (HFG.out.stay hOg (by have := HZY.out; omega)).mono (by have := HZY.out; omega)
        have y0 : wg.cell? ⟨wr.heap.size, 0, none⟩ = some (.slice (A (2 * i)) (L (2 * i)) (C (2 * i))) := hOg.cell f0 (by simp)
        have y1 : wg.cell? ⟨wr.heap.size, 1, none⟩ = some (.slice (A (2 * i + 1)) (L (2 * i + 1)) (C (2 * i + 1))) := hOg.cell f1 (by simp)
        have o0 := hAg.cell (i := 0) rfl
        have o1 := hAg.cell (i := 1) rfl
        have o2 := hAg.cell (i := 2) rfl
        have o3 := hAg.cell (i := 3) rfl
        have o4 := hAg.cell (i := 4) rfl
        have o5 := hAg.cell (i := 5) rfl
        have hst2 := HST.out wg Y wr.heap.size (HEa.out.stab _ _ _ _ hI.out hBg) (hbr.out.trans (hBg.mono hbr.out.size)) (fun g hg => (HEa.out.at_ _ _ _ hI.out g hg).2) fo fa fb fc hGg
        have HBG : Hid (Below wr.heap.size wr wg) := hBg
        clear hwg e0 e1 e2 e3 e5 ev f0 f1 m0 m1 m2 m3 m4 m5 mf a0 a1 a2 a3 a5 av x0 x1 hAg hOg hBf hBg hGg
        go_wp2_with fail
        refine hst2.mono ?_
        clear hst2
        rintro e v' ⟨rfl, Y', hI', hO', hY'⟩
        go_wp2_with fail
        go_roundw
        case rel =>
          have hs1 := HBG.out.size
          refine ⟨i + 1, by omega, by go_num, ⟨Y', hI', fun g hg => ?_⟩, ?_, fun g g1 g2 => ?_, ?_⟩
          · rcases hY' g hg with a | a
            · exact hY.out g a
            · have := hS.out; exact .inr (by omega)
          · refine (hO.out.then HBG.out).step hO' fun g hg hy => ?_
            rcases hY.out g hy with a | a
            · exact a
            · have := HB.out.size; have := Z0.out; omega
          · rw [hO'.block g (by have := hS.out; omega) (fun hy => by
              rcases hY.out g hy with a | a
              · have := (HY0.out g a).2; omega
              · omega), HBG.out.block g (by have := hS.out; omega)]
            exact hK.out g g1 g2
          · have := hO'.size; have := hS.out; show _ <= _; omega
        case measure => simp [intOf]; omega
      · obtain rfl : i = N := by omega
        go_wp2_with fail
        refine bodyPost_end (results_none rfl _ _ _) rfl ?_
        refine ⟨rfl, Y, hI.out, hO.out, fun g hg => ?_⟩
        rcases hY.out g hg with a | a
        · exact .inl a
        · have := HB.out.size; have := Z0.out; exact .inr (by omega)
end Go.Proofs.YtngcdlodcdgcaaaGreat
