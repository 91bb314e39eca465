import Derived.Test.YtngcdlodcdgcaaaGreatZk42
namespace Go.Proofs.YtngcdlodcdgcaaaGreat.Cn
open Go.RowKit
def AnsH (w : World) (E : Int) (n : Nat) (P Q : Nat -> Int) (e : Ending) (w' : World) : Prop :=
  ∃ a cap, e = .returned (.tuple #[.slice a (lenE E n) cap, .int .i64 E]) /\ Hol w.heap.size w' a (lenE E n) cap P Q /\ Below w.heap.size w w'
set_option maxHeartbeats 8000000 in
set_option maxRecDepth 100000 in
theorem holdings_any {k r c q : Int} {N W : Nat} {x : Int} (h : Par k r c q N W x) (w : World) (ro : Option Addr) (rn rc : Nat) (A : Nat -> Option Addr) (L C : Nat -> Nat) (F : Nat -> Nat -> UInt8) (hr : Rw w ro rn A L C F) (E : Int) (hE : erR x N c rn L = E) :
    Calls Tryz.prog 139 #[.agg #[.int .i64 k, .int .i64 r, .int .i64 c, .int .i64 q], .slice ro rn rc] w (AnsH w E N (hP N c L F) (hQ N c L F)) := by
  have HD := fun w => Drives_any h w
  have hle := h.le
  obtain ⟨w0, hw0⟩ : ∃ w0, w0 = w.alloc (.cells #[.int .i64 k, .int .i64 r, .int .i64 c, .int .i64 q] 23) := ⟨_, rfl⟩
  have b0 : Below w.heap.size w w0 := by rw [hw0]; exact below_alloc _ _
  unfold AnsH
  by_cases hx : x = 0
  · subst hx
    unfold erR at hE
    rw [if_pos rfl] at hE
    by_cases hn : rn = N
    · subst hn
      have hnn : ((rn : Int) != (rn : Int)) = false := by simp
      obtain ⟨z, hz⟩ : ∃ z, z = sz rn c := ⟨_, rfl⟩
      have HNW : Hid (∀ (v : World) (i j : Nat), i < rn -> j < 2 * rn -> Below w.heap.size w v -> (L j = 0 \/ L j = z) -> ∀ y, y = ofK 2 (he 0 rn c (i : Int) (L j) (F j)) -> Calls Tryz.prog 150 #[.agg #[.int .i64 k, .int .i64 r, .int .i64 c, .int .i64 q], .agg #[.slice (A j) (L j) (C j), .slice none 0 0], .int .u8 2, .int .i64 (i : Int)] v fun e w' => ∃ (nn : Nat) (ao : Option Addr) (ca : Nat) (bo : Option Addr) (cb : Nat) (i : Bool), e = .returned (.tuple #[.int .i64 (nn : Int), .agg #[.int .u8 ((y.kd.toNat : Nat) : Int), .int .i64 y.ix, .int .i64 y.ce, .int .i64 y.st, .slice ao y.vn ca, .slice bo y.dn cb], .bool i, .int .i64 0]) /\ Vec w' ao y.vn ca y.V /\ Below v.heap.size v w') :=
        fun v i j hi hj hv hl y hy => newest1 h v _ _ _ _ ((hr.bec j hj).below hv) i hi (by rw [<- hz]; exact hl) y hy
      have HNB : Hid (∀ (v : World) (i j : Nat), j < 2 * rn -> Below w.heap.size w v -> ¬ (L j = 0 \/ L j = z) -> Calls Tryz.prog 150 #[.agg #[.int .i64 k, .int .i64 r, .int .i64 c, .int .i64 q], .agg #[.slice (A j) (L j) (C j), .slice none 0 0], .int .u8 2, .int .i64 (i : Int)] v fun e w' => ∃ (nn : Nat) (y : Sl) (ao : Option Addr) (ca : Nat) (bo : Option Addr) (cb : Nat) (i : Bool), e = .returned (.tuple #[.int .i64 (nn : Int), .agg #[.int .u8 ((y.kd.toNat : Nat) : Int), .int .i64 y.ix, .int .i64 y.ce, .int .i64 y.st, .slice ao y.vn ca, .slice bo y.dn cb], .bool i, .int .i64 100]) /\ Below v.heap.size v w') :=
        fun v i j hj hv hl => newest1_bad h v _ _ _ _ ((hr.bec j hj).below hv) i (by rw [<- hz]; exact hl)
      rw [<- hz] at hE
      clear hz h
      have HE : Hid ((∀ j, j < 2 * rn -> L j = 0 \/ L j = z) /\ E = 0 \/ ¬ (∀ j, j < 2 * rn -> L j = 0 \/ L j = z) /\ E = 120) := by
        by_cases g : ∀ j, j < 2 * rn -> L j = 0 \/ L j = z
        · rw [if_pos ⟨rfl, g⟩] at hE; exact .inl ⟨g, hE.symm⟩
        · rw [if_neg fun a => g a.2] at hE; exact .inr ⟨g, hE.symm⟩
      have HR : Hid (Rw w ro rn A L C F) := hr
      clear hE hr
      go_enter Tryz.func139, Tryz.ntmps139
      go_wp2_with fail
      rw [<- hw0]
      refine (HD _).mono ?_
      rintro e wa ⟨rfl, ha⟩
      have B0 : Hid (Below w.heap.size w wa) := below_then b0 ha
      have L0 : Hid (∀ v, Below wa.heap.size wa v -> At w v w.heap.size #[.int .i64 k, .int .i64 r, .int .i64 c, .int .i64 q] 23) := fun v hv => (at_made (Below.refl _ _) hw0).below (below_then ha hv)
      obtain ⟨wb, hmk, hhol, hbb⟩ := mk_hol wa rn hle
      have HH0 : Hid (Hol wa.heap.size wb (some ⟨wa.heap.size, 0, none⟩) rn rn (fun _ => 0) (fun _ => 0)) := hhol
      have BB0 : Hid (Below wa.heap.size wa wb) := hbb
      clear hhol hbb ha b0 hw0 HD
      go_wp2_with fail
      clear hmk
      go_loopw [35] (fun y wr => ∃ (i : Nat) (P Q : Nat -> Int), i <= rn /\ y = .int .i64 (i : Int) /\ Hid (Below wa.heap.size wa wr) /\ Hid (Hol wa.heap.size wr (some ⟨wa.heap.size, 0, none⟩) rn rn P Q) /\ Hid (∀ j, j < i -> P j = hP rn c L F j /\ Q j = hQ rn c L F j) /\ Hid (∀ j, j < 2 * i -> L j = 0 \/ L j = z)) (fun y _ => rn - (intOf y).toNat)
      case atStart => exact ⟨0, _, _, Nat.zero_le _, rfl, BB0.out, HH0.out, fun j hj => absurd hj (by omega), fun j hj => absurd hj (by omega)⟩
      case round =>
        obtain ⟨i, P, Q, hi, rfl, hbw, hho, hpq, hall⟩ := hrel
        by_cases hlt : i < rn
        · obtain ⟨b, off, rfl, hcc⟩ := HR.out.at_ (by omega)
          have c0 : wr.cell? ⟨b, off + i * 2, none⟩ = some (.slice (A (2 * i)) (L (2 * i)) (C (2 * i))) := held (hcc i hlt).1 (below_step B0.out hbw.out B0.out.size)
          have c1 : wr.cell? ⟨b, off + i * 2 + 1, none⟩ = some (.slice (A (2 * i + 1)) (L (2 * i + 1)) (C (2 * i + 1))) := held (hcc i hlt).2 (below_step B0.out hbw.out B0.out.size)
          clear hcc
          have HLE : Hid (wa.heap.size < wr.heap.size) := by
            obtain ⟨g, hg1, _, hg2⟩ := hho.out.at_ (by omega)
            simp only [Option.some.injEq, Addr.mk.injEq, and_true] at hg1
            show _ < _
            rw [hg1]; exact hg2
          have i1 : (0 : Int) <= (i : Int) := by omega
          have i2 : (i : Int) < (rn : Int) := by omega
          obtain ⟨wd, hwd⟩ : ∃ wd, wd = wr.alloc (.cells #[.slice (A (2 * i)) (L (2 * i)) (C (2 * i)), .slice (A (2 * i + 1)) (L (2 * i + 1)) (C (2 * i + 1))] 127) := ⟨_, rfl⟩
          have HD1 : Hid (Below wr.heap.size wr wd) := by show Below _ _ _; rw [hwd]; exact below_alloc _ _
          go_wp2_with fail
          rw [<- hwd]
          clear hwd c0 c1
          refine wp_loop_rounds 3 ?_
          rw [rounds_succ]
          have BD : Hid (Below wa.heap.size wa wd) := below_step hbw.out HD1.out hbw.out.size
          have HHD : Hid (Hol wa.heap.size wd (some ⟨wa.heap.size, 0, none⟩) rn rn P Q) := hho.out.below HD1.out
          have pq := L0.out wd BD.out
          have s0 := pq.cell (i := 0) rfl
          have s1 := pq.cell (i := 1) rfl
          have s2 := pq.cell (i := 2) rfl
          have s3 := pq.cell (i := 3) rfl
          clear pq
          go_wp2_with fail
          rw [idp0]
          go_wp2_with fail
          by_cases g0 : L (2 * i) = 0 \/ L (2 * i) = z
          · obtain ⟨y0, hy⟩ : ∃ y0, y0 = ofK 2 (he 0 rn c (i : Int) (L (2 * i)) (F (2 * i))) := ⟨_, rfl⟩
            obtain ⟨v0, hv⟩ : ∃ v0, v0 = ev y0 := ⟨_, rfl⟩
            have HY0 : Hid (v0 = hP rn c L F i /\ y0.vn <= 16 /\ v0 = ev y0) := ⟨by rw [hv, hy]; rfl, by rw [hy]; exact ofK_vn (Nat.le_trans he_vn hle), hv⟩
            refine (HNW.out wd i (2 * i) hlt (by omega) (below_step B0.out BD.out B0.out.size) g0 y0 hy).mono ?_
            clear hy hv s0 s1 s2 s3
            rintro e we0 ⟨nn0, ao0, ca0, bo0, cb0, ib0, rfl, hvec, he⟩
            have HVE0 : Hid (Vec we0 ao0 y0.vn ca0 y0.V) := hvec
            have BE0 : Hid (Below wd.heap.size wd we0) := he
            clear hvec he
            obtain ⟨wf0, hwf⟩ : ∃ wf0, wf0 = we0.alloc (.cells #[.int .u8 ((y0.kd.toNat : Nat) : Int), .int .i64 y0.ix, .int .i64 y0.ce, .int .i64 y0.st, .slice ao0 y0.vn ca0, .slice bo0 y0.dn cb0] 83) := ⟨_, rfl⟩
            have BF0 : Hid (Below we0.heap.size we0 wf0) := by show Below _ _ _; rw [hwf]; exact below_alloc _ _
            have LF0 : Hid (∀ v, Below wf0.heap.size wf0 v -> At w v we0.heap.size #[.int .u8 ((y0.kd.toNat : Nat) : Int), .int .i64 y0.ix, .int .i64 y0.ce, .int .i64 y0.st, .slice ao0 y0.vn ca0, .slice bo0 y0.dn cb0] 83) := fun v hv => (at_made (below_step B0.out (below_step BD.out BE0.out BD.out.size) B0.out.size) hwf).below hv
            have HEV0 : Hid (∀ v, Below wf0.heap.size wf0 v -> Calls Tryz.prog 151 #[.agg #[.int .u8 ((y0.kd.toNat : Nat) : Int), .int .i64 y0.ix, .int .i64 y0.ce, .int .i64 y0.st, .slice ao0 y0.vn ca0, .slice bo0 y0.dn cb0]] v fun e w' => e = .returned (.int .i64 v0) /\ Below v.heap.size v w') := fun v hv => by
              rw [HY0.out.2.2]; exact everywhere_any v y0 ao0 ca0 bo0 cb0 (HVE0.out.below (below_then BF0.out hv)) (by have := HY0.out.2.1; omega)
            have nq : ¬ wa.heap.size = we0.heap.size := by
              obtain ⟨g, hg1, _, hg2⟩ := HHD.out.at_ (by omega)
              simp only [Option.some.injEq, Addr.mk.injEq, and_true] at hg1
              have := BE0.out.size; omega
            have nq2 : ¬ we0.heap.size = wa.heap.size := by omega
            have CH0 : Hid (∀ v, Below wf0.heap.size wf0 v -> v.cell? ⟨we0.heap.size, 0, none⟩ = some (.int .u8 ((y0.kd.toNat : Nat) : Int)) /\ v.cell? ⟨we0.heap.size, 1, none⟩ = some (.int .i64 y0.ix) /\ v.cell? ⟨we0.heap.size, 2, none⟩ = some (.int .i64 y0.ce) /\ v.cell? ⟨we0.heap.size, 3, none⟩ = some (.int .i64 y0.st) /\ v.cell? ⟨we0.heap.size, 4, none⟩ = some (.slice ao0 y0.vn ca0) /\ v.cell? ⟨we0.heap.size, 5, none⟩ = some (.slice bo0 y0.dn cb0) /\ v.cell? ⟨wa.heap.size, i * 2, none⟩ = some (.int .i64 (P i)) /\ v.frozen? ⟨wa.heap.size, i * 2, none⟩ = false) := fun v hv => by
              have pq := LF0.out v hv
              have hh := HHD.out.below (below_then BE0.out (below_then BF0.out hv))
              exact ⟨pq.cell (i := 0) rfl, pq.cell (i := 1) rfl, pq.cell (i := 2) rfl, pq.cell (i := 3) rfl, pq.cell (i := 4) rfl, pq.cell (i := 5) rfl, hh.c0 hlt, hh.free _⟩
            obtain ⟨d0, d1, d2, d3, d4, d5, d6, d7⟩ := CH0.out wf0 (Below.refl _ _)
            go_wp2_with fail
            rw [<- hwf]
            clear hwf
            go_region_held3 (fun v => v.cell? ⟨we0.heap.size, 0, none⟩ = some (.int .u8 ((y0.kd.toNat : Nat) : Int)) /\ v.cell? ⟨we0.heap.size, 1, none⟩ = some (.int .i64 y0.ix) /\ v.cell? ⟨we0.heap.size, 2, none⟩ = some (.int .i64 y0.ce) /\ v.cell? ⟨we0.heap.size, 3, none⟩ = some (.int .i64 y0.st) /\ v.cell? ⟨we0.heap.size, 4, none⟩ = some (.slice ao0 y0.vn ca0) /\ v.cell? ⟨we0.heap.size, 5, none⟩ = some (.slice bo0 y0.dn cb0)) (go_keep) ((go_at_call 151; refine (HEV0.out _ (by first | exact below_drew _ _ | exact Below.refl _ _)).mono ?_; rintro e wg0 ⟨rfl, hg⟩; have BG0 : Hid (Below wf0.heap.size wf0 wg0) := (by first | exact of_drew' hg | exact hg); obtain ⟨e0, e1, e2, e3, e4, e5, e6, e7⟩ := CH0.out wg0 BG0.out; clear hg))
            obtain ⟨wh0, hwh⟩ : ∃ wh0, wh0 = wg0.setCell ⟨wa.heap.size, i * 2, none⟩ (.int .i64 v0) := ⟨_, rfl⟩
            have HWG : Below wd.heap.size wd wg0 := below_then BE0.out (below_then BF0.out BG0.out)
            have BH0 : Hid (Below wa.heap.size wa wh0) := by show Below _ _ _; rw [hwh]; exact b_at (below_step BD.out HWG BD.out.size) (Nat.le_refl _) _
            have HH0 : Hid (Hol wa.heap.size wh0 (some ⟨wa.heap.size, 0, none⟩) rn rn (put i v0 P) Q) := by show Hol _ _ _ _ _ _ _; rw [hwh]; exact (HHD.out.below HWG).s0 i _
            clear HWG
            go_wp2_with fail
            rw [<- hwh]
            clear hwh e0 e1 e2 e3 e4 e5 e6 e7 d0 d1 d2 d3 d4 d5 d6 d7 nq nq2
            rw [rounds_succ]
            have pq := L0.out wh0 BH0.out
            have s0 := pq.cell (i := 0) rfl
            have s1 := pq.cell (i := 1) rfl
            have s2 := pq.cell (i := 2) rfl
            have s3 := pq.cell (i := 3) rfl
            clear pq
            go_wp2_with fail
            rw [idp1]
            go_wp2_with fail
            by_cases g1 : L (2 * i + 1) = 0 \/ L (2 * i + 1) = z
            · obtain ⟨y1, hy⟩ : ∃ y1, y1 = ofK 2 (he 0 rn c (i : Int) (L (2 * i + 1)) (F (2 * i + 1))) := ⟨_, rfl⟩
              obtain ⟨v1, hv⟩ : ∃ v1, v1 = ev y1 := ⟨_, rfl⟩
              have HY1 : Hid (v1 = hR rn c L F i /\ y1.vn <= 16 /\ v1 = ev y1) := ⟨by rw [hv, hy]; rfl, by rw [hy]; exact ofK_vn (Nat.le_trans he_vn hle), hv⟩
              refine (HNW.out wh0 i (2 * i + 1) hlt (by omega) (below_step B0.out BH0.out B0.out.size) g1 y1 hy).mono ?_
              clear hy hv s0 s1 s2 s3
              rintro e we1 ⟨nn1, ao1, ca1, bo1, cb1, ib1, rfl, hvec, he⟩
              have HVE1 : Hid (Vec we1 ao1 y1.vn ca1 y1.V) := hvec
              have BE1 : Hid (Below wh0.heap.size wh0 we1) := he
              clear hvec he
              obtain ⟨wf1, hwf⟩ : ∃ wf1, wf1 = we1.alloc (.cells #[.int .u8 ((y1.kd.toNat : Nat) : Int), .int .i64 y1.ix, .int .i64 y1.ce, .int .i64 y1.st, .slice ao1 y1.vn ca1, .slice bo1 y1.dn cb1] 83) := ⟨_, rfl⟩
              have BF1 : Hid (Below we1.heap.size we1 wf1) := by show Below _ _ _; rw [hwf]; exact below_alloc _ _
              have LF1 : Hid (∀ v, Below wf1.heap.size wf1 v -> At w v we1.heap.size #[.int .u8 ((y1.kd.toNat : Nat) : Int), .int .i64 y1.ix, .int .i64 y1.ce, .int .i64 y1.st, .slice ao1 y1.vn ca1, .slice bo1 y1.dn cb1] 83) := fun v hv => (at_made (below_step B0.out (below_step BH0.out BE1.out BH0.out.size) B0.out.size) hwf).below hv
              have HEV1 : Hid (∀ v, Below wf1.heap.size wf1 v -> Calls Tryz.prog 151 #[.agg #[.int .u8 ((y1.kd.toNat : Nat) : Int), .int .i64 y1.ix, .int .i64 y1.ce, .int .i64 y1.st, .slice ao1 y1.vn ca1, .slice bo1 y1.dn cb1]] v fun e w' => e = .returned (.int .i64 v1) /\ Below v.heap.size v w') := fun v hv => by
                rw [HY1.out.2.2]; exact everywhere_any v y1 ao1 ca1 bo1 cb1 (HVE1.out.below (below_then BF1.out hv)) (by have := HY1.out.2.1; omega)
              have nq : ¬ wa.heap.size = we1.heap.size := by
                obtain ⟨g, hg1, _, hg2⟩ := HH0.out.at_ (by omega)
                simp only [Option.some.injEq, Addr.mk.injEq, and_true] at hg1
                have := BE1.out.size; omega
              have nq2 : ¬ we1.heap.size = wa.heap.size := by omega
              have CH1 : Hid (∀ v, Below wf1.heap.size wf1 v -> v.cell? ⟨we1.heap.size, 0, none⟩ = some (.int .u8 ((y1.kd.toNat : Nat) : Int)) /\ v.cell? ⟨we1.heap.size, 1, none⟩ = some (.int .i64 y1.ix) /\ v.cell? ⟨we1.heap.size, 2, none⟩ = some (.int .i64 y1.ce) /\ v.cell? ⟨we1.heap.size, 3, none⟩ = some (.int .i64 y1.st) /\ v.cell? ⟨we1.heap.size, 4, none⟩ = some (.slice ao1 y1.vn ca1) /\ v.cell? ⟨we1.heap.size, 5, none⟩ = some (.slice bo1 y1.dn cb1) /\ v.cell? ⟨wa.heap.size, i * 2 + 1, none⟩ = some (.int .i64 (Q i)) /\ v.frozen? ⟨wa.heap.size, i * 2 + 1, none⟩ = false) := fun v hv => by
                have pq := LF1.out v hv
                have hh := HH0.out.below (below_then BE1.out (below_then BF1.out hv))
                exact ⟨pq.cell (i := 0) rfl, pq.cell (i := 1) rfl, pq.cell (i := 2) rfl, pq.cell (i := 3) rfl, pq.cell (i := 4) rfl, pq.cell (i := 5) rfl, hh.c1 hlt, hh.free _⟩
              obtain ⟨d0, d1, d2, d3, d4, d5, d6, d7⟩ := CH1.out wf1 (Below.refl _ _)
              go_wp2_with fail
              rw [<- hwf]
              clear hwf
              go_region_held3 (fun v => v.cell? ⟨we1.heap.size, 0, none⟩ = some (.int .u8 ((y1.kd.toNat : Nat) : Int)) /\ v.cell? ⟨we1.heap.size, 1, none⟩ = some (.int .i64 y1.ix) /\ v.cell? ⟨we1.heap.size, 2, none⟩ = some (.int .i64 y1.ce) /\ v.cell? ⟨we1.heap.size, 3, none⟩ = some (.int .i64 y1.st) /\ v.cell? ⟨we1.heap.size, 4, none⟩ = some (.slice ao1 y1.vn ca1) /\ v.cell? ⟨we1.heap.size, 5, none⟩ = some (.slice bo1 y1.dn cb1)) (go_keep) ((go_at_call 151; refine (HEV1.out _ (by first | exact below_drew _ _ | exact Below.refl _ _)).mono ?_; rintro e wg1 ⟨rfl, hg⟩; have BG1 : Hid (Below wf1.heap.size wf1 wg1) := (by first | exact of_drew' hg | exact hg); obtain ⟨e0, e1, e2, e3, e4, e5, e6, e7⟩ := CH1.out wg1 BG1.out; clear hg))
              obtain ⟨wh1, hwh⟩ : ∃ wh1, wh1 = wg1.setCell ⟨wa.heap.size, i * 2 + 1, none⟩ (.int .i64 v1) := ⟨_, rfl⟩
              have HWG : Below wh0.heap.size wh0 wg1 := below_then BE1.out (below_then BF1.out BG1.out)
              have BH1 : Hid (Below wa.heap.size wa wh1) := by show Below _ _ _; rw [hwh]; exact b_at (below_step BH0.out HWG BH0.out.size) (Nat.le_refl _) _
              have HH1 : Hid (Hol wa.heap.size wh1 (some ⟨wa.heap.size, 0, none⟩) rn rn (put i v0 P) (put i v1 Q)) := by show Hol _ _ _ _ _ _ _; rw [hwh]; exact (HH0.out.below HWG).s1 i _
              clear HWG
              go_wp2_with fail
              rw [<- hwh]
              clear hwh e0 e1 e2 e3 e4 e5 e6 e7 d0 d1 d2 d3 d4 d5 d6 d7 nq nq2
              rw [rounds_succ]
              have q0 := HH1.out.c0 hlt
              have q1 := HH1.out.c1 hlt
              rw [put_at] at q0 q1
              have qf := fun j => HH1.out.free j
              have HO := fun v => once_any v v0 v1
              have QK : Hid (∀ v, Below wh1.heap.size wh1 v -> v.cell? ⟨wa.heap.size, i * 2, none⟩ = some (.int .i64 v0) /\ v.cell? ⟨wa.heap.size, i * 2 + 1, none⟩ = some (.int .i64 v1) /\ ∀ j, v.frozen? ⟨wa.heap.size, j, none⟩ = false) := fun v hv => by
                have hh := HH1.out.below hv
                have a0 := hh.c0 hlt
                have a1 := hh.c1 hlt
                rw [put_at] at a0 a1
                exact ⟨a0, a1, fun j => hh.free j⟩
              go_wp2_with fail
              refine (HO _).mono ?_
              rintro e wk ⟨rfl, hk⟩
              have BK : Hid (Below wh1.heap.size wh1 wk) := hk
              clear hk q0 q1 qf
              obtain ⟨q0, q1, qf⟩ := QK.out wk BK.out
              go_wp2_with fail
              go_roundw
              case rel =>
                refine ⟨i + 1, put i v0 (put i v0 P), put i (onc v0 v1) (put i v1 Q), by omega, by go_num, ?_, ?_, fun j hj => ?_, fun j hj => ?_⟩
                · exact b_at (b_at (below_step BH1.out BK.out BH1.out.size) (Nat.le_refl _) _) (Nat.le_refl _) _
                · exact ((HH1.out.below BK.out).s0 i v0).s1 i (onc v0 v1)
                · by_cases e : j = i
                  · subst e
                    rw [put_at, put_at, HY0.out.1, HY1.out.1]
                    exact ⟨rfl, rfl⟩
                  · rw [put_ne _ _ e, put_ne _ _ e, put_ne _ _ e, put_ne _ _ e]
                    exact hpq.out j (by omega)
                · by_cases e0 : j < 2 * i
                  · exact hall.out j e0
                  · rcases (show j = 2 * i \/ j = 2 * i + 1 by omega) with rfl | rfl
                    · exact g0
                    · exact g1
              case measure => simp [intOf]; omega
            · refine (HNB.out wh0 i (2 * i + 1) (by omega) (below_step B0.out BH0.out B0.out.size) g1).mono ?_
              rintro e we ⟨nn, y, ao, ca, bo, cb, ib, rfl, he⟩
              have BE : Hid (Below wh0.heap.size wh0 we) := he
              clear he s0 s1 s2 s3
              go_wp2_with fail
              go_ret2
              obtain rfl : E = 120 := by
                rcases HE.out with ⟨g, _⟩ | ⟨_, g⟩
                · exact absurd (g (2 * i + 1) (by omega)) g1
                · exact g
              exact ⟨none, 0, rfl, hol_nil _ _ _ _, b_alloc (below_step B0.out (below_step BH0.out BE.out BH0.out.size) B0.out.size) _⟩
          · refine (HNB.out wd i (2 * i) (by omega) (below_step B0.out BD.out B0.out.size) g0).mono ?_
            rintro e we ⟨nn, y, ao, ca, bo, cb, ib, rfl, he⟩
            have BE : Hid (Below wd.heap.size wd we) := he
            clear he s0 s1 s2 s3
            go_wp2_with fail
            go_ret2
            obtain rfl : E = 120 := by
              rcases HE.out with ⟨g, _⟩ | ⟨_, g⟩
              · exact absurd (g (2 * i) (by omega)) g0
              · exact g
            exact ⟨none, 0, rfl, hol_nil _ _ _ _, b_alloc (below_step B0.out (below_step BD.out BE.out BD.out.size) B0.out.size) _⟩
        · obtain rfl : i = rn := by omega
          obtain rfl : E = 0 := by
            rcases HE.out with ⟨_, g⟩ | ⟨g, _⟩
            · exact g
            · exact absurd (fun j hj => hall.out j hj) g
          go_wp2_with fail
          go_ret2
          refine ⟨some ⟨wa.heap.size, 0, none⟩, i, rfl, ?_, below_step B0.out hbw.out B0.out.size⟩
          exact (hho.out.mono B0.out.size).congr hpq.out
    · have hnn : ((rn : Int) != (N : Int)) = true := by simp; omega
      obtain rfl : E = 120 := by rw [if_neg fun a => hn a.1] at hE; exact hE.symm
      clear hE hr
      go_enter Tryz.func139, Tryz.ntmps139
      go_wp2_with fail
      rw [<- hw0]
      refine (HD _).mono ?_
      rintro e wa ⟨rfl, ha⟩
      go_wp2_with fail
      go_ret2
      exact ⟨none, 0, rfl, hol_nil _ _ _ _, below_then b0 ha⟩
  · obtain rfl : x = E := by unfold erR at hE; rw [if_neg hx] at hE; exact hE
    have hnn : (x != 0) = true := by simp [hx]
    clear hE hr
    rw [show lenE x N = 0 from if_neg hx]
    go_enter Tryz.func139, Tryz.ntmps139
    go_wp2_with fail
    rw [<- hw0]
    refine (HD _).mono ?_
    rintro e wa ⟨rfl, ha⟩
    go_wp2_with fail
    go_ret2
    exact ⟨none, 0, rfl, hol_nil _ _ _ _, below_then b0 ha⟩
end Go.Proofs.YtngcdlodcdgcaaaGreat.Cn
