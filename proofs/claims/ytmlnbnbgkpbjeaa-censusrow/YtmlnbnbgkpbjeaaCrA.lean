/- The document's answer: what a slot of a drive holds of a descriptor. -/
import Derived.Test.YtmlnbnbgkpbjeaaCnA
import Derived.Test.YtmlnbnbgkpbjeaaCeP
import Derived.BigQuiet
namespace Go.Proofs.Ytmlnbnbgkpbjeaa
open Go.RowKit

theorem he_zero {N : Nat} {c ix : Int} {n : Nat} {F : Nat → UInt8} (h : (he 0 N c ix n F).ce = 0) : he 0 N c ix n F = zSl := by
  rcases he_or N c ix n F with e | ⟨g, _, e⟩
  · exact e
  · rw [e] at h
    have := (okS_nums (is_true g).2.2.2).1.1
    omega
set_option maxHeartbeats 4000000 in
set_option maxRecDepth 100000 in
theorem held_any {k r c q : Int} {N W : Nat} (h : Par k r c q N W 0) (w : World) (b0 : Option Addr) (n m : Nat) (F : Nat → UInt8) (hb : Bec w b0 n m F) (hn : n ≤ 9223372036854775807) (ix : Nat) (v : Int) (hv : hs N c ix n F = v) :
    Calls Try.prog 42 #[.agg #[.int .i64 k, .int .i64 r, .int .i64 c, .int .i64 q], .slice b0 n m, .int .i64 (ix : Int)] w fun e w' => e = .returned (.int .i64 v) ∧ Below w.heap.size w w' := by
  obtain ⟨w0, hw0⟩ : ∃ w0, w0 = w.alloc (.cells #[.int .i64 k, .int .i64 r, .int .i64 c, .int .i64 q] 23) := ⟨_, rfl⟩
  have b0' : Below w.heap.size w w0 := by rw [hw0]; exact below_alloc _ _
  obtain ⟨y, hy⟩ : ∃ y, he 0 N c (ix : Int) n F = y := ⟨_, rfl⟩
  have HO := Of_any h w0 b0 n m F (hb.below b0') hn (ix : Int) y hy
  have hvy : ev (ofK 2 y) = v := by rw [← hy]; exact hv
  have hz : y.ce = 0 → y = zSl := fun e => by rw [← hy]; exact he_zero (by rw [hy]; exact e)
  have hvn : y.vn ≤ 16 := by rw [← hy]; exact Nat.le_trans he_vn h.le
  clear hv hy hb h
  unfold slv at HO
  by_cases e0 : y.ce = 0
  · obtain rfl := hz e0
    obtain rfl : v = 0 := by rw [← hvy, ofK_z]; rfl
    rw [decide_eq_false (fun h => h e0)] at HO
    clear hz e0 hvy
    go_enter Try.func42, Try.ntmps42
    go_wp2_with fail
    rw [← hw0]
    refine HO.mono ?_
    rintro e wa ⟨ao, ca, bo, cb, rfl, hg, ha⟩
    have BA : Hid (Below w.heap.size w wa) := below_then b0' ha
    clear hg ha hw0 b0' HO
    go_wp2_with fail
    go_ret
    exact ⟨rfl, b_alloc BA.out _⟩
  · rw [decide_eq_true e0] at HO
    by_cases hk : y.kd = 2
    · have hkn : (((y.kd.toNat : Nat) : Int) != 2) = false := by rw [hk]; rfl
      have hof : ofK 2 y = y := if_pos hk
      rw [hof] at hvy
      have HVY : Hid (ev y = v) := hvy
      clear hz e0 hvy hof hk
      go_enter Try.func42, Try.ntmps42
      go_wp2_with fail
      rw [← hw0]
      refine HO.mono ?_
      rintro e wa ⟨ao, ca, bo, cb, rfl, hg, ha⟩
      have BA : Hid (Below w.heap.size w wa) := below_then b0' ha
      have HG : Hid (RdI wa ao y.vn y.V) := hg.has.vec.rd
      obtain ⟨wb, hwb⟩ : ∃ wb, wb = wa.alloc (.cells #[.int .u8 ((y.kd.toNat : Nat) : Int), .int .i64 y.ix, .int .i64 y.ce, .int .i64 y.st, .slice ao y.vn ca, .slice bo y.dn cb] 68) := ⟨_, rfl⟩
      have BB : Hid (Below wa.heap.size wa wb) := by show Below _ _ _; rw [hwb]; exact below_alloc _ _
      have LB : Hid (∀ u, Below wb.heap.size wb u → At w u wa.heap.size #[.int .u8 ((y.kd.toNat : Nat) : Int), .int .i64 y.ix, .int .i64 y.ce, .int .i64 y.st, .slice ao y.vn ca, .slice bo y.dn cb] 68) := fun u hu => (at_made BA.out hwb).below hu
      clear hg ha hw0 b0' HO
      go_wp2_with fail
      rw [← hwb]
      clear hwb
      go_loopw [9] (fun z wr => ∃ i : Nat, i ≤ y.vn ∧ z = .int .i64 (i : Int) ∧ Hid (∀ j, j < i → y.V j = y.ce) ∧ Hid (Below wb.heap.size wb wr)) (fun z _ => y.vn - (intOf z).toNat)
      case atStart => exact ⟨0, Nat.zero_le _, rfl, (fun j hj => absurd hj (by omega)), Below.refl _ _⟩
      case round =>
        obtain ⟨i, hi, rfl, hall, hbw⟩ := hrel
        have pq := LB.out wr hbw.out
        have s2 := pq.cell (i := 2) rfl
        have s4 := pq.cell (i := 4) rfl
        clear pq
        by_cases hlt : i < y.vn
        · obtain ⟨gv, ov, rfl, hcv⟩ := HG.out (by omega)
          have cv : wr.cell? ⟨gv, ov + i, none⟩ = some (.int .i64 (y.V i)) := held (hcv i hlt) (below_then BB.out hbw.out)
          have i1 : (0 : Int) ≤ (i : Int) := by omega
          have i2 : (i : Int) < (y.vn : Int) := by omega
          clear hcv
          by_cases hq : y.V i = y.ce
          · have hqq : (y.V i != y.ce) = false := by simpa using hq
            have HALL : Hid (∀ j, j < i + 1 → y.V j = y.ce) := fun j hj => by
              by_cases e : j = i
              · rw [e]; exact hq
              · exact hall.out j (by omega)
            clear hq
            go_wp2_with fail
            go_quiet (fail)
            obtain ⟨wq, hwq⟩ : ∃ wq, wq = wr.drewN nq := ⟨_, rfl⟩
            have BQ : Hid (Below wb.heap.size wb wq) := by show Below _ _ _; rw [hwq]; exact below_then hbw.out (below_drewN _ _ _)
            rw [← hwq]
            clear hwq
            go_wp2_with fail
            go_roundw
            case rel => exact ⟨i + 1, by omega, by go_num, HALL.out, BQ.out⟩
            case measure => simp [intOf]; omega
          · have hqq : (y.V i != y.ce) = true := by simpa using hq
            obtain rfl : v = 0 := by rw [← HVY.out]; exact if_neg fun g => hq (g i hlt)
            clear hq
            go_wp2_with fail
            go_quiet (fail)
            obtain ⟨wq, hwq⟩ : ∃ wq, wq = wr.drewN nq := ⟨_, rfl⟩
            have BQ : Hid (Below wb.heap.size wb wq) := by show Below _ _ _; rw [hwq]; exact below_then hbw.out (below_drewN _ _ _)
            rw [← hwq]
            clear hwq
            go_wp2_with fail
            go_ret
            exact ⟨rfl, below_then (below_then BA.out BB.out) BQ.out⟩
        · obtain rfl : y.ce = v := by rw [← HVY.out]; exact (if_pos fun j hj => hall.out j (by omega)).symm
          have i2 : ¬ (i : Int) < (y.vn : Int) := by omega
          go_wp2_with fail
          go_ret
          exact ⟨rfl, below_then (below_then BA.out BB.out) hbw.out⟩
    · have hkn : (((y.kd.toNat : Nat) : Int) != 2) = true := by
        simp only [bne_iff_ne, ne_eq]
        intro e
        exact hk (UInt8.toNat_inj.1 (by show y.kd.toNat = 2; omega))
      obtain rfl : v = 0 := by rw [← hvy, show ofK 2 y = zSl from if_neg hk]; rfl
      clear hz e0 hvy hk
      go_enter Try.func42, Try.ntmps42
      go_wp2_with fail
      rw [← hw0]
      refine HO.mono ?_
      rintro e wa ⟨ao, ca, bo, cb, rfl, hg, ha⟩
      have BA : Hid (Below w.heap.size w wa) := below_then b0' ha
      clear hg ha hw0 b0' HO
      go_wp2_with fail
      go_ret
      exact ⟨rfl, b_alloc BA.out _⟩
end Go.Proofs.Ytmlnbnbgkpbjeaa
