/- Whether raw writes may be made. -/
import Derived.Test.YtenlfhdchflnjaaImgC
namespace Go.Proofs.Ytenlfhdchflnjaa
open Go.RowKit

set_option maxHeartbeats 1000000 in
set_option maxRecDepth 100000 in
theorem takes_any (N Q S : Nat) (d o s : Int) (ao : Option Addr) (n cp : Nat) (b : List UInt8) (hn : n = b.length) (w : World) :
    Calls Try.prog 63 #[.agg #[.int .i64 (N : Int), .int .i64 (Q : Int), .int .i64 (S : Int)], .agg #[.int .i64 d, .int .i64 o, .int .i64 s, .slice ao n cp]] w fun e w' => e = .returned (.bool (takB N Q S ⟨d, o, s, b⟩)) ∧ Below w.heap.size w w' := by
  have HT : Hid (takB N Q S ⟨d, o, s, b⟩ = decide (((0 ≤ d ∧ d < (N : Int)) ∧ (0 ≤ o ∧ o < (Q : Int)) ∧ (0 ≤ s ∧ s < 2)) ∧ n = S)) := by show _ = _; unfold takB hasB; rw [hn]; exact (Bool.decide_and _ _).symm
  clear hn
  by_cases h1 : 0 ≤ d ∧ d < (N : Int)
  · by_cases h2 : 0 ≤ o ∧ o < (Q : Int)
    · by_cases h3 : 0 ≤ s ∧ s < 2
      · have HE : Hid (((n : Int) == (S : Int)) = decide (n = S)) := by show _ = _; rw [Bool.eq_iff_iff]; simp; omega
        have HT2 : Hid (takB N Q S ⟨d, o, s, b⟩ = decide (n = S)) := by show _ = _; rw [HT.out]; exact decide_eq_decide.2 ⟨fun h => h.2, fun h => ⟨⟨h1, h2, h3⟩, h⟩⟩
        have A1 := fun w => inW_any d (N : Int) w
        have A2 := fun w => inW_any o (Q : Int) w
        have A3 := fun w => inW_any s 2 w
        rw [decide_eq_true h1] at A1
        rw [decide_eq_true h2] at A2
        rw [decide_eq_true h3] at A3
        clear h1 h2 h3
        go_enter Try.func63, Try.ntmps63
        go_wp2_with (first | (go_at_call_of 50 (Value.int .i64 d); refine (A1 _).mono ?_; rintro e w' ⟨rfl, hw'⟩; obtain rfl := hw'.symm; clear A1) | (go_at_call_of 50 (Value.int .i64 o); refine (A2 _).mono ?_; rintro e w' ⟨rfl, hw'⟩; obtain rfl := hw'.symm; clear A2) | (go_at_call_of 50 (Value.int .i64 s); refine (A3 _).mono ?_; rintro e w' ⟨rfl, hw'⟩; obtain rfl := hw'.symm; clear A3))
        go_ret
        exact ⟨ret_bool (by rw [HT2.out]; exact HE.out), below_then (below_alloc _ _) (below_alloc _ _)⟩
      · have HT2 : Hid (takB N Q S ⟨d, o, s, b⟩ = false) := by show _ = _; rw [HT.out]; exact decide_eq_false (fun h => h3 h.1.2.2)
        have A1 := fun w => inW_any d (N : Int) w
        have A2 := fun w => inW_any o (Q : Int) w
        have A3 := fun w => inW_any s 2 w
        rw [decide_eq_true h1] at A1
        rw [decide_eq_true h2] at A2
        rw [decide_eq_false h3] at A3
        clear h1 h2 h3
        go_enter Try.func63, Try.ntmps63
        go_wp2_with (first | (go_at_call_of 50 (Value.int .i64 d); refine (A1 _).mono ?_; rintro e w' ⟨rfl, hw'⟩; obtain rfl := hw'.symm; clear A1) | (go_at_call_of 50 (Value.int .i64 o); refine (A2 _).mono ?_; rintro e w' ⟨rfl, hw'⟩; obtain rfl := hw'.symm; clear A2) | (go_at_call_of 50 (Value.int .i64 s); refine (A3 _).mono ?_; rintro e w' ⟨rfl, hw'⟩; obtain rfl := hw'.symm; clear A3))
        go_ret
        exact ⟨ret_bool HT2.out.symm, below_then (below_alloc _ _) (below_alloc _ _)⟩
    · have HT2 : Hid (takB N Q S ⟨d, o, s, b⟩ = false) := by show _ = _; rw [HT.out]; exact decide_eq_false (fun h => h2 h.1.2.1)
      have A1 := fun w => inW_any d (N : Int) w
      have A2 := fun w => inW_any o (Q : Int) w
      rw [decide_eq_true h1] at A1
      rw [decide_eq_false h2] at A2
      clear h1 h2
      go_enter Try.func63, Try.ntmps63
      go_wp2_with (first | (go_at_call_of 50 (Value.int .i64 d); refine (A1 _).mono ?_; rintro e w' ⟨rfl, hw'⟩; obtain rfl := hw'.symm; clear A1) | (go_at_call_of 50 (Value.int .i64 o); refine (A2 _).mono ?_; rintro e w' ⟨rfl, hw'⟩; obtain rfl := hw'.symm; clear A2))
      go_ret
      exact ⟨ret_bool HT2.out.symm, below_then (below_alloc _ _) (below_alloc _ _)⟩
  · have HT2 : Hid (takB N Q S ⟨d, o, s, b⟩ = false) := by show _ = _; rw [HT.out]; exact decide_eq_false (fun h => h1 h.1.1)
    have A1 := fun w => inW_any d (N : Int) w
    rw [decide_eq_false h1] at A1
    clear h1
    go_enter Try.func63, Try.ntmps63
    go_wp2_with ((go_at_call_of 50 (Value.int .i64 d); refine (A1 _).mono ?_; rintro e w' ⟨rfl, hw'⟩; obtain rfl := hw'.symm; clear A1))
    go_ret
    exact ⟨ret_bool HT2.out.symm, below_then (below_alloc _ _) (below_alloc _ _)⟩
set_option maxHeartbeats 1000000 in
set_option maxRecDepth 100000 in
theorem takesAll_any (N Q S : Nat) (po : Option Addr) (n pc : Nat) (D : Nat → Pt) (B : Nat → Option Addr) (K : Nat → Nat) {Z : Nat → Prop} (hn : n ≤ 9223372036854775807) (w : World) (hp : Pts w Z po n D B K) (x : Bool) (hx : (x = true ∧ ∀ i, i < n → takB N Q S (D i) = true) ∨ (x = false ∧ ∃ i, i < n ∧ takB N Q S (D i) = false)) :
    Calls Try.prog 44 #[.agg #[.int .i64 (N : Int), .int .i64 (Q : Int), .int .i64 (S : Int)], .slice po n pc] w fun e w' => e = .returned (.bool x) ∧ Below w.heap.size w w' := by
  have HP : Hid (Pts w Z po n D B K) := hp
  have HX : Hid ((x = true ∧ ∀ i, i < n → takB N Q S (D i) = true) ∨ (x = false ∧ ∃ i, i < n ∧ takB N Q S (D i) = false)) := hx
  obtain ⟨w0, hw0⟩ : ∃ w0, w0 = w.alloc (.cells #[.int .i64 (N : Int), .int .i64 (Q : Int), .int .i64 (S : Int)] 64) := ⟨_, rfl⟩
  have b0 : Below w.heap.size w w0 := by rw [hw0]; exact below_alloc _ _
  have SHH : Hid (∀ v, Below w0.heap.size w0 v → v.cell? ⟨w.heap.size, 0, none⟩ = some (.int .i64 (N : Int)) ∧ v.cell? ⟨w.heap.size, 1, none⟩ = some (.int .i64 (Q : Int)) ∧ v.cell? ⟨w.heap.size, 2, none⟩ = some (.int .i64 (S : Int))) := fun v hv => shp_held hw0 hv
  have HB0 : Hid (Below w.heap.size w w0) := b0
  clear hp hx b0
  go_enter Try.func44, Try.ntmps44
  go_wp2_with fail
  rw [← hw0]
  clear hw0
  go_loopw [6, 9] (fun _ x wr => ∃ i : Nat, i ≤ n ∧ x = .int .i64 i ∧ Hid (Below w0.heap.size w0 wr) ∧ Hid (∀ j, j < i → takB N Q S (D j) = true)) (fun _ x _ => n - (intOf x).toNat)
  case atStart => exact ⟨0, Nat.zero_le _, rfl, Below.refl _ _, fun j hj => absurd hj (Nat.not_lt_zero _)⟩
  case round =>
    obtain ⟨i, hi, rfl, hb, hg⟩ := hrel
    by_cases hlt : i < n
    · have hpw := HP.out.below (below_then HB0.out hb.out)
      obtain ⟨b, off, rfl, hc⟩ := hpw.at_ (by omega)
      obtain ⟨k0, k1, k2, k3⟩ := hc i hlt
      obtain ⟨y, hy⟩ : ∃ y, y = D i := ⟨_, rfl⟩
      have HY : Hid (y = D i) := hy
      rw [← hy] at k0 k1 k2 k3
      have i1 : (0 : Int) ≤ (i : Int) := by omega
      have i2 : (i : Int) < (n : Int) := by omega
      obtain ⟨wx, hwx⟩ : ∃ wx, wx = wr.alloc (.cells #[.int .i64 y.d, .int .i64 y.r, .int .i64 y.s, .slice (B i) y.b.length (K i)] 35) := ⟨_, rfl⟩
      have bx : Below wr.heap.size wr wx := by rw [hwx]; exact below_alloc _ _
      obtain ⟨g0, g1, g2⟩ := SHH.out wr hb.out
      have q0 := fun o => held g0 (below_alloc wr o)
      have q1 := fun o => held g1 (below_alloc wr o)
      have q2 := fun o => held g2 (below_alloc wr o)
      have HT := takes_any N Q S y.d y.r y.s (B i) y.b.length (K i) y.b rfl wx
      obtain ⟨tb, htb⟩ : ∃ tb, tb = takB N Q S y := ⟨_, rfl⟩
      have HTB : Hid (tb = takB N Q S y) := htb
      rw [show (⟨y.d, y.r, y.s, y.b⟩ : Pt) = y from rfl, ← htb] at HT
      clear hpw hc hy htb
      go_wp2_with (go_at_call 63; rw [← hwx]; clear hwx; refine HT.mono ?_; rintro e wa ⟨rfl, ha⟩)
      · have HB2 : Hid (Below w0.heap.size w0 wa) := below_then hb.out (below_then bx ha)
        go_ret
        have HF : x = false := by
          rcases HX.out with ⟨_, h⟩ | ⟨h, _⟩
          · have h1 := h i hlt
            rw [← HY.out, ← HTB.out] at h1
            simp_all
          · exact h
        exact ⟨ret_bool HF.symm, below_then HB0.out HB2.out⟩
      · go_roundw
        case rel =>
          refine ⟨i + 1, by omega, by go_num, below_then hb.out (below_then bx ha), fun j hj => ?_⟩
          rcases Nat.lt_succ_iff_lt_or_eq.1 hj with g | rfl
          · exact hg.out j g
          · rw [← HY.out, ← HTB.out]; simp_all
        case measure => simp [intOf]; omega
    · obtain rfl : i = n := by omega
      have HF : Hid (x = true) := by
        rcases HX.out with ⟨h, _⟩ | ⟨_, j, h1, h2⟩
        · exact h
        · rw [hg.out j h1] at h2; cases h2
      go_wp2_with fail
      go_ret
      exact ⟨ret_bool HF.out.symm, below_then HB0.out hb.out⟩
end Go.Proofs.Ytenlfhdchflnjaa
