/- Which cells new bytes meet: Changes of the program. -/
import Derived.Test.YtdnflninbnjdhaaUpA
namespace Go.Proofs.Ytdnflninbnjdhaa
open Go.RowKit

/-- The error of Changes. -/
def erCh (x : Int) (W on : Nat) (a : Int) (nn : Nat) : Int := if x = 0 then (if on = W then (if 0 ≤ a ∧ a ≤ (W : Int) then (if (nn : Int) ≤ (W : Int) - a then 0 else 20) else 2) else 20) else x
/-- How many cells nn bytes from o on meet. -/
def nCh (o nn m : Nat) : Nat := if nn = 0 then 0 else (o + nn - 1) / m + 1 - o / m
theorem end_nCh {o nn m n : Nat} (h : End o (o + nn) m n) : n = nCh o nn m := by
  unfold nCh
  rcases h with ⟨h1, h2⟩ | ⟨h1, h2, h3⟩
  · rw [if_pos (by omega)]; exact h2
  · rw [if_neg (by omega)]; omega
/-- What a change has: the old bytes with the new ones in their places. -/
def chB (O M : Nat → UInt8) (o nn m i b : Nat) : UInt8 := upR O o nn M ((o / m + i) * m + b)
/-- Changes and an error. -/
def AnsCh (w : World) (E : Int) (n : Nat) (D : Nat → Int) (m : Nat) (H : Nat → Nat → UInt8) (e : Ending) (w' : World) : Prop :=
  ∃ ao cap T U, e = .returned (.tuple #[.slice ao (lenE E n) cap, .int .i64 E]) ∧ Chs w.heap.size w' ao (lenE E n) cap D T (fun _ => m) U H ∧ Below w.heap.size w w'
theorem ans_none {w w' : World} {E : Int} {n : Nat} {D : Nat → Int} {m : Nat} {H : Nat → Nat → UInt8} (hE : ¬ E = 0) (hb : Below w.heap.size w w') : AnsCh w E n D m H (.returned (.tuple #[.slice none 0 0, .int .i64 E])) w' := by
  have : lenE E n = 0 := if_neg hE
  refine ⟨none, 0, fun _ => none, fun _ => 0, by rw [this], ?_, hb⟩
  rw [this]; exact chs_nil _ _ _ _ _ _ _
theorem ch_byte {O M : Nat → UInt8} {o nn m i : Nat} (hm : 0 < m) (hp : pos o (o + nn) m i < o + nn) {j : Nat} (hj : j < m) :
    upR (fun b => O ((o / m + i) * m + b)) (frm o m i) (til o (o + nn) m i - frm o m i) (fun b => M (pos o (o + nn) m i - o + b)) j = chB O M o nn m i j := by
  have h1 := pos_at hm hp
  have h2 := til_gt hm hp
  have h3 : til o (o + nn) m i = min m (o + nn - (o / m + i) * m) := rfl
  have h4 : (o ≤ (o / m + i) * m + j) ↔ frm o m i ≤ j := by
    unfold frm
    by_cases e : i = 0
    · subst e
      rw [if_pos rfl, Nat.add_zero]
      have := Nat.div_add_mod o m
      rw [Nat.mul_comm] at this
      omega
    · rw [if_neg e]
      have a1 := Nat.div_add_mod o m
      have a2 := Nat.mod_lt o hm
      have a3 : (o / m + 1) * m ≤ (o / m + i) * m := Nat.mul_le_mul_right m (by omega)
      rw [Nat.add_mul, Nat.one_mul] at a3
      rw [Nat.mul_comm] at a1
      omega
  have h5 : pos o (o + nn) m i ≥ o := by
    unfold pos
    by_cases e : i = 0
    · rw [if_pos e]; exact Nat.le_refl o
    · unfold pos at h1; rw [if_neg e] at h1 ⊢
      have := h4.2
      have hz : frm o m i = 0 := if_neg e
      have a1 := Nat.div_add_mod o m
      have a2 := Nat.mod_lt o hm
      have a3 : (o / m + 1) * m ≤ (o / m + i) * m := Nat.mul_le_mul_right m (by omega)
      rw [Nat.add_mul, Nat.one_mul] at a3
      rw [Nat.mul_comm] at a1
      omega
  unfold chB
  generalize hP : (o / m + i) * m = P at *
  by_cases c : o ≤ P + j ∧ P + j < o + nn
  · rw [upR_in c, upR_in ⟨h4.1 c.1, by omega⟩, show pos o (o + nn) m i - o + (j - frm o m i) = P + j - o by have := h4.1 c.1; omega]
  · rw [upR_out c, upR_out (by omega)]
theorem pos_ge {o e m i : Nat} (hm : 0 < m) (h : pos o e m i < e) : o ≤ pos o e m i := by
  have h1 := pos_at hm h
  by_cases g : i = 0
  · unfold pos; rw [if_pos g]; exact Nat.le_refl o
  · have hz : frm o m i = 0 := if_neg g
    have a1 := Nat.div_add_mod o m
    have a2 := Nat.mod_lt o hm
    have a3 : (o / m + 1) * m ≤ (o / m + i) * m := Nat.mul_le_mul_right m (by omega)
    rw [Nat.add_mul, Nat.one_mul] at a3
    rw [Nat.mul_comm] at a1
    omega
theorem ch_lt {o e m i K : Nat} (hm : 0 < m) (h : pos o e m i < e) (he : e ≤ K * m) : o / m + i < K := by
  have h1 := pos_at hm h
  have : (o / m + i) * m < K * m := by omega
  exact Nat.lt_of_mul_lt_mul_right this
set_option maxHeartbeats 4000000 in
set_option maxRecDepth 100000 in
theorem changes_bad {k r c q : Int} {N W : Nat} {x : Int} (h : Par k r c q N W x) (w : World) (oo : Option Addr) (on oc : Nat) (a : Int) (mo : Option Addr) (mn mc : Nat) (E : Int) (hE : erCh x W on a mn = E) (h0 : ¬ E = 0) :
    Calls Try.prog 6 #[.agg #[.int .i64 k, .int .i64 r, .int .i64 c, .int .i64 q], .slice oo on oc, .int .i64 a, .slice mo mn mc] w fun e w' => e = .returned (.tuple #[.slice none 0 0, .int .i64 E]) ∧ Below w.heap.size w w' := by
  have HC := fun w => Width_any h w
  have hW := h.wide
  obtain ⟨w0, hw0⟩ : ∃ w0, w0 = w.alloc (.cells #[.int .i64 k, .int .i64 r, .int .i64 c, .int .i64 q] 23) := ⟨_, rfl⟩
  have b0 : Below w.heap.size w w0 := by rw [hw0]; exact below_alloc _ _
  unfold erCh at hE
  clear h
  by_cases h1 : x = 0
  · subst h1
    rw [if_pos rfl] at hE
    by_cases h2 : on = W
    · subst h2
      rw [if_pos rfl] at hE
      have q1 : ((on : Int) != (on : Int)) = false := by simp
      by_cases h3 : 0 ≤ a ∧ a ≤ (on : Int)
      · rw [if_pos h3] at hE
        by_cases h4 : (mn : Int) ≤ (on : Int) - a
        · rw [if_pos h4] at hE; exact absurd hE.symm h0
        · rw [if_neg h4] at hE
          subst hE
          go_enter Try.func6, Try.ntmps6
          go_wp2_with fail
          rw [← hw0]
          refine (HC _).mono ?_
          rintro e wa ⟨rfl, ha⟩
          go_wp2_with fail
          go_ret2
          exact ⟨rfl, below_then b0 ha⟩
      · rw [if_neg h3] at hE
        subst hE
        by_cases h5 : a < 0
        all_goals (
          go_enter Try.func6, Try.ntmps6
          go_wp2_with fail
          rw [← hw0]
          refine (HC _).mono ?_
          rintro e wa ⟨rfl, ha⟩
          go_wp2_with fail
          go_ret2
          exact ⟨rfl, below_then b0 ha⟩)
    · rw [if_neg h2] at hE
      subst hE
      have q1 : ((on : Int) != (W : Int)) = true := by simp; omega
      go_enter Try.func6, Try.ntmps6
      go_wp2_with fail
      rw [← hw0]
      refine (HC _).mono ?_
      rintro e wa ⟨rfl, ha⟩
      go_wp2_with fail
      go_ret2
      exact ⟨rfl, below_then b0 ha⟩
  · rw [if_neg h1] at hE
    subst hE
    have q1 : (x != 0) = true := by simp [h1]
    go_enter Try.func6, Try.ntmps6
    go_wp2_with fail
    rw [← hw0]
    refine (HC _).mono ?_
    rintro e wa ⟨rfl, ha⟩
    go_wp2_with fail
    go_ret2
    exact ⟨rfl, below_then b0 ha⟩
end Go.Proofs.Ytdnflninbnjdhaa
