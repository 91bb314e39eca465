/- What the layout's small functions answer: whether parameters may be, and the numbers that hang on them. -/
import Derived.Test.YtmncbeabhicbhaaRows
import Derived.Test.YtmncbeabhicbhaaLayMath
import Derived.WalkKit
import Derived.WalkSpells
import Derived.WalkLawsBesides
import Derived.Below
import Derived.Deep.RegionHeld3
namespace Go.Proofs.Ytmncbeabhicbhaa
open Go.RowKit

theorem below_step {B : Nat} {a b c : World} (h : Below B a b) (k : Below b.heap.size b c) (hB : B ≤ b.heap.size) : Below B a c := h.trans (k.mono hB)
theorem below_then {a b c : World} (h : Below a.heap.size a b) (k : Below b.heap.size b c) : Below a.heap.size a c := below_step h k h.size
theorem below_alloc (w : World) (o : Obj) : Below w.heap.size w (w.alloc o) := (Below.refl _ w).alloc (Nat.le_refl _) o
theorem below_drew (B : Nat) (w : World) : Below B w w.drew := ⟨rfl, rfl, rfl, Nat.le_refl _, fun _ _ => rfl⟩
theorem held {w w' : World} {a : Addr} {v : Value} (h : w.cell? a = some v) (hb : Below w.heap.size w w') : w'.cell? a = some v := (hb.cell (World.block_lt_of_cell? w _ h)).trans h
theorem ret_int {k : IntKind} {a b : Int} (h : a = b) : Ending.returned (.int k a) = .returned (.int k b) := by rw [h]
theorem ret_bool {a b : Bool} (h : a = b) : Ending.returned (.bool a) = .returned (.bool b) := by rw [h]
/-- A block's cells, and that none is frozen, behind whatever leaves what was there. -/
theorem blk_held {w w0 w1 : World} {cs : Array Value} {t : TypeId} (h0 : w0 = w.alloc (.cells cs t)) (hb : Below w0.heap.size w0 w1) (i : Nat) {v : Value} (hi : cs[i]? = some v) : w1.cell? ⟨w.heap.size, i, none⟩ = some v := by
  subst h0
  rw [World.cell?_of_block (hb.block w.heap.size (by simp)), cell_of_row _ _ _ _ _ _ (heap_alloc_new w _)]
  exact hi
theorem blk_free {w w0 w1 : World} {cs : Array Value} {t : TypeId} (h0 : w0 = w.alloc (.cells cs t)) (hb : Below w0.heap.size w0 w1) (i : Nat) : w1.frozen? ⟨w.heap.size, i, none⟩ = false := by
  subst h0
  rw [World.frozen?_of_block (hb.block w.heap.size (by simp))]
  unfold World.frozen?
  rw [heap_alloc_new w _]
  simp
theorem par_held {w w0 w1 : World} {x0 x1 x2 x3 : Value} {t : TypeId} (h0 : w0 = w.alloc (.cells #[x0, x1, x2, x3] t)) (hb : Below w0.heap.size w0 w1) :
    w1.cell? ⟨w.heap.size, 0, none⟩ = some x0 ∧ w1.cell? ⟨w.heap.size, 1, none⟩ = some x1 ∧ w1.cell? ⟨w.heap.size, 2, none⟩ = some x2 ∧ w1.cell? ⟨w.heap.size, 3, none⟩ = some x3 :=
  ⟨blk_held h0 hb 0 rfl, blk_held h0 hb 1 rfl, blk_held h0 hb 2 rfl, blk_held h0 hb 3 rfl⟩
theorem mea_held {w w0 w1 : World} {x0 x1 x2 x3 x4 : Value} {t : TypeId} (h0 : w0 = w.alloc (.cells #[x0, x1, x2, x3, x4] t)) (hb : Below w0.heap.size w0 w1) :
    w1.cell? ⟨w.heap.size, 0, none⟩ = some x0 ∧ w1.cell? ⟨w.heap.size, 1, none⟩ = some x1 ∧ w1.cell? ⟨w.heap.size, 2, none⟩ = some x2 ∧ w1.cell? ⟨w.heap.size, 3, none⟩ = some x3 ∧ w1.cell? ⟨w.heap.size, 4, none⟩ = some x4 :=
  ⟨blk_held h0 hb 0 rfl, blk_held h0 hb 1 rfl, blk_held h0 hb 2 rfl, blk_held h0 hb 3 rfl, blk_held h0 hb 4 rfl⟩
theorem w64 (n : Int) (h : -9223372036854775808 ≤ n ∧ n ≤ 9223372036854775807) : wrap64 n = n := by unfold wrap64; omega
theorem wrap_wide {k c : Int} (h1 : 1 ≤ k) (h2 : k ≤ 12) (h3 : 8 ≤ c) (h4 : c ≤ 64) : wrap64 (k * c) = k * c := by
  have := may_wide h1 h2 h3 h4
  unfold wrap64; omega

set_option maxHeartbeats 400000 in
theorem within_any (n a b : Int) (w : World) :
    Calls Try.prog 30 #[.int .i64 n, .int .i64 a, .int .i64 b] w fun e w' => e = .returned (.bool (decide (a ≤ n ∧ n ≤ b))) ∧ w' = w := by
  rw [Bool.decide_and]
  go_enter Try.func30, Try.ntmps30
  go_wp2
  · go_ret
    exact ⟨ret_bool (by rw [decide_eq_true (show a ≤ n by omega)]; rfl), rfl⟩
  · go_ret
    exact ⟨ret_bool (by rw [decide_eq_false (show ¬ a ≤ n by omega)]; rfl), rfl⟩
theorem may_decide (k r c q : Int) : may k r c q = decide (1 ≤ k ∧ k ≤ 12 ∧ 0 ≤ r ∧ r ≤ 4 ∧ 8 ≤ c ∧ c ≤ 64 ∧ 32 ≤ k * c ∧ 8 ≤ q ∧ q ≤ 256) := rfl
set_option maxHeartbeats 400000 in
set_option maxRecDepth 100000 in
theorem May_any (k r c q : Int) (w : World) :
    Calls Try.prog 28 #[.agg #[.int .i64 k, .int .i64 r, .int .i64 c, .int .i64 q]] w fun e w' => e = .returned (.bool (may k r c q)) ∧ Below w.heap.size w w' := by
  have HW : Hid (1 ≤ k → k ≤ 12 → 8 ≤ c → c ≤ 64 → wrap64 (k * c) = k * c) := wrap_wide
  go_enter Try.func28, Try.ntmps28
  go_wp2
  all_goals (go_ret; have := HW.out; refine ⟨ret_bool ?_, below_alloc _ _⟩; rw [may_decide]; first | exact decide_eq_decide.2 (by omega) | exact (decide_eq_false (by omega)).symm)
def erP (k r c q : Int) : Int := if may k r c q = true then 0 else 2
set_option maxHeartbeats 400000 in
set_option maxRecDepth 100000 in
theorem Check_any (k r c q : Int) (w : World) :
    Calls Try.prog 19 #[.agg #[.int .i64 k, .int .i64 r, .int .i64 c, .int .i64 q]] w fun e w' => e = .returned (.int .i64 (erP k r c q)) ∧ Below w.heap.size w w' := by
  have HW : Hid (1 ≤ k → k ≤ 12 → 8 ≤ c → c ≤ 64 → wrap64 (k * c) = k * c) := wrap_wide
  go_enter Try.func19, Try.ntmps19
  go_wp2_with (go_at_call 30; refine (within_any _ _ _ _).mono ?_; rintro e w' ⟨rfl, hw'⟩; obtain rfl := hw'.symm)
  all_goals (go_ret; have := HW.out; refine ⟨ret_int ?_, below_alloc _ _⟩; unfold erP; rw [may_decide]; first | (rw [if_pos (decide_eq_true (by omega))]; done) | (rw [if_neg (by rw [decide_eq_true_eq]; omega)]; done))
/-- What parameters come to: N drives, W bytes, the error. -/
def Par (k r c q : Int) (N W : Nat) (e : Int) : Prop := (may k r c q = true ∧ (W : Int) = k * c ∧ (N : Int) = k + r ∧ e = 0) ∨ (may k r c q = false ∧ W = 0 ∧ N = 0 ∧ e = 2)
theorem par_any (k r c q : Int) : ∃ N W e, Par k r c q N W e := by
  cases h : may k r c q
  · exact ⟨0, 0, 2, .inr ⟨h, rfl, rfl, rfl⟩⟩
  · obtain ⟨h1, h2, h3, h4, h5, h6, h7, h8, h9⟩ := may_true h
    exact ⟨(k + r).toNat, (k * c).toNat, 0, .inl ⟨h, by omega, by omega, rfl⟩⟩
theorem Par.wide {k r c q : Int} {N W : Nat} {e : Int} (h : Par k r c q N W e) : W ≤ 768 := by
  rcases h with ⟨h, h0, _⟩ | ⟨_, h0, _⟩
  · obtain ⟨h1, h2, h3, h4, h5, h6, h7, h8, h9⟩ := may_true h
    have := may_wide h1 h2 h5 h6
    omega
  · omega

end Go.Proofs.Ytmncbeabhicbhaa
