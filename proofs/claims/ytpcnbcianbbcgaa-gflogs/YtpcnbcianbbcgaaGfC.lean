/- What the table of logarithms holds, and what a logarithm comes to, by the program's text. -/
import Derived.Test.YtpcnbcianbbcgaaGfB
import Derived.Deep.WholeRow
import Derived.Laws.ResultCell
namespace Go.Proofs.Ytpcnbcianbbcgaa
open Go.RowKit

def logTo : Nat → Array Value
  | 0 => Array.replicate 256 (.int .u8 0)
  | k + 1 => (logTo k).setIfInBounds (Gf.E k) (.int .u8 (k : Int))
theorem logTo_size (k : Nat) : (logTo k).size = 256 := by
  induction k with
  | zero => simp [logTo]
  | succ k ih => simp [logTo, ih]
theorem logTo_at (k : Nat) (hk : k ≤ 255) (j : Nat) (hj : j < k) : (logTo k)[Gf.E j]? = some (.int .u8 (j : Int)) := by
  induction k with
  | zero => omega
  | succ k ih =>
    show ((logTo k).setIfInBounds _ _)[Gf.E j]? = _
    rw [Array.getElem?_setIfInBounds]
    by_cases h : j = k
    · subst h
      rw [if_pos rfl, if_pos (by rw [logTo_size]; exact Gf.E_lt _)]
    · rw [if_neg (fun e => h (Gf.E_inj _ _ (by omega) (by omega) e.symm))]
      exact ih (by omega) (by omega)
theorem logTo_lg (a : Nat) (h : a < 256) (h0 : a ≠ 0) : (logTo 255)[a]? = some (.int .u8 ((Gf.lg a : Nat) : Int)) := by
  have := logTo_at 255 (Nat.le_refl _) (Gf.lg a) (Gf.lg_lt a h)
  rwa [Gf.E_lg a h h0] at this
theorem logTo_any (k : Nat) (j : Nat) (h : j < 256) : ∃ v, (logTo k)[j]? = some v := ⟨(logTo k)[j]'(by rw [logTo_size]; exact h), Array.getElem?_eq_getElem _⟩
theorem logTo_mem (k : Nat) : ∀ v ∈ logTo k, ∃ n : Int, v = .int .u8 n := by
  induction k with
  | zero => intro v hv; exact ⟨0, by simpa [logTo] using hv⟩
  | succ k ih =>
    intro v hv
    rcases Array.mem_or_eq_of_mem_setIfInBounds hv with h | h
    · exact ih v h
    · exact ⟨_, h⟩
theorem logTo_one (k : Nat) : (logTo k).all (·.oneCell') = true := by
  rw [Array.all_eq_true_iff_forall_mem]
  intro v hv
  obtain ⟨n, rfl⟩ := logTo_mem k v hv
  rfl

theorem zero39 : (∀ w, (zeroValue 39).run Try.prog w = .ok (.agg (logTo 0)) w) ∧ (Try.prog.info? 39).map (·.size) = some 256 := zero_of_info (by kernel_rfl)

theorem below_setRow {B : Nat} {a w : World} (h : Below B a w) {g : Nat} (hg : B ≤ g) (cs : Array Value) : Below B a (w.setRow g cs) :=
  h.trans ⟨rfl, rfl, rfl, by simp, fun k hk => setRow_other w g k cs (by omega)⟩

/-- The table that a call makes. -/
def table : Array Value := logTo 255
theorem table_size : table.size = 256 := logTo_size 255
theorem table_one : table.all (·.oneCell') = true := logTo_one 255
theorem table_at (a : Nat) (h : a < 256) (h0 : a ≠ 0) : table[a]? = some (.int .u8 ((Gf.lg a : Nat) : Int)) := logTo_lg a h h0

set_option maxHeartbeats 400000 in
set_option maxRecDepth 100000 in
theorem logarithms_any (w : World) :
    Calls Try.prog 24 #[] w fun e w' => e = .returned (.agg table) ∧ Below w.heap.size w w' := by
  have hz := zero39.1
  obtain ⟨T, hT⟩ : ∃ T, T = table := ⟨_, rfl⟩
  have hTs : T.size = 256 := by rw [hT]; exact table_size
  have HT1 : Hid (T.all (·.oneCell') = true) := by rw [hT]; exact table_one
  have HT : Hid (T = logTo 255) := hT
  rw [← hT]
  clear hT
  go_enter Try.func24, Try.ntmps24
  go_wp2
  go_loopw [2, 4] (fun x i wx => ∃ k : Nat, k ≤ 255 ∧ i = .int .i64 k ∧ x = .int .u8 ((Gf.E k : Nat) : Int) ∧ wx = (w.alloc (.cells (logTo 0) 39)).alloc (.cells (logTo k) 39)) (fun _ i _ => 255 - (intOf i).toNat)
  case atStart => exact ⟨0, Nat.zero_le _, rfl, rfl, rfl⟩
  case round =>
    obtain ⟨k, hk, rfl, rfl, rfl⟩ := hrel
    clear hz
    have hE : Gf.E k < 256 := Gf.E_lt k
    by_cases hlt : k < 255
    · obtain ⟨v, hv⟩ := logTo_any k (Gf.E k) hE
      go_wp2_with (go_at_call 26; refine (double_any _ _ (by omega) (by omega)).mono ?_; rintro e w' ⟨rfl, rfl⟩)
      refine ⟨⟨k + 1, by omega, by go_num, rfl, rfl⟩, ?_⟩
      simp [intOf]; omega
    · have hk5 : k = 255 := by omega
      rw [hk5, ← HT.out]
      rw [hk5] at hE
      clear hk5 hlt hk
      have hi : (Try.prog.info? 39).map (·.size) = some T.size := by rw [hTs]; exact zero39.2
      have Hi : Hid ((Try.prog.info? 39).map (·.size) = some T.size) := hi
      have Hg1 : Hid (((w.alloc (.cells (logTo 0) 39)).alloc (.cells T 39)).heap[w.heap.size + 1]? = some (.cells T 39 (0, 0))) := heap_alloc2_new w _ _
      have Hg0 : Hid (((w.alloc (.cells (logTo 0) 39)).alloc (.cells T 39)).heap[w.heap.size]? = some (.cells (logTo 0) 39 (0, 0))) := heap_alloc2_old w _ _
      have Hs : Hid ((logTo 0).size = T.size) := by rw [hTs]; exact logTo_size 0
      have Hr : Hid ((((w.alloc (.cells (logTo 0) 39)).alloc (.cells T 39)).setRow w.heap.size T).heap[w.heap.size]? = some (.cells T 39 (0, 0))) := setRow_heap _ _ _ _ _ _ Hg0.out
      have Hb : Hid (Below w.heap.size w (((w.alloc (.cells (logTo 0) 39)).alloc (.cells T 39)).setRow w.heap.size T)) := below_setRow (((Below.refl _ _).alloc (Nat.le_refl _) _).alloc (by simp) _) (Nat.le_refl _) _
      clear hi hTs
      generalize logTo 0 = T0 at *
      go_wp2_with (first | (refine wpList_load_row rfl 39 _ rfl (w.heap.size + 1) rfl 39 T (0, 0) _ Hg1.out Try.underlying39 rfl Hi.out ?_) | (refine wpList_store_row rfl 39 _ _ rfl w.heap.size T rfl rfl 39 T0 Hg0.out Hi.out Hs.out HT1.out ?_))
      exact bodyPost_ret (v := .agg T) (results_cell_row Try.results24 _ _ w.heap.size 39 T (0, 0) _ rfl Hr.out Try.underlying39 rfl Hi.out) rfl ⟨rfl, Hb⟩

set_option maxHeartbeats 400000 in
set_option maxRecDepth 100000 in
theorem log_any (a : Int) (w : World) (h0 : 0 < a) (h1 : a ≤ 255) :
    Calls Try.prog 10 #[.int .u8 a] w fun e w' => e = .returned (.tuple #[.int .i64 ((Gf.lg a.toNat : Nat) : Int), .int .i64 0]) ∧ Below w.heap.size w w' := by
  obtain ⟨n, rfl⟩ := Int.eq_ofNat_of_zero_le (Int.le_of_lt h0)
  rw [Int.toNat_natCast]
  have hb : ((n : Int) == 0) = false := beq_eq_false_iff_ne.2 (by omega)
  obtain ⟨T, hT⟩ : ∃ T, T = table := ⟨_, rfl⟩
  have HT1 : Hid (T.all (·.oneCell') = true) := by rw [hT]; exact table_one
  have HTs : Hid ((logTo 0).size = T.size) := by rw [hT, table_size]; exact logTo_size 0
  have Hi : Hid ((Try.prog.info? 39).map (·.size) = some T.size) := by rw [hT, table_size]; exact zero39.2
  have hat : T[n]? = some (.int .u8 ((Gf.lg n : Nat) : Int)) := by rw [hT]; exact table_at n (by omega) (by omega)
  have HT : Hid (T = table) := hT
  have hlg : Gf.lg n < 255 := Gf.lg_lt n (by omega)
  clear hT
  have hz := zero39.1
  generalize logTo 0 = T0 at *
  go_enter Try.func10, Try.ntmps10
  go_wp2_with fail
  refine (logarithms_any _).mono ?_
  rw [← HT.out]
  rintro e w1 ⟨rfl, hw1⟩
  go_wp2_with (refine wpList_store_row rfl 39 _ _ rfl w1.heap.size T rfl rfl 39 T0 (heap_alloc_new w1 _) Hi.out HTs.out HT1.out ?_; rw [World.setRow_alloc_new])
  go_ret2
  exact ⟨rfl, hw1.alloc hw1.size _⟩

set_option maxHeartbeats 400000 in
theorem log_zero_any (w : World) :
    Calls Try.prog 10 #[.int .u8 0] w fun e w' => e = .returned (.tuple #[.int .i64 0, .int .i64 10]) ∧ w' = w := by
  go_enter Try.func10, Try.ntmps10
  go_wp2
  go_ret2
  exact ⟨rfl, rfl⟩
end Go.Proofs.Ytpcnbcianbbcgaa
