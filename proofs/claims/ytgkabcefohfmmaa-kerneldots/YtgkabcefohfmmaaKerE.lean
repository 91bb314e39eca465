/- What Zero and Pad of the program answer, whatever slice and length. -/
import Derived.Test.YtgkabcefohfmmaaKerD
namespace Go.Proofs.Ytgkabcefohfmmaa
open Go.RowKit

def zeroB (n : Nat) (f : Nat → Nat) : Bool := decide (∀ i, i < n → f i = 0)

set_option maxHeartbeats 400000 in
set_option maxRecDepth 100000 in
theorem zero_any (w : World) (ao : Option Addr) (n cp : Nat) (f : Nat → Nat) (hn : n ≤ 1000000) (ha : Rd w ao n f) :
    Calls Try.prog 16 #[.slice ao n cp] w fun e w' => e = .returned (.bool (zeroB n f)) ∧ w' = w := by
  have HA : Hid (Rd w ao n f) := ha
  clear ha
  by_cases hz : ∀ i, i < n → f i = 0
  · have HZ : Hid (∀ i, i < n → f i = 0) := hz
    have hb : zeroB n f = true := decide_eq_true hz
    rw [hb]
    clear hz hb
    go_enter Try.func16, Try.ntmps16
    go_wp2
    go_loop [6] (fun i => ∃ k : Nat, k ≤ n ∧ i = .int .i64 k) (fun i => n - (intOf i).toNat)
    case atStart => exact ⟨0, Nat.zero_le _, rfl⟩
    case round =>
      obtain ⟨k, hk, rfl⟩ := hrel
      by_cases hlt : k < n
      · obtain ⟨b, off, rfl, hc⟩ := HA.out.2 (by omega)
        have ck := hc k hlt
        rw [HZ.out k hlt] at ck
        clear hc
        go_wp2
        go_round
        case rel => exact ⟨k + 1, by omega, by go_num⟩
        case measure => simp [intOf]; omega
      · go_wp2
        go_ret
        exact ⟨rfl, rfl⟩
  · obtain ⟨j, hj, hne, heq⟩ : ∃ j, j < n ∧ ¬ f j = 0 ∧ ∀ i, i < j → f i = 0 := by
      obtain ⟨i, hi⟩ := Classical.not_forall.1 hz
      obtain ⟨h1, h2⟩ := Classical.not_imp.1 hi
      obtain ⟨k, hk, h3, h4⟩ := exists_first (p := fun i => f i = 0) i h2
      exact ⟨k, by omega, h3, h4⟩
    have HE : Hid (∀ i, i < j → f i = 0) := heq
    have HN : Hid (¬ f j = 0) := hne
    have hb : zeroB n f = false := decide_eq_false hz
    rw [hb]
    clear hz hb heq hne
    obtain ⟨b, off, rfl, hc⟩ := HA.out.2 (by omega)
    have HC : Hid (∀ i, i < n → w.cell? ⟨b, off + i, none⟩ = some (.int .u8 (f i : Int))) := hc
    clear hc
    go_enter Try.func16, Try.ntmps16
    go_wp2
    go_loop [6] (fun i => ∃ k : Nat, k ≤ j ∧ i = .int .i64 k) (fun i => n - (intOf i).toNat)
    case atStart => exact ⟨0, Nat.zero_le _, rfl⟩
    case round =>
      obtain ⟨k, hk, rfl⟩ := hrel
      have ck := HC.out k (by omega)
      by_cases hlt : k < j
      · rw [HE.out k hlt] at ck
        go_wp2
        go_round
        case rel => exact ⟨k + 1, by omega, by go_num⟩
        case measure => simp [intOf]; omega
      · obtain rfl : k = j := by omega
        have hb : ((f k : Int) == 0) = false := by
          have := HN.out
          simp; omega
        go_wp2
        go_ret
        exact ⟨rfl, rfl⟩

/-- The bytes, and zeros behind them. -/
def padF (la : Nat) (f : Nat → Nat) (i : Nat) : Nat := if i < la then f i else 0
theorem padF_lt {la : Nat} {f : Nat → Nat} (hf : ∀ i, f i < 256) (i : Nat) : padF la f i < 256 := by unfold padF; split; exact hf i; decide
def okD (la : Nat) (n : Int) : Bool := decide ((la : Int) ≤ n) && decide (n ≤ 65536)
theorem okD_true {la : Nat} {n : Int} (h : okD la n = true) : (la : Int) ≤ n ∧ n ≤ 65536 := by simpa [okD] using h
theorem okD_false {la : Nat} {n : Int} (h : okD la n = false) : n < la ∨ ((la : Int) ≤ n ∧ 65536 < n) := by
  by_cases h1 : (la : Int) ≤ n
  · simp [okD, h1] at h; exact .inr ⟨h1, h⟩
  · exact .inl (by omega)

/-- The cells of n bytes. -/
def cellsOf (n : Nat) (f : Nat → Nat) : List Value := (List.range n).map fun i => .int .u8 (f i : Int)
theorem cellsOf_length (n : Nat) (f : Nat → Nat) : (cellsOf n f).length = n := by simp [cellsOf]
theorem cellsOf_get (n : Nat) (f : Nat → Nat) (i : Nat) (h : i < n) : (cellsOf n f)[i]? = some (.int .u8 (f i : Int)) := by simp [cellsOf, h]
theorem cellsOf_one (n : Nat) (f : Nat → Nat) : ∀ v ∈ cellsOf n f, v.oneCell' = true := by
  intro v hv
  simp only [cellsOf, List.mem_map] at hv
  obtain ⟨i, _, rfl⟩ := hv
  rfl
theorem made_zero (n : Nat) : madeCells #[.int .u8 0] n = (cellsOf n fun _ => 0).toArray := by
  apply Array.ext_getElem?
  intro i
  by_cases h : i < n
  · rw [show (cellsOf n fun _ => 0).toArray[i]? = (cellsOf n fun _ => 0)[i]? from by simp, cellsOf_get _ _ _ h]; simp [madeCells, h, Nat.mod_one]
  · rw [Array.getElem?_eq_none (by rw [size_madeCells]; omega), Array.getElem?_eq_none (by simp [cellsOf_length]; omega)]
theorem splice_row {w : World} {g n la : Nat} {f : Nat → Nat} (hf : ∀ i, f i < 256) (hla : la ≤ n) (h : w.heap[g]? = some (.cells (splice (cellsOf n fun _ => 0) 0 (cellsOf la f)).toArray 5 (0, 0))) : Own w g n (padF la f) := by
  refine ⟨padF_lt hf, _, h, ?_, fun i hi => ?_⟩
  · simp [splice, cellsOf_length]; omega
  · rw [List.getElem?_toArray]
    simp only [splice, List.take_zero, List.nil_append, Nat.zero_add]
    by_cases h1 : i < la
    · rw [List.getElem?_append_left (by rw [cellsOf_length]; exact h1), cellsOf_get _ _ _ h1, padF, if_pos h1]
    · rw [List.getElem?_append_right (by rw [cellsOf_length]; omega), cellsOf_length, List.getElem?_drop, show la + (i - la) = i by omega, cellsOf_get _ _ _ hi, padF, if_neg h1]
theorem rd_cells {w : World} {ao : Option Addr} {n : Nat} {f : Nat → Nat} (h : Rd w ao n f) (hp : 0 < (cellsOf n f).length) : ∃ ad, ao = some ad ∧ ∀ j v, (cellsOf n f)[j]? = some v → w.cell? (ad.add j) = some v := by
  rw [cellsOf_length] at hp
  obtain ⟨b, off, rfl, hc⟩ := h.2 hp
  refine ⟨_, rfl, fun j v hv => ?_⟩
  have hj : j < n := by
    rcases Nat.lt_or_ge j n with h | h
    · exact h
    · rw [List.getElem?_eq_none (by rw [cellsOf_length]; exact h)] at hv; cases hv
  rw [cellsOf_get _ _ _ hj] at hv
  rw [Addr.add_lit, hc j hj]; exact hv

set_option maxHeartbeats 400000 in
theorem pad_any (w : World) (ao : Option Addr) (la ca : Nat) (n : Int) (f : Nat → Nat) (hl : la ≤ 1000000) (ha : Rd w ao la f) :
    Calls Try.prog 12 #[.slice ao la ca, .int .i64 n] w (Made w (okD la n) n.toNat (padF la f)) := by
  have HA : Hid (Rd w ao la f) := ha
  clear ha
  cases hok : okD la n
  · rcases okD_false hok with h1 | ⟨h1, h2⟩
    · clear hok
      go_enter Try.func12, Try.ntmps12
      go_wp2
      go_ret2
      exact ⟨none, rfl, .inl ⟨rfl, rfl, padF_lt HA.out.1⟩, Below.refl _ _⟩
    · clear hok
      go_enter Try.func12, Try.ntmps12
      go_wp2
      go_ret2
      exact ⟨none, rfl, .inl ⟨rfl, rfl, padF_lt HA.out.1⟩, Below.refl _ _⟩
  · obtain ⟨h1, h2⟩ := okD_true hok
    clear hok
    obtain ⟨m, rfl⟩ := Int.eq_ofNat_of_zero_le (show 0 ≤ n by omega)
    rw [Int.toNat_natCast]
    have hmk := run_make_row' (P := Try.prog) 23 5 (.int .u8 0) 1 Try.underlying23 info5 rfl .i64 .i64 m (by omega) (by omega)
    rw [made_zero] at hmk
    have hsz : (Try.prog.info? 5).map (·.size) = some 1 := by kernel_rfl
    obtain ⟨Z, hZ⟩ : ∃ Z, Z = cellsOf m (fun _ => 0) := ⟨_, rfl⟩
    obtain ⟨X, hX⟩ : ∃ X, X = cellsOf la f := ⟨_, rfl⟩
    rw [← hZ] at hmk
    have HZ : Hid (Z = cellsOf m (fun _ => 0)) := hZ
    have HX : Hid (X = cellsOf la f) := hX
    clear hZ hX
    go_enter Try.func12, Try.ntmps12
    go_wp2_with (refine wpList_copy_splice (by rfl) (.tmp 17) (.tmp 18) 23 23 (by rfl) 5 Try.underlying23 hsz (some ⟨w.heap.size, 0, none⟩) ao m m la ca (by rfl) (by rfl) w.heap.size 0 Z 5 (by exact heap_alloc_new w _) X (by rw [HX.out, cellsOf_length]; simp [Nat.min_def]; omega) (by intro hp; refine ⟨rfl, ?_⟩; rw [HX.out] at hp ⊢; exact rd_cells (HA.out.below ((Below.refl _ w).alloc (Nat.le_refl _) _)) hp) (by rw [HX.out, HZ.out, cellsOf_length, cellsOf_length]; omega) (by rw [HX.out]; exact cellsOf_one _ _) w.heap.size w (by exact (Below.refl _ w).alloc (Nat.le_refl _) _) (Nat.le_refl _) ?_; intro w2 HG2 hB2)
    go_ret2
    refine ⟨_, rfl, .inr ⟨_, rfl, Nat.le_refl _, splice_row HA.out.1 (show la ≤ m by omega) ?_⟩, hB2⟩
    have := HG2.out
    rwa [HX.out, HZ.out] at this
end Go.Proofs.Ytgkabcefohfmmaa
