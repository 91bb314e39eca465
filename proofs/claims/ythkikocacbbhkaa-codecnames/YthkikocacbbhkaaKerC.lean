/- What the program answers for a sum of slices with their numbers: how many bytes, which bytes, or the error. -/
import Derived.Test.YthkikocacbbhkaaKerB
namespace Go.Proofs.Ythkikocacbbhkaa.Ker
open Go.RowKit

/-- Block B holds m slices with their numbers, side by side. -/
structure Terms (w : World) (B m : Nat) (F : Nat → Nat) (A : Nat → Option Addr) (C L : Nat → Nat) (H : Nat → Nat → Nat) : Prop where
  lt : B < w.heap.size
  num : ∀ i, F i < 256
  rd : ∀ i, i < m → Rd w (A i) (L i) (H i)
  factor : ∀ i, i < m → w.cell? ⟨B, i * 2, none⟩ = some (.int .u8 (F i : Int))
  bytes : ∀ i, i < m → w.cell? ⟨B, i * 2 + 1, none⟩ = some (.slice (A i) (L i) (C i))

set_option maxHeartbeats 400000 in
set_option maxRecDepth 100000 in
theorem size_ok (w : World) (B m cp n : Nat) (F : Nat → Nat) (A : Nat → Option Addr) (C L : Nat → Nat) (H : Nat → Nat → Nat) (t : Terms w B m F A C L H)
    (hm : m ≤ 100) (hn : n ≤ 65536) (hL : ∀ i, i < m → L i = n) (h0 : m = 0 → n = 0) :
    Calls Try.prog 49 #[.slice (some ⟨B, 0, none⟩) m cp] w fun e w' => e = .returned (.tuple #[.int .i64 (n : Int), .int .i64 0]) ∧ w' = w := by
  by_cases hz : m = 0
  · obtain rfl := hz
    obtain rfl := h0 rfl
    go_enter Try.func49, Try.ntmps49
    go_wp2
    go_ret2
    exact ⟨rfl, rfl⟩
  · have c0 : w.cell? ⟨B, 1, none⟩ = some (.slice (A 0) n (C 0)) := by have := t.bytes 0 (by omega); rwa [hL 0 (by omega)] at this
    have HT : Hid (∀ i, i < m → w.cell? ⟨B, i * 2 + 1, none⟩ = some (.slice (A i) n (C i))) := fun i hi => by have := t.bytes i hi; rwa [hL i hi] at this
    have hmz : ((m : Int) == 0) = false := by simpa using hz
    clear t hL h0
    go_enter Try.func49, Try.ntmps49
    go_wp2
    go_loop [18] (fun i => ∃ k : Nat, k ≤ m ∧ i = .int .i64 k) (fun i => m - (intOf i).toNat)
    case atStart => exact ⟨0, Nat.zero_le _, rfl⟩
    case round =>
      obtain ⟨k, hk, rfl⟩ := hrel
      by_cases hlt : k < m
      · have ck := HT.out k hlt
        go_wp2
        go_round
        case rel => exact ⟨k + 1, by omega, by go_num⟩
        case measure => simp [intOf]; omega
      · go_wp2
        go_ret2
        exact ⟨rfl, rfl⟩

set_option maxHeartbeats 400000 in
set_option maxRecDepth 100000 in
theorem size_bad (w : World) (B m cp : Nat) (F : Nat → Nat) (A : Nat → Option Addr) (C L : Nat → Nat) (H : Nat → Nat → Nat) (t : Terms w B m F A C L H)
    (hm : m ≤ 100) (h0 : 0 < m) (hL : 65536 < L 0 ∨ ∃ j, j < m ∧ L j ≠ L 0) :
    Calls Try.prog 49 #[.slice (some ⟨B, 0, none⟩) m cp] w fun e w' => e = .returned (.tuple #[.int .i64 0, .int .i64 20]) ∧ w' = w := by
  have c0 : w.cell? ⟨B, 1, none⟩ = some (.slice (A 0) (L 0) (C 0)) := by have := t.bytes 0 (by omega); exact this
  have hmz : ((m : Int) == 0) = false := by simp; omega
  by_cases hz : 65536 < L 0
  · clear t hL
    go_enter Try.func49, Try.ntmps49
    go_wp2
    go_ret2
    exact ⟨rfl, rfl⟩
  · obtain ⟨j, hj, hne, heq⟩ : ∃ j, j < m ∧ ¬ L j = L 0 ∧ ∀ i, i < j → L i = L 0 := by
      rcases hL with h | ⟨j, hj, hne⟩
      · exact absurd h hz
      · obtain ⟨k, hk, h1, h2⟩ := exists_first (p := fun i => L i = L 0) j hne
        exact ⟨k, by omega, h1, h2⟩
    have HT : Hid (∀ i, i < m → w.cell? ⟨B, i * 2 + 1, none⟩ = some (.slice (A i) (L i) (C i))) := t.bytes
    have HE : Hid (∀ i, i < j → L i = L 0) := heq
    have HN : Hid (¬ L j = L 0) := hne
    clear t hL heq hne
    go_enter Try.func49, Try.ntmps49
    go_wp2
    go_loop [18] (fun i => ∃ k : Nat, k ≤ j ∧ i = .int .i64 k) (fun i => m - (intOf i).toNat)
    case atStart => exact ⟨0, Nat.zero_le _, rfl⟩
    case round =>
      obtain ⟨k, hk, rfl⟩ := hrel
      have ck := HT.out k (by omega)
      by_cases hlt : k < j
      · rw [HE.out k hlt] at ck
        go_wp2
        go_round
        case rel => exact ⟨k + 1, by omega, by go_num⟩
        case measure => simp [intOf]; omega
      · obtain rfl : k = j := by omega
        have hb : (((L k : Nat) : Int) == ((L 0 : Nat) : Int)) = false := by
          have := HN.out
          simp; omega
        go_wp2
        go_ret2
        exact ⟨rfl, rfl⟩

set_option maxHeartbeats 400000 in
set_option maxRecDepth 100000 in
theorem sum_bad (w : World) (B m cp : Nat) (F : Nat → Nat) (A : Nat → Option Addr) (C L : Nat → Nat) (H : Nat → Nat → Nat) (t : Terms w B m F A C L H)
    (hm : m ≤ 100) (h0 : 0 < m) (hL : 65536 < L 0 ∨ ∃ j, j < m ∧ L j ≠ L 0) :
    Calls Try.prog 36 #[.slice (some ⟨B, 0, none⟩) m cp] w fun e w' => e = .returned (.tuple #[.slice none 0 0, .int .i64 20]) ∧ w' = w := by
  have HS := size_bad w B m cp F A C L H t hm h0 hL
  clear t hL
  go_enter Try.func36, Try.ntmps36
  go_wp2_with (go_at_call 49; refine HS.mono ?_; rintro e w' ⟨rfl, rfl⟩)
  go_ret2
  exact ⟨rfl, rfl⟩

theorem info5 : (Try.prog.info? 5).map (fun i => (i.zero, i.size, i.bytes)) = some (some (.int .u8 0), 1, 1) := by kernel_rfl

set_option maxHeartbeats 400000 in
set_option maxRecDepth 100000 in
theorem sum_ok (w : World) (B m cp n : Nat) (F : Nat → Nat) (A : Nat → Option Addr) (C L : Nat → Nat) (H : Nat → Nat → Nat) (t : Terms w B m F A C L H)
    (hm : m ≤ 100) (hn : n ≤ 65536) (hL : ∀ i, i < m → L i = n) (h0 : m = 0 → n = 0) :
    Calls Try.prog 36 #[.slice (some ⟨B, 0, none⟩) m cp] w fun e w' => e = .returned (.tuple #[.slice (some ⟨w.heap.size, 0, none⟩) n n, .int .i64 0]) ∧ Own w' w.heap.size n (tot F H m) ∧ Below w.heap.size w w' := by
  have HS := size_ok w B m cp n F A C L H t hm hn hL h0
  have HT : Hid (Terms w B m F A C L H) := t
  have HL : Hid (∀ i, i < m → L i = n) := hL
  have hmk := run_make_row' (P := Try.prog) 23 5 (.int .u8 0) 1 Try.underlying23 info5 rfl .i64 .i64 n (by omega) (by omega)
  clear t hL
  go_enter Try.func36, Try.ntmps36
  go_wp2_with (go_at_call 49; refine HS.mono ?_; rintro e w' ⟨rfl, hw'⟩; obtain rfl := hw'.symm)
  go_loopw [20] (fun i wr => ∃ k : Nat, k ≤ m ∧ i = .int .i64 k ∧ Hid (Own wr w.heap.size n (tot F H k)) ∧ Hid (Only w.heap.size w wr)) (fun i _ => m - (intOf i).toNat)
  case atStart => exact ⟨0, Nat.zero_le _, rfl, ⟨fun _ => by show 0 < 256; decide, World.rowIs_made w (.int .u8 0) n 5⟩, (Only.refl _ w).alloc _⟩
  case round =>
    obtain ⟨k, hk, rfl, hown, honly⟩ := hrel
    by_cases hlt : k < m
    · have c1 : wr.cell? ⟨B, k * 2, none⟩ = some (.int .u8 (F k : Int)) := honly.out.cell (HT.out.factor k hlt) (by have := HT.out.lt; simp; omega)
      have c2 : wr.cell? ⟨B, k * 2 + 1, none⟩ = some (.slice (A k) n (C k)) := by
        have := honly.out.cell (HT.out.bytes k hlt) (by have := HT.out.lt; simp; omega)
        rwa [HL.out k hlt] at this
      have HR : Hid (Rd w (A k) n (H k)) := by have := HT.out.rd k hlt; rwa [HL.out k hlt] at this
      have HO : Hid (0 < n → Off (A k) w.heap.size) := fun h => HR.out.off (Nat.le_refl _) h
      go_wp2_with (go_at_call 50; refine (gather_any wr w.heap.size n (tot F H k) (H k) (F k) (A k) (C k) hn (HT.out.num k) hown.out (HR.out.only honly.out HO.out) HO.out).mono ?_; rintro e w' ⟨rfl, hown', honly'⟩)
      go_roundw
      case rel => exact ⟨k + 1, by omega, by go_num, hown', honly.out.trans honly'⟩
      case measure => simp [intOf]; omega
    · obtain rfl : k = m := by omega
      go_wp2
      go_ret2
      exact ⟨rfl, hown.out, honly.out.below (Nat.le_refl _) (Nat.le_refl _)⟩
end Go.Proofs.Ythkikocacbbhkaa.Ker
