/- What numbers, refs and leaves bytes begin with, by the program. -/
import Derived.Test.YtjncnojplkljnaaDsA
namespace Go.Proofs.Ytjncnojplkljnaa
open Go.RowKit

theorem bec_behind {w : World} {b off n cp k : Nat} {F : Nat → UInt8} (h : Bec w (some ⟨b, off, none⟩) n cp F) (hk : k ≤ n) : Bec w (some ⟨b, off + k, none⟩) (n - k) (cp - k) (fun j => F (k + j)) := by
  refine ⟨fun hn => ?_, (fun e => by cases e), by have := h.room; omega⟩
  obtain ⟨b', off', e, hc⟩ := h.rd (by omega)
  cases e
  exact ⟨b, off + k, rfl, fun j hj => by rw [Nat.add_assoc]; exact hc (k + j) (by omega)⟩
set_option maxHeartbeats 2000000 in
set_option maxRecDepth 100000 in
theorem takeNumber_any (w : World) (ao : Option Addr) (n cp k : Nat) (F : Nat → UInt8) (h : Bec w ao n cp F) (hk : k ≤ n) (hk1 : 1 ≤ k) (hk4 : k ≤ 4) :
    Calls Try.prog 62 #[.slice ao n cp, .int .i64 (k : Int)] w fun e w' => ∃ bo, e = .returned (.tuple #[.int .i64 ((nm F 0 k : Nat) : Int), .slice bo (n - k) (cp - k)]) ∧ (∀ u, Bec u ao n cp F → Bec u bo (n - k) (cp - k) (fun j => F (k + j))) ∧ Below w.heap.size w w' := by
  obtain ⟨b, off, rfl, hr⟩ := h.rd (by omega)
  have HR : Hid (∀ j, j < n → w.cell? ⟨b, off + j, none⟩ = some (.int .u8 (((F j).toNat : Nat) : Int))) := hr
  have HB : Hid (∀ j, j ≤ k → nm F 0 j < 4294967296) := fun j hj => Nat.lt_of_lt_of_le (nm_lt F 0 j) (by
    rcases (show j = 0 ∨ j = 1 ∨ j = 2 ∨ j = 3 ∨ j = 4 by omega) with rfl | rfl | rfl | rfl | rfl <;> decide)
  have HS : Hid (∀ j, nm F 0 (j + 1) = nm F 0 j * 256 + (F j).toNat) := fun j => by show _ = _; rw [nm, Nat.zero_add]
  have HL : Hid (∀ j, (F j).toNat < 256) := fun j => (F j).toNat_lt
  have HX : Hid (Bec w (some ⟨b, off, none⟩) n cp F) := h
  have hroom := h.room
  clear hr h
  have k0 : (0 : Int) ≤ (k : Int) := by omega
  have k1 : (k : Int) ≤ (cp : Int) := by omega
  have k2 : (k : Int) ≤ (n : Int) := by omega
  by_cases hcap : cp = k
  · obtain rfl : n = k := by omega
    subst hcap
    go_enter Try.func62, Try.ntmps62
    go_wp2
    go_loop [6, 13] (fun y x => ∃ i : Nat, i ≤ cp ∧ x = .int .i64 (i : Int) ∧ ∃ z : Nat, y = .int .i64 (z : Int) ∧ Hid (z = nm F 0 i)) (fun _ x => cp - (intOf x).toNat)
    case atStart => exact ⟨0, Nat.zero_le _, rfl, 0, rfl, rfl⟩
    case round =>
      obtain ⟨i, hi, rfl, z, rfl, hz⟩ := hrel
      by_cases hlt : i < cp
      · have ck := HR.out i (by omega)
        have hb := HB.out i (by omega)
        have hs := HS.out i
        have hl := HL.out i
        rw [← hz.out] at hb hs
        obtain ⟨u, hu⟩ : ∃ u : Nat, (F i).toNat = u := ⟨_, rfl⟩
        rw [hu] at ck hs hl
        have HN : Hid (nm F 0 (i + 1) = z * 256 + u) := hs
        have hor : bits .or .i64 ((z : Int) * 256) (u : Int) = ((z * 256 + u : Nat) : Int) := by
          rw [show (z : Int) * 256 = ((z * 256 : Nat) : Int) by omega, i64_or_nat _ _ (by omega) (by omega), or_mul _ _ hl]
        have i1 : (0 : Int) ≤ (i : Int) := by omega
        have i2 : (i : Int) < (cp : Int) := by omega
        clear hs hu hz
        go_wp2
        go_round
        case rel => exact ⟨i + 1, by omega, by go_num, z * 256 + u, by go_num, HN.out.symm⟩
        case measure => simp [intOf]; omega
      · obtain rfl : i = cp := by omega
        go_wp2_with fail
        go_quiet (fail)
        go_wp2
        go_ret2
        refine ⟨some ⟨b, off, none⟩, ?_, ?_, below_drewN _ _ _⟩
        · rw [hz.out, Nat.sub_self]; rfl
        · intro u _; rw [Nat.sub_self]; exact ⟨fun h => absurd h (Nat.lt_irrefl 0), (fun e => by cases e), Nat.le_refl _⟩
  · have hcap2 : ¬ (k : Int) = (cp : Int) := by omega
    go_enter Try.func62, Try.ntmps62
    go_wp2
    go_loop [6, 13] (fun y x => ∃ i : Nat, i ≤ k ∧ x = .int .i64 (i : Int) ∧ ∃ z : Nat, y = .int .i64 (z : Int) ∧ Hid (z = nm F 0 i)) (fun _ x => k - (intOf x).toNat)
    case atStart => exact ⟨0, Nat.zero_le _, rfl, 0, rfl, rfl⟩
    case round =>
      obtain ⟨i, hi, rfl, z, rfl, hz⟩ := hrel
      by_cases hlt : i < k
      · have ck := HR.out i (by omega)
        have hb := HB.out i (by omega)
        have hs := HS.out i
        have hl := HL.out i
        rw [← hz.out] at hb hs
        obtain ⟨u, hu⟩ : ∃ u : Nat, (F i).toNat = u := ⟨_, rfl⟩
        rw [hu] at ck hs hl
        have HN : Hid (nm F 0 (i + 1) = z * 256 + u) := hs
        have hor : bits .or .i64 ((z : Int) * 256) (u : Int) = ((z * 256 + u : Nat) : Int) := by
          rw [show (z : Int) * 256 = ((z * 256 : Nat) : Int) by omega, i64_or_nat _ _ (by omega) (by omega), or_mul _ _ hl]
        have i1 : (0 : Int) ≤ (i : Int) := by omega
        have i2 : (i : Int) < (k : Int) := by omega
        clear hs hu hz
        go_wp2
        go_round
        case rel => exact ⟨i + 1, by omega, by go_num, z * 256 + u, by go_num, HN.out.symm⟩
        case measure => simp [intOf]; omega
      · obtain rfl : i = k := by omega
        go_wp2_with fail
        go_quiet (fail)
        go_wp2
        go_ret2
        exact ⟨some ⟨b, off + i, none⟩, by rw [hz.out]; rfl, fun u hu => bec_behind hu hk, below_drewN _ _ _⟩
end Go.Proofs.Ytjncnojplkljnaa
