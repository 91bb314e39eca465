/- What the document's own sum of multiples comes to, and whether two lists are the same. -/
import Derived.Test.YtgflgmkaaidfnaaKerN
import Derived.Test.YtgflgmkaaidfnaaKerK
import Derived.BigQuiet
namespace Go.Proofs.Ytgflgmkaaidfnaa.Ker
open Go.RowKit

set_option maxHeartbeats 1000000 in
set_option maxRecDepth 100000 in
theorem sameAll_any (w : World) (ao bo : Option Addr) (ll ca cb : Nat) (A B : Nat → Option Addr) (C D L : Nat → Nat) (H : Nat → Nat → Nat) (hll : ll ≤ 1000000) (ha : Lst w ao ll A C L H) (hb : Lst w bo ll B D L H) :
    Calls Try.prog 17 #[.slice ao ll ca, .slice bo ll cb] w fun e w' => e = .returned (.bool true) ∧ Below w.heap.size w w' := by
  have HA : Hid (Lst w ao ll A C L H) := ha
  have HB : Hid (Lst w bo ll B D L H) := hb
  clear ha hb
  have hbq : ((ll : Int) == (ll : Int)) = true := by simp
  go_enter Try.func17, Try.ntmps17
  go_wp2
  go_loopw [5] (fun i wr => ∃ k : Nat, k ≤ ll ∧ i = .int .i64 k ∧ Hid (Below w.heap.size w wr)) (fun i _ => ll - (intOf i).toNat)
  case atStart => exact ⟨0, Nat.zero_le _, rfl, Below.refl _ _⟩
  case round =>
    obtain ⟨k, hk, rfl, hbel⟩ := hrel
    by_cases hlt : k < ll
    · obtain ⟨b, off, rfl, hca⟩ := (HA.out.below hbel.out).at_ (by omega)
      obtain ⟨b', off', rfl, hcb⟩ := (HB.out.below hbel.out).at_ (by omega)
      have c1 := hca k hlt
      have c2 := hcb k hlt
      have v1 : ∀ m, (convert 23 9 (.slice (A k) (L k) (C k))).run Try.prog (wr.drewN m) = .ok (.string (str (L k) (H k))) (wr.drewN m) := fun m => conv_any (w := wr.drewN m) ((HA.out.below hbel.out).rd k hlt) (C k)
      have v2 : ∀ m, (convert 23 9 (.slice (B k) (L k) (D k))).run Try.prog (wr.drewN m) = .ok (.string (str (L k) (H k))) (wr.drewN m) := fun m => conv_any (w := wr.drewN m) ((HB.out.below hbel.out).rd k hlt) (D k)
      clear hca hcb
      have i1 : (0 : Int) ≤ (k : Int) := by omega
      have i2 : (k : Int) < (ll : Int) := by omega
      go_wp2
      go_quiet (fail)
      go_wp2
      go_roundw
      case rel => exact ⟨k + 1, by omega, by go_num, ⟨hbel.out.os, hbel.out.tape, hbel.out.output, hbel.out.size, hbel.out.block⟩⟩
      case measure => simp [intOf]; omega
    · go_wp2
      go_ret
      exact ⟨rfl, hbel.out⟩
end Go.Proofs.Ytgflgmkaaidfnaa.Ker
