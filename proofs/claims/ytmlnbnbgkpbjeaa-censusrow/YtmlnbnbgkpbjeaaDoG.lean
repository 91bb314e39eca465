/- Two lists that are the same, by the document's own word. -/
import Derived.Test.YtmlnbnbgkpbjeaaVecB
import Derived.Test.YtmlnbnbgkpbjeaaSlA
namespace Go.Proofs.Ytmlnbnbgkpbjeaa
open Go.RowKit

set_option maxHeartbeats 1000000 in
set_option maxRecDepth 100000 in
theorem SameInts_any (w : World) (ao bo : Option Addr) (n ca cb : Nat) (A B : Nat → Int) (ha : RdI w ao n A) (hb : RdI w bo n B) (hn : n ≤ 1000) (he : ∀ i, i < n → A i = B i) :
    Calls Try.prog 19 #[.slice ao n ca, .slice bo n cb] w fun e w' => e = .returned (.bool true) ∧ Below w.heap.size w w' := by
  have HA : Hid (RdI w ao n A) := ha
  have HB : Hid (RdI w bo n B) := hb
  have HS : Hid (∀ i, i < n → A i = B i) := he
  clear ha hb he
  have hnn : ((n : Int) != (n : Int)) = false := by simp
  go_enter Try.func19, Try.ntmps19
  go_wp2
  go_loopw [5] (fun x wr => ∃ i : Nat, i ≤ n ∧ x = .int .i64 i ∧ Hid (Below w.heap.size w wr)) (fun x _ => n - (intOf x).toNat)
  case atStart => exact ⟨0, Nat.zero_le _, rfl, Below.refl _ _⟩
  case round =>
    obtain ⟨i, hi, rfl, hbw⟩ := hrel
    by_cases hlt : i < n
    · obtain ⟨b, off, rfl, hc⟩ := (HA.out.below hbw.out) (by omega)
      obtain ⟨b', off', rfl, hc'⟩ := (HB.out.below hbw.out) (by omega)
      have ck := hc i hlt
      have ck' := hc' i hlt
      rw [← HS.out i hlt] at ck'
      clear hc hc'
      have hb : (A i != A i) = false := by simp
      have i1 : (0 : Int) ≤ (i : Int) := by omega
      have i2 : (i : Int) < (n : Int) := by omega
      go_wp2
      go_quiet (fail)
      go_wp2
      go_roundw
      case rel => exact ⟨i + 1, by omega, by go_num, hbw.out.trans (below_drewN _ _ _)⟩
      case measure => simp [intOf]; omega
    · go_wp2
      go_ret
      exact ⟨rfl, hbw.out⟩
end Go.Proofs.Ytmlnbnbgkpbjeaa
