/- Whether refs and descriptors are the same, by the document, where they are. -/
import Derived.Test.YtjncnojplkljnaaDsA
namespace Go.Proofs.Ytjncnojplkljnaa
open Go.RowKit

set_option maxHeartbeats 4000000 in
set_option maxRecDepth 100000 in
theorem SameRefs_any (w : World) (ao : Option Addr) (n ca : Nat) (bo : Option Addr) (cb : Nat) (R V : Nat → Int) (ha : RdR w ao n R V) (hb : RdR w bo n R V) (hn : n ≤ 1000) :
    Calls Try.prog 25 #[.slice ao n ca, .slice bo n cb] w fun e w' => e = .returned (.bool true) ∧ Below w.heap.size w w' := by
  have HA : Hid (RdR w ao n R V) := ha
  have HB : Hid (RdR w bo n R V) := hb
  clear ha hb
  go_enter Try.func25, Try.ntmps25
  go_wp2_with fail
  go_loopw [5] (fun x wr => ∃ i : Nat, i ≤ n ∧ x = .int .i64 i ∧ Hid (Below w.heap.size w wr)) (fun x _ => n - (intOf x).toNat)
  case atStart => exact ⟨0, Nat.zero_le _, rfl, Below.refl _ _⟩
  case round =>
    obtain ⟨i, hi, rfl, hbel⟩ := hrel
    by_cases hlt : i < n
    · obtain ⟨b, off, rfl, hc⟩ := (HA.out.below hbel.out) (by omega)
      obtain ⟨q0, q1⟩ := hc i hlt
      obtain ⟨b2, off2, rfl, hc2⟩ := (HB.out.below hbel.out) (by omega)
      obtain ⟨r0, r1⟩ := hc2 i hlt
      have i1 : (0 : Int) ≤ (i : Int) := by omega
      have i2 : (i : Int) < (n : Int) := by omega
      generalize R i = ri at *
      generalize V i = vi at *
      clear hc hc2
      go_wp2_with fail
      go_quiet (fail)
      go_wp2_with fail
      exact ⟨⟨i + 1, by omega, by go_num, below_step hbel.out (below_drewN _ _ _) hbel.out.size⟩, by simp [intOf]; omega⟩
    · go_wp2
      go_ret
      exact ⟨rfl, hbel.out⟩
set_option maxHeartbeats 4000000 in
set_option maxRecDepth 100000 in
theorem Same_go (w : World) (l l' d d' : Int) (hl : (l == l') = true) (hd : (d == d') = true) (ao : Option Addr) (n ca : Nat) (bo : Option Addr) (cb : Nat) (R V : Nat → Int) (ha : RdR w ao n R V) (hb : RdR w bo n R V) (hn : n ≤ 1000) :
    Calls Try.prog 24 #[.agg #[.int .i64 l, .int .i64 d, .slice ao n ca], .agg #[.int .i64 l', .int .i64 d', .slice bo n cb]] w fun e w' => e = .returned (.bool true) ∧ Below w.heap.size w w' := by
  have HC := fun w ha hb => SameRefs_any w ao n ca bo cb R V ha hb hn
  have HA : Hid (RdR w ao n R V) := ha
  have HB : Hid (RdR w bo n R V) := hb
  clear ha hb
  obtain ⟨w0, hw0⟩ : ∃ w0, w0 = w.alloc (.cells #[.int .i64 l, .int .i64 d, .slice ao n ca] 35) := ⟨_, rfl⟩
  obtain ⟨w1, hw1⟩ : ∃ w1, w1 = w0.alloc (.cells #[.int .i64 l', .int .i64 d', .slice bo n cb] 35) := ⟨_, rfl⟩
  have b0 : Below w.heap.size w w0 := by rw [hw0]; exact below_alloc _ _
  have b1 : Below w0.heap.size w0 w1 := by rw [hw1]; exact below_alloc _ _
  have HBB : Hid (Below w.heap.size w w1) := below_then b0 b1
  go_enter Try.func24, Try.ntmps24
  go_wp2_with fail
  rw [← hw0, ← hw1]
  clear hw0 hw1 b0 b1
  refine (HC _ (HA.out.below HBB.out) (HB.out.below HBB.out)).mono ?_
  rintro e wa ⟨rfl, ha⟩
  go_wp2_with fail
  go_ret
  exact ⟨rfl, below_then HBB.out ha⟩
theorem Same_any (w : World) (l d : Int) (ao : Option Addr) (n ca : Nat) (bo : Option Addr) (cb : Nat) (R V : Nat → Int) (ha : RdR w ao n R V) (hb : RdR w bo n R V) (hn : n ≤ 1000) :
    Calls Try.prog 24 #[.agg #[.int .i64 l, .int .i64 d, .slice ao n ca], .agg #[.int .i64 l, .int .i64 d, .slice bo n cb]] w fun e w' => e = .returned (.bool true) ∧ Below w.heap.size w w' := Same_go w l l d d (by simp) (by simp) ao n ca bo cb R V ha hb hn
set_option maxHeartbeats 1000000 in
set_option maxRecDepth 100000 in
theorem sample_any (w : World) : Calls Try.prog 10 #[] w fun e w' => e = .returned (.agg #[.int .i64 4, .int .i64 2, .int .i64 16, .int .i64 32]) ∧ Below w.heap.size w w' := by
  go_enter Try.func10, Try.ntmps10
  go_wp2
  refine bodyPost_ret (v := .agg #[.int .i64 4, .int .i64 2, .int .i64 16, .int .i64 32]) (by simp [results, Try.results10, go_sem]) rfl ⟨rfl, ?_⟩
  exact below_alloc _ _
theorem par_sample : Par 4 2 16 32 6 64 0 := .inl ⟨by decide, by decide, by decide, rfl⟩
end Go.Proofs.Ytjncnojplkljnaa
