/- ImageWrites, for all that comes in. -/
import Derived.Test.YtenlfhdchflnjaaDocK
namespace Go.Proofs.Ytenlfhdchflnjaa
open Go.RowKit
section
variable {k r c q : Int} {n : Nat} {F : Nat → List UInt8} {D : Nat → Pt} {ln : Nat}
set_option maxHeartbeats 2000000 in
set_option maxRecDepth 100000 in
theorem Writes_much (nn dr : Int) (hn : 2000 < n) (lo : Option Addr) (cl : Nat) (po : Option Addr) (pc : Nat) (w : World) :
    Calls Try.prog 4 #[.agg #[.int .i64 k, .int .i64 r, .int .i64 c, .int .i64 q, .slice lo n cl], .slice po ln pc, .int .i64 nn, .int .i64 dr] w fun e w' => e = .returned (.bool true) ∧ Below w.heap.size w w' := by
  obtain ⟨w0, hw0⟩ : ∃ w0, w0 = w.alloc (.cells #[.int .i64 k, .int .i64 r, .int .i64 c, .int .i64 q, .slice lo n cl] 27) := ⟨_, rfl⟩
  have HB0 : Hid (Below w.heap.size w w0) := by rw [hw0]; exact below_alloc _ _
  have CH : Hid (∀ v, Below w0.heap.size w0 v → v.cell? ⟨w.heap.size, 0, none⟩ = some (.int .i64 k) ∧ v.cell? ⟨w.heap.size, 1, none⟩ = some (.int .i64 r) ∧ v.cell? ⟨w.heap.size, 2, none⟩ = some (.int .i64 c) ∧ v.cell? ⟨w.heap.size, 3, none⟩ = some (.int .i64 q) ∧ v.cell? ⟨w.heap.size, 4, none⟩ = some (.slice lo n cl)) := fun v hv => img_held hw0 hv
  have HMU : Hid (∀ v, Calls Try.prog 18 #[.agg #[.int .i64 k, .int .i64 r, .int .i64 c, .int .i64 q, .slice lo n cl]] v fun e w' => e = .returned (.bool true) ∧ Below v.heap.size v w') := fun v => much_any k r c q lo n cl v true (by simp; omega)
  go_enter Try.func4, Try.ntmps4
  go_wp2_with fail
  rw [← hw0]
  clear hw0
  refine (alive_any w0).mono ?_
  rintro e wa ⟨rfl, ha⟩
  have HA : Hid (Below w0.heap.size w0 wa) := ha
  obtain ⟨c0, c1, c2, c3, c4⟩ := CH.out wa ha
  clear ha
  go_wp2_with (go_at_call 18; refine (HMU.out _).mono ?_; rintro e wb ⟨rfl, hb⟩; have HB : Hid (Below w0.heap.size w0 wb) := below_then HA.out hb; clear hb)
  go_ret
  exact ⟨rfl, below_then HB0.out HB.out⟩
set_option maxHeartbeats 2000000 in
set_option maxRecDepth 100000 in
theorem Writes_heavy (nn dr : Int) (hn : n ≤ 2000) (hhv : Hvy D ln true) (lo : Option Addr) (cl : Nat) (po : Option Addr) (pc : Nat) (B : Nat → Option Addr) (K : Nat → Nat) {Z : Nat → Prop} (w : World) (hp : Pts w Z po ln D B K) :
    Calls Try.prog 4 #[.agg #[.int .i64 k, .int .i64 r, .int .i64 c, .int .i64 q, .slice lo n cl], .slice po ln pc, .int .i64 nn, .int .i64 dr] w fun e w' => e = .returned (.bool true) ∧ Below w.heap.size w w' := by
  have HHE : Hid (∀ v, Below w.heap.size w v → Calls Try.prog 19 #[.slice po ln pc] v fun e w' => e = .returned (.bool true) ∧ w' = v) := fun v hv => heavy_any hhv po pc B K v (hp.below hv)
  clear hhv hp
  obtain ⟨w0, hw0⟩ : ∃ w0, w0 = w.alloc (.cells #[.int .i64 k, .int .i64 r, .int .i64 c, .int .i64 q, .slice lo n cl] 27) := ⟨_, rfl⟩
  have HB0 : Hid (Below w.heap.size w w0) := by rw [hw0]; exact below_alloc _ _
  have CH : Hid (∀ v, Below w0.heap.size w0 v → v.cell? ⟨w.heap.size, 0, none⟩ = some (.int .i64 k) ∧ v.cell? ⟨w.heap.size, 1, none⟩ = some (.int .i64 r) ∧ v.cell? ⟨w.heap.size, 2, none⟩ = some (.int .i64 c) ∧ v.cell? ⟨w.heap.size, 3, none⟩ = some (.int .i64 q) ∧ v.cell? ⟨w.heap.size, 4, none⟩ = some (.slice lo n cl)) := fun v hv => img_held hw0 hv
  have HMU : Hid (∀ v, Calls Try.prog 18 #[.agg #[.int .i64 k, .int .i64 r, .int .i64 c, .int .i64 q, .slice lo n cl]] v fun e w' => e = .returned (.bool false) ∧ Below v.heap.size v w') := fun v => much_any k r c q lo n cl v false (by simp; omega)
  go_enter Try.func4, Try.ntmps4
  go_wp2_with fail
  rw [← hw0]
  clear hw0
  refine (alive_any w0).mono ?_
  rintro e wa ⟨rfl, ha⟩
  have HA : Hid (Below w0.heap.size w0 wa) := ha
  obtain ⟨c0, c1, c2, c3, c4⟩ := CH.out wa ha
  clear ha
  go_wp2_with (first
    | (go_at_call 18; refine (HMU.out _).mono ?_; rintro e wb ⟨rfl, hb⟩; have HB : Hid (Below w0.heap.size w0 wb) := below_then HA.out hb; clear hb)
    | (go_at_call 19; refine (HHE.out wb (below_then HB0.out HB.out)).mono ?_; rintro e w' ⟨rfl, hw'⟩; obtain rfl := hw'.symm))
  go_ret
  exact ⟨rfl, below_then HB0.out HB.out⟩
theorem Writes_any (k r c q nn dr : Int) (lo : Option Addr) (n cl : Nat) (A : Nat → Option Addr) (C : Nat → Nat) (F : Nat → List UInt8) (po : Option Addr) (ln pc : Nat) (D : Nat → Pt) (B : Nat → Option Addr) (K : Nat → Nat) (hF : ∀ i, i < n → (F i).length ≤ 140737488355328) (w : World) (hl : Lst w lo n A C F) (hp : Pts w (fun b => b < w.heap.size) po ln D B K) :
    Calls Try.prog 4 #[.agg #[.int .i64 k, .int .i64 r, .int .i64 c, .int .i64 q, .slice lo n cl], .slice po ln pc, .int .i64 nn, .int .i64 dr] w fun e w' => e = .returned (.bool true) ∧ Below w.heap.size w w' := by
  obtain ⟨h, hh⟩ := hvy_ex D ln
  by_cases hn : 2000 < n
  · exact Writes_much nn dr hn lo cl po pc w
  · cases h with
    | true => exact Writes_heavy nn dr (by omega) hh lo cl po pc B K w hp
    | false =>
      by_cases h0 : 0 < ln
      · exact Writes_go nn dr (by omega) hh lo cl A C po pc B K w hl hp hF h0
      · exact Writes_none nn dr (by omega) hh lo cl A C po pc B K w hl hp hF (by omega)
end
end Go.Proofs.Ytenlfhdchflnjaa
