/- An image behind raw writes, and behind one, by the program. -/
import Derived.Test.YtenlfhdchflnjaaImgG
namespace Go.Proofs.Ytenlfhdchflnjaa
open Go.RowKit

theorem Im.only {B : Nat} {X : Nat → Prop} {w w' : World} {lo : Option Addr} {n : Nat} {A : Nat → Option Addr} {C : Nat → Nat} {F : Nat → List UInt8} (h : Im B w lo n A C F) (ho : Only X w w') (hx : ∀ b, B ≤ b → ¬ X b) : Im B w' lo n A C F := by
  rcases h with h | ⟨l, e, h1, h2⟩
  · exact .inl h
  · have h3 := (show ImR B w l n A C F from ⟨h1, h2⟩).only ho hx
    exact .inr ⟨l, e, h3.1, h3.2⟩
theorem After_any {k r c q : Int} {n : Nat} {F : Nat → List UInt8} {D : Nat → Pt} {ln : Nat} {m x k' r' c' q' : Int} {n' : Nat} {F' : Nat → List UInt8} (h : Aft k r c q n F D ln m x k' r' c' q' n' F') (lo : Option Addr) (cl : Nat) (A : Nat → Option Addr) (C : Nat → Nat) (po : Option Addr) (pc : Nat) (B : Nat → Option Addr) (K : Nat → Nat) {Z : Nat → Prop} (w : World) (hl : Lst w lo n A C F) (hp : Pts w Z po ln D B K) (hpc : ln ≤ pc) :
    Calls Try.prog 13 #[.agg #[.int .i64 k, .int .i64 r, .int .i64 c, .int .i64 q, .slice lo n cl], .slice po ln pc, .int .i64 m] w fun e w' => ∃ lo' A' C', e = .returned (.tuple #[.agg #[.int .i64 k', .int .i64 r', .int .i64 c', .int .i64 q', .slice lo' n' n'], .int .i64 x]) ∧ Im w.heap.size w' lo' n' A' C' F' ∧ Below w.heap.size w w' := by
  obtain ⟨y, N, Q, S, hck, hc⟩ := h
  rcases hc with ⟨rfl, h1, h2, h3, h4, rfl, rfl, rfl, rfl, rfl, rfl, rfl⟩ | ⟨⟨rfl, rfl, rfl, rfl, rfl, rfl⟩, hc⟩
  · obtain ⟨mm, rfl⟩ := Int.eq_ofNat_of_zero_le h3
    rw [Int.toNat_natCast]
    exact After_ok hck h1 h2 mm (by omega) lo cl A C po pc B K w hl hp hpc
  · rcases hc with ⟨h1, rfl⟩ | ⟨rfl, h1, rfl⟩ | ⟨rfl, h1, h2, rfl⟩ | ⟨rfl, h1, h2, h3, rfl⟩
    · exact After_e1 hck h1 m lo cl A C po pc w hl
    · exact After_e2 hck h1 m lo cl A C po pc w hl
    · exact After_e3 hck h1 h2 m lo cl A C po pc B K w hl hp
    · exact After_e4 hck h1 h2 m h3 lo cl A C po pc B K w hl hp
/-- A list of one raw write. -/
theorem pts_one {w : World} {g : Nat} {y : Pt} {ao : Option Addr} {cp : Nat} (h0 : w.cell? ⟨g, 0, none⟩ = some (.int .i64 y.d)) (h1 : w.cell? ⟨g, 1, none⟩ = some (.int .i64 y.r)) (h2 : w.cell? ⟨g, 2, none⟩ = some (.int .i64 y.s)) (h3 : w.cell? ⟨g, 3, none⟩ = some (.slice ao y.b.length cp)) (hr : RdB w ao y.b) (hn : ao = none → y.b = [] ∧ cp = 0) :
    Pts w (fun _ => True) (some ⟨g, 0, none⟩) 1 (fun _ => y) (fun _ => ao) (fun _ => cp) := by
  refine ⟨fun _ => ⟨g, 0, rfl, fun i hi => ?_⟩, fun _ _ => hr, fun _ _ => hn, fun _ _ _ => trivial, fun _ _ _ _ _ => trivial⟩
  obtain rfl : i = 0 := by omega
  exact ⟨h0, h1, h2, h3⟩
set_option maxHeartbeats 1000000 in
set_option maxRecDepth 100000 in
theorem Put_any {k r c q : Int} {n : Nat} {F : Nat → List UInt8} {y : Pt} {x k' r' c' q' : Int} {n' : Nat} {F' : Nat → List UInt8} (h : Aft k r c q n F (fun _ => y) 1 1 x k' r' c' q' n' F') (lo : Option Addr) (cl : Nat) (A : Nat → Option Addr) (C : Nat → Nat) (ao : Option Addr) (cp : Nat) (w : World) (hl : Lst w lo n A C F) (hr : RdB w ao y.b) (hn : ao = none → y.b = [] ∧ cp = 0) :
    Calls Try.prog 22 #[.agg #[.int .i64 k, .int .i64 r, .int .i64 c, .int .i64 q, .slice lo n cl], .agg #[.int .i64 y.d, .int .i64 y.r, .int .i64 y.s, .slice ao y.b.length cp]] w fun e w' => ∃ lo' A' C', e = .returned (.tuple #[.agg #[.int .i64 k', .int .i64 r', .int .i64 c', .int .i64 q', .slice lo' n' n'], .int .i64 x]) ∧ Im w.heap.size w' lo' n' A' C' F' ∧ Below w.heap.size w w' := by
  obtain ⟨w0, hw0⟩ : ∃ w0, w0 = w.alloc (.cells #[.int .i64 k, .int .i64 r, .int .i64 c, .int .i64 q, .slice lo n cl] 27) := ⟨_, rfl⟩
  obtain ⟨w1, hw1⟩ : ∃ w1, w1 = w0.alloc (.cells #[.int .i64 y.d, .int .i64 y.r, .int .i64 y.s, .slice ao y.b.length cp] 35) := ⟨_, rfl⟩
  obtain ⟨w2, hw2⟩ : ∃ w2, w2 = w1.alloc (.cells #[.int .i64 0, .int .i64 0, .int .i64 0, .int .i64 0, .slice none 0 0] 27) := ⟨_, rfl⟩
  obtain ⟨w3, hw3⟩ : ∃ w3, w3 = w2.alloc (.cells #[.int .i64 y.d, .int .i64 y.r, .int .i64 y.s, .slice ao y.b.length cp] 35) := ⟨_, rfl⟩
  have b0 : Below w.heap.size w w0 := by rw [hw0]; exact below_alloc _ _
  have b1 : Below w0.heap.size w0 w1 := by rw [hw1]; exact below_alloc _ _
  have b2 : Below w1.heap.size w1 w2 := by rw [hw2]; exact below_alloc _ _
  have b3 : Below w2.heap.size w2 w3 := by rw [hw3]; exact below_alloc _ _
  have z0 : w0.heap.size = w.heap.size + 1 := by rw [hw0]; simp
  have z1 : w1.heap.size = w.heap.size + 2 := by rw [hw1]; simp; omega
  have z2 : w2.heap.size = w.heap.size + 3 := by rw [hw2]; simp; omega
  have z3 : w.heap.size + 4 ≤ w3.heap.size := by rw [hw3]; simp; omega
  have B3 : Below w.heap.size w w3 := below_then (below_then b0 b1) (below_then b2 b3)
  obtain ⟨c0, c1, c2, c3⟩ := par_held hw3 (Below.refl _ _)
  have HA := After_any h lo cl A C (some ⟨w2.heap.size, 0, none⟩) 1 (fun _ => ao) (fun _ => cp) w3 (hl.below B3) (pts_one c0 c1 c2 c3 (hr.below B3) hn) (by omega)
  have MH : Hid (∀ v, Below w3.heap.size w3 v → (v.cell? ⟨w.heap.size + 2, 0, none⟩ = some (.int .i64 0) ∧ v.cell? ⟨w.heap.size + 2, 1, none⟩ = some (.int .i64 0) ∧ v.cell? ⟨w.heap.size + 2, 2, none⟩ = some (.int .i64 0) ∧ v.cell? ⟨w.heap.size + 2, 3, none⟩ = some (.int .i64 0) ∧ v.cell? ⟨w.heap.size + 2, 4, none⟩ = some (.slice none 0 0)) ∧ ∀ i, v.frozen? ⟨w.heap.size + 2, i, none⟩ = false) := fun v hv => by rw [← z1]; exact ⟨img_held hw2 (below_then b3 hv), blk_free hw2 (below_then b3 hv)⟩
  rw [z2] at HA
  clear h hl hr hn c0 c1 c2 c3
  go_enter Try.func22, Try.ntmps22
  go_wp2_with fail
  rw [← hw0, ← hw1, ← hw2, ← hw3]
  refine HA.mono ?_
  rintro e wa ⟨lo', A', C', rfl, him, ha⟩
  have HI : Hid (Im w3.heap.size wa lo' n' A' C' F') := him
  have HB : Hid (Below w.heap.size w wa) := below_then B3 ha
  obtain ⟨⟨m0, m1, m2, m3, m4⟩, m5⟩ := MH.out wa ha
  clear hw0 hw1 hw2 hw3 b0 b1 b2 b3 z0 z1 z2 HA him ha B3 MH
  go_wp2_with fail
  refine bodyPost_ret (v := .tuple #[.agg #[.int .i64 k', .int .i64 r', .int .i64 c', .int .i64 q', .slice lo' n' n'], .int .i64 x]) (by simp [results, Try.results22, go_sem, m0, m1, m2, m3, m4]) rfl ?_
  have hO := only5 wa (w.heap.size + 2) (.int .i64 k') (.int .i64 r') (.int .i64 c') (.int .i64 q') (.slice lo' n' n')
  exact ⟨lo', A', C', rfl, (HI.out.only hO (fun b h => by omega)).mono (by omega), HB.out.trans (hO.below (fun b h => by omega) HB.out.size)⟩
end Go.Proofs.Ytenlfhdchflnjaa
