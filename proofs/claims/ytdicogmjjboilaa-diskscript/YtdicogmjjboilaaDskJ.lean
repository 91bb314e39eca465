/- A disk made of an image; a blank one. -/
import Derived.Test.YtdicogmjjboilaaDskI
namespace Go.Proofs.Ytdicogmjjboilaa
open Go.RowKit

set_option maxHeartbeats 1000000 in
set_option maxRecDepth 100000 in
theorem Of_bad {k r c q : Int} (lo : Option Addr) (n cl : Nat) (A : Nat → Option Addr) (C : Nat → Nat) (F : Nat → List UInt8) (x : Int) (hx : ErI k r c q n F x) (hne : ¬ x = 0) (w : World) (hl : Lst w lo n A C F) :
    Calls Try.prog 12 #[.agg #[.int .i64 k, .int .i64 r, .int .i64 c, .int .i64 q, .slice lo n cl]] w fun e w' => e = .returned (.tuple #[.pointer none, .int .i64 x]) ∧ Below w.heap.size w w' := by
  obtain ⟨w0, hw0⟩ : ∃ w0, w0 = w.alloc (.cells #[.int .i64 k, .int .i64 r, .int .i64 c, .int .i64 q, .slice lo n cl] 26) := ⟨_, rfl⟩
  have b0 : Below w.heap.size w w0 := by rw [hw0]; exact below_alloc _ _
  have HC := checkImage_any lo n cl A C F x hx w0 (hl.below b0)
  have h1 : (x != 0) = true := by simp; exact hne
  clear hl hx
  go_enter Try.func12, Try.ntmps12
  go_wp2_with fail
  rw [← hw0]
  clear hw0
  refine HC.mono ?_
  rintro e wa ⟨rfl, ha⟩
  go_wp2_with fail
  go_ret2
  exact ⟨rfl, below_then b0 ha⟩
set_option maxHeartbeats 1000000 in
set_option maxRecDepth 100000 in
theorem Of_ok {k r c : Int} {N Q S : Nat} (hp : Pm k r c Q N Q S) (lo : Option Addr) (cl : Nat) (A : Nat → Option Addr) (C : Nat → Nat) (F : Nat → List UInt8) (hf : Fit (N * Q * 2) S F) (w : World) (hl : Lst w lo (N * Q * 2) A C F) :
    Calls Try.prog 12 #[.agg #[.int .i64 k, .int .i64 r, .int .i64 c, .int .i64 (Q : Int), .slice lo (N * Q * 2 : Nat) cl]] w fun e w' => ∃ g, e = .returned (.tuple #[.pointer (some ⟨g, 0, none⟩), .int .i64 0]) ∧ Dk w' (fun b => w.heap.size ≤ b ∧ b < w'.heap.size) g k r c N Q S (newSt F) ∧ Below w.heap.size w w' := by
  have hbd := hp.bounds
  obtain ⟨n, hn⟩ : ∃ n, n = N * Q * 2 := ⟨_, rfl⟩
  have HN : Hid (n = N * Q * 2) := hn
  have HF : Hid (Fit n S F) := by rw [hn]; exact hf
  rw [← hn] at hl ⊢
  obtain ⟨w0, hw0⟩ : ∃ w0, w0 = w.alloc (.cells #[.int .i64 k, .int .i64 r, .int .i64 c, .int .i64 (Q : Int), .slice lo n cl] 26) := ⟨_, rfl⟩
  have b0 : Below w.heap.size w w0 := by rw [hw0]; exact below_alloc _ _
  have z0 : w0.heap.size = w.heap.size + 1 := by rw [hw0]; simp
  have HC := checkImage_fit hp lo n cl A C F hn w0 (hl.below b0) 0 (.inl ⟨HF.out, rfl⟩)
  have HA := fun (v : World) (hv : Below w0.heap.size w0 v) => allCopied_any v.drew lo n cl A C F (by omega) (hl.below (below_then b0 hv).drew) (fun i hi => by have := HF.out i hi; omega)
  have SH : Hid (∀ v, Below w0.heap.size w0 v → v.cell? ⟨w.heap.size, 0, none⟩ = some (.int .i64 k) ∧ v.cell? ⟨w.heap.size, 1, none⟩ = some (.int .i64 r) ∧ v.cell? ⟨w.heap.size, 2, none⟩ = some (.int .i64 c) ∧ v.cell? ⟨w.heap.size, 3, none⟩ = some (.int .i64 (Q : Int)) ∧ v.cell? ⟨w.heap.size, 4, none⟩ = some (.slice lo n cl)) := fun v hv => img_held hw0 hv
  clear hl hf hn hbd
  go_enter Try.func12, Try.ntmps12
  go_wp2_with fail
  rw [← hw0]
  clear hw0
  refine HC.mono ?_
  rintro e wa ⟨rfl, ha⟩
  obtain ⟨q0, q1, q2, q3, q4⟩ := SH.out _ ha
  have HA := HA wa ha
  go_wp2_with fail
  go_region_held3 (fun v => v.cell? ⟨w.heap.size, 0, none⟩ = some (.int .i64 k) ∧ v.cell? ⟨w.heap.size, 1, none⟩ = some (.int .i64 r) ∧ v.cell? ⟨w.heap.size, 2, none⟩ = some (.int .i64 c) ∧ v.cell? ⟨w.heap.size, 3, none⟩ = some (.int .i64 (Q : Int)) ∧ v.cell? ⟨w.heap.size, 4, none⟩ = some (.slice lo n cl)) (go_keep)
    ((go_at_call 43; refine HA.mono ?_; rintro e wb ⟨rfl, ho, hb⟩; obtain ⟨p0, p1, p2, p3, p4⟩ := SH.out _ (below_then ha (of_drew hb)); have y0 := fun o => held p0 (below_alloc wb o); have y1 := fun o => held p1 (below_alloc wb o); have y2 := fun o => held p2 (below_alloc wb o); have y3 := fun o => held p3 (below_alloc wb o); have y4 := fun o => held p4 (below_alloc wb o); have HO : Hid (∃ A' C', Slots wb (fun b => wa.drew.heap.size ≤ b ∧ b < wb.heap.size) wa.drew.heap.size n A' C' F ∧ ∀ i, i < n → OwB wa.drew.heap.size wb (A' i) (C' i) (F i)) := ho; have HB : Hid (Below wa.heap.size wa wb) := of_drew hb; clear ho hb))
  all_goals go_wp2
  all_goals go_ret2
  all_goals
    obtain ⟨A', C', h1, h2⟩ := HO.out
    have e0 : wa.drew.heap.size = wa.heap.size := rfl
    rw [e0] at h1 h2
    have hB := below_then b0 (below_then ha HB.out)
    refine ⟨wb.heap.size, rfl, ⟨wa.heap.size, n, A', C', 0, ?_⟩, hB.alloc hB.size _⟩
    have hz1 := ha.size
    have hz2 := h1.row.lt
    have hN := HN.out
    subst hN
    refine ⟨blk_new wb 71 (dkv k r c Q _ (fun _ => false) false false 0 0), ?_, (fun m hm => by cases hm), Nat.le_refl _, ⟨by omega, by simp⟩, fun b hb => hb.2, HF.out, hp⟩
    refine (h1.only (X := fun _ => False) (.of_below (below_alloc _ _)) (fun _ _ h => h)).mono fun b hb => ⟨⟨by omega, by simp; omega⟩, by omega⟩
end Go.Proofs.Ytdicogmjjboilaa
