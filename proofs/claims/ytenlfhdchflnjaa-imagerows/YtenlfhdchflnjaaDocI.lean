/- Images behind raw writes, behind one, with a drive wiped, as the document makes them. -/
import Derived.Test.YtenlfhdchflnjaaDocH
import Derived.Test.YtenlfhdchflnjaaImgI
namespace Go.Proofs.Ytenlfhdchflnjaa
open Go.RowKit

theorem After_doc {k r c q : Int} {n : Nat} {F : Nat → List UInt8} {D : Nat → Pt} {ln : Nat} {m x k' r' c' q' : Int} {n' : Nat} {F' : Nat → List UInt8} (h : Aft k r c q n F D ln m x k' r' c' q' n' F') (lo : Option Addr) (cl : Nat) (A : Nat → Option Addr) (C : Nat → Nat) (po : Option Addr) (pc : Nat) (B : Nat → Option Addr) (K : Nat → Nat) {Z : Nat → Prop} (w : World) (hl : Lst w lo n A C F) (hp : Pts w Z po ln D B K) :
    Calls Try.prog 24 #[.agg #[.int .i64 k, .int .i64 r, .int .i64 c, .int .i64 q, .slice lo n cl], .slice po ln pc, .int .i64 m] w fun e w' => ∃ lo' cl' A' C', e = .returned (.tuple #[.agg #[.int .i64 k', .int .i64 r', .int .i64 c', .int .i64 q', .slice lo' n' cl'], .int .i64 x]) ∧ Nl w.heap.size w' lo' n' A' C' F' ∧ Below w.heap.size w w' := by
  obtain ⟨y, N, Q, S, hck, hc⟩ := h
  rcases hc with ⟨rfl, h1, h2, h3, h4, rfl, rfl, rfl, rfl, rfl, rfl, rfl⟩ | ⟨⟨rfl, rfl, rfl, rfl, rfl, rfl⟩, hc⟩
  · obtain ⟨mm, rfl⟩ := Int.eq_ofNat_of_zero_le h3
    rw [Int.toNat_natCast]
    exact AfterD_ok hck h1 h2 mm (by omega) lo cl A C po pc B K w hl hp
  · rcases hc with ⟨h1, rfl⟩ | ⟨rfl, h1, rfl⟩ | ⟨rfl, h1, h2, rfl⟩ | ⟨rfl, h1, h2, h3, rfl⟩
    · exact AfterD_e1 hck h1 m lo cl A C po pc w hl
    · exact AfterD_e2 hck h1 m lo cl A C po pc w hl
    · exact AfterD_e3 hck h1 h2 m lo cl A C po pc B K w hl hp
    · exact AfterD_e4 hck h1 h2 m h3 lo cl A C po pc B K w hl hp
set_option maxHeartbeats 4000000 in
set_option maxRecDepth 100000 in
theorem Put_doc {k r c q : Int} {n : Nat} {F : Nat → List UInt8} {y : Pt} {x k' r' c' q' : Int} {n' : Nat} {F' : Nat → List UInt8} (h : Aft k r c q n F (fun _ => y) 1 1 x k' r' c' q' n' F') (lo : Option Addr) (cl : Nat) (A : Nat → Option Addr) (C : Nat → Nat) (ao : Option Addr) (cp : Nat) (w : World) (hl : Lst w lo n A C F) (hr : RdB w ao y.b) (hn : ao = none → y.b = [] ∧ cp = 0) :
    Calls Try.prog 23 #[.agg #[.int .i64 k, .int .i64 r, .int .i64 c, .int .i64 q, .slice lo n cl], .agg #[.int .i64 y.d, .int .i64 y.r, .int .i64 y.s, .slice ao y.b.length cp]] w fun e w' => ∃ lo' cl' A' C', e = .returned (.tuple #[.agg #[.int .i64 k', .int .i64 r', .int .i64 c', .int .i64 q', .slice lo' n' cl'], .int .i64 x]) ∧ Nl w.heap.size w' lo' n' A' C' F' ∧ Below w.heap.size w w' := by
  obtain ⟨w0, hw0⟩ : ∃ w0, w0 = w.alloc (.cells #[.int .i64 k, .int .i64 r, .int .i64 c, .int .i64 q, .slice lo n cl] 27) := ⟨_, rfl⟩
  obtain ⟨w1, hw1⟩ : ∃ w1, w1 = w0.alloc (.cells #[.int .i64 y.d, .int .i64 y.r, .int .i64 y.s, .slice ao y.b.length cp] 35) := ⟨_, rfl⟩
  obtain ⟨w2, hw2⟩ : ∃ w2, w2 = w1.alloc (.cells #[.int .i64 0, .int .i64 0, .int .i64 0, .int .i64 0, .slice none 0 0] 27) := ⟨_, rfl⟩
  obtain ⟨w3, hw3⟩ : ∃ w3, w3 = w2.alloc (.cells #[.int .i64 y.d, .int .i64 y.r, .int .i64 y.s, .slice ao y.b.length cp] 35) := ⟨_, rfl⟩
  have b0 : Below w.heap.size w w0 := by rw [hw0]; exact below_alloc _ _
  have b1 : Below w0.heap.size w0 w1 := by rw [hw1]; exact below_alloc _ _
  have b2 : Below w1.heap.size w1 w2 := by rw [hw2]; exact below_alloc _ _
  have b3 : Below w2.heap.size w2 w3 := by rw [hw3]; exact below_alloc _ _
  have z0 : w0.heap.size = w.heap.size + 1 := by rw [hw0]; simp
  have z1 : w1.heap.size = w.heap.size + 2 := by rw [hw1]; simp; omega
  have z2 : w2.heap.size = w.heap.size + 3 := by rw [hw2]; simp; omega
  have z3 : w.heap.size + 4 ≤ w3.heap.size := by rw [hw3]; simp; omega
  have B3 : Below w.heap.size w w3 := below_then (below_then b0 b1) (below_then b2 b3)
  obtain ⟨c0, c1, c2, c3⟩ := par_held hw3 (Below.refl _ _)
  have HA := After_doc h lo cl A C (some ⟨w2.heap.size, 0, none⟩) 1 (fun _ => ao) (fun _ => cp) w3 (hl.below B3) (pts_one c0 c1 c2 c3 (hr.below B3) hn)
  have MH : Hid (∀ v, Below w3.heap.size w3 v → (v.cell? ⟨w.heap.size + 2, 0, none⟩ = some (.int .i64 0) ∧ v.cell? ⟨w.heap.size + 2, 1, none⟩ = some (.int .i64 0) ∧ v.cell? ⟨w.heap.size + 2, 2, none⟩ = some (.int .i64 0) ∧ v.cell? ⟨w.heap.size + 2, 3, none⟩ = some (.int .i64 0) ∧ v.cell? ⟨w.heap.size + 2, 4, none⟩ = some (.slice none 0 0)) ∧ ∀ i, v.frozen? ⟨w.heap.size + 2, i, none⟩ = false) := fun v hv => by rw [← z1]; exact ⟨img_held hw2 (below_then b3 hv), blk_free hw2 (below_then b3 hv)⟩
  rw [z2] at HA
  clear h hl hr hn c0 c1 c2 c3
  go_enter Try.func23, Try.ntmps23
  go_wp2_with fail
  rw [← hw0, ← hw1, ← hw2, ← hw3]
  refine HA.mono ?_
  rintro e wa ⟨lo', cl', A', C', rfl, him, ha⟩
  have HI : Hid (Nl w3.heap.size wa lo' n' A' C' F') := him
  have HB : Hid (Below w.heap.size w wa) := below_then B3 ha
  obtain ⟨⟨m0, m1, m2, m3, m4⟩, m5⟩ := MH.out wa ha
  clear hw0 hw1 hw2 hw3 b0 b1 b2 b3 z0 z1 z2 HA him ha B3 MH
  go_wp2_with fail
  refine bodyPost_ret (v := .tuple #[.agg #[.int .i64 k', .int .i64 r', .int .i64 c', .int .i64 q', .slice lo' n' cl'], .int .i64 x]) (by simp [results, Try.results23, go_sem, m0, m1, m2, m3, m4]) rfl ?_
  have hO := only5 wa (w.heap.size + 2) (.int .i64 k') (.int .i64 r') (.int .i64 c') (.int .i64 q') (.slice lo' n' cl')
  exact ⟨lo', cl', A', C', rfl, (HI.out.only hO (fun b h => by omega)).mono (by omega), HB.out.trans (hO.below (fun b h => by omega) HB.out.size)⟩
section
variable {k r c q : Int} {n : Nat} {F : Nat → List UInt8} {N Q S : Nat}
set_option maxHeartbeats 4000000 in
set_option maxRecDepth 100000 in
theorem WipedD_e1 {x : Int} (hck : Ck k r c q n F x N Q S) (hx : ¬ x = 0) (d : Int) (lo : Option Addr) (cl : Nat) (A : Nat → Option Addr) (C : Nat → Nat) (w : World) (hl : Lst w lo n A C F) :
    Calls Try.prog 25 #[.agg #[.int .i64 k, .int .i64 r, .int .i64 c, .int .i64 q, .slice lo n cl], .int .i64 d] w fun e w' => ∃ lo' cl' A' C', e = .returned (.tuple #[.agg #[.int .i64 0, .int .i64 0, .int .i64 0, .int .i64 0, .slice lo' 0 cl'], .int .i64 x]) ∧ Nl w.heap.size w' lo' 0 A' C' (fun _ => []) ∧ Below w.heap.size w w' := by
  obtain ⟨w0, hw0⟩ : ∃ w0, w0 = w.alloc (.cells #[.int .i64 k, .int .i64 r, .int .i64 c, .int .i64 q, .slice lo n cl] 27) := ⟨_, rfl⟩
  obtain ⟨w1, hw1⟩ : ∃ w1, w1 = w0.alloc (.cells #[.int .i64 0, .int .i64 0, .int .i64 0, .int .i64 0, .slice none 0 0] 27) := ⟨_, rfl⟩
  have b0 : Below w.heap.size w w0 := by rw [hw0]; exact below_alloc _ _
  have b1 : Below w0.heap.size w0 w1 := by rw [hw1]; exact below_alloc _ _
  have z0 : w0.heap.size = w.heap.size + 1 := by rw [hw0]; simp
  have z1 : w1.heap.size = w.heap.size + 2 := by rw [hw1]; simp; omega
  have SH : Hid (∀ v, Below w1.heap.size w1 v → v.cell? ⟨w.heap.size, 0, none⟩ = some (.int .i64 k) ∧ v.cell? ⟨w.heap.size, 1, none⟩ = some (.int .i64 r) ∧ v.cell? ⟨w.heap.size, 2, none⟩ = some (.int .i64 c) ∧ v.cell? ⟨w.heap.size, 3, none⟩ = some (.int .i64 q) ∧ v.cell? ⟨w.heap.size, 4, none⟩ = some (.slice lo n cl)) := fun v hv => img_held hw0 (below_then b1 hv)
  have MH : Hid (∀ v, Below w1.heap.size w1 v → (v.cell? ⟨w.heap.size + 1, 0, none⟩ = some (.int .i64 0) ∧ v.cell? ⟨w.heap.size + 1, 1, none⟩ = some (.int .i64 0) ∧ v.cell? ⟨w.heap.size + 1, 2, none⟩ = some (.int .i64 0) ∧ v.cell? ⟨w.heap.size + 1, 3, none⟩ = some (.int .i64 0) ∧ v.cell? ⟨w.heap.size + 1, 4, none⟩ = some (.slice none 0 0)) ∧ ∀ i, v.frozen? ⟨w.heap.size + 1, i, none⟩ = false) := fun v hv => by rw [← z0]; exact ⟨img_held hw1 hv, blk_free hw1 hv⟩
  have HB1 : Hid (Below w.heap.size w w1) := below_then b0 b1
  have HC := Check_doc hck lo cl A C w1 (hl.below HB1.out)
  have HL : Hid (Lst w lo n A C F) := hl
  have hx2 : (x != 0) = true := by simp; exact hx
  clear hck hl hx
  go_enter Try.func25, Try.ntmps25
  go_wp2_with fail
  rw [← hw0, ← hw1]
  clear hw0 hw1 b0 b1 z0
  refine HC.mono ?_
  rintro e wa ⟨rfl, ha⟩
  have HA : Hid (Below w1.heap.size w1 wa) := ha
  clear ha HC
  obtain ⟨⟨m0, m1, m2, m3, m4⟩, m5⟩ := MH.out wa HA.out
  go_wp2_with fail
  refine bodyPost_ret (v := .tuple #[.agg #[.int .i64 0, .int .i64 0, .int .i64 0, .int .i64 0, .slice none 0 0], .int .i64 x]) (by simp [results, Try.results25, go_sem, m0, m1, m2, m3, m4]) rfl ?_
  have HB := below_then HB1.out HA.out
  have HB5 := ((((HB.setCell (p := ⟨w.heap.size + 1, 0, none⟩) (Nat.le_succ _) (.int .i64 0)).setCell (p := ⟨w.heap.size + 1, 1, none⟩) (Nat.le_succ _) (.int .i64 0)).setCell (p := ⟨w.heap.size + 1, 2, none⟩) (Nat.le_succ _) (.int .i64 0)).setCell (p := ⟨w.heap.size + 1, 3, none⟩) (Nat.le_succ _) (.int .i64 0)).setCell (p := ⟨w.heap.size + 1, 4, none⟩) (Nat.le_succ _) (.slice none 0 0)
  first
    | exact ⟨none, 0, fun _ => none, fun _ => 0, rfl, nl_none _ _ _ _ _ _, HB5⟩
    | exact ⟨none, ⟨0, rfl⟩, ⟨fun _ => none, fun _ => 0, nl_none _ _ _ _ _ _⟩, HB5⟩
set_option maxHeartbeats 4000000 in
set_option maxRecDepth 100000 in
theorem WipedD_e2 (hck : Ck k r c q n F 0 N Q S) (d : Int) (hd : ¬ (0 ≤ d ∧ d < (N : Int))) (lo : Option Addr) (cl : Nat) (A : Nat → Option Addr) (C : Nat → Nat) (w : World) (hl : Lst w lo n A C F) :
    Calls Try.prog 25 #[.agg #[.int .i64 k, .int .i64 r, .int .i64 c, .int .i64 q, .slice lo n cl], .int .i64 d] w fun e w' => ∃ lo' cl' A' C', e = .returned (.tuple #[.agg #[.int .i64 0, .int .i64 0, .int .i64 0, .int .i64 0, .slice lo' 0 cl'], .int .i64 2]) ∧ Nl w.heap.size w' lo' 0 A' C' (fun _ => []) ∧ Below w.heap.size w w' := by
  obtain ⟨w0, hw0⟩ : ∃ w0, w0 = w.alloc (.cells #[.int .i64 k, .int .i64 r, .int .i64 c, .int .i64 q, .slice lo n cl] 27) := ⟨_, rfl⟩
  obtain ⟨w1, hw1⟩ : ∃ w1, w1 = w0.alloc (.cells #[.int .i64 0, .int .i64 0, .int .i64 0, .int .i64 0, .slice none 0 0] 27) := ⟨_, rfl⟩
  have b0 : Below w.heap.size w w0 := by rw [hw0]; exact below_alloc _ _
  have b1 : Below w0.heap.size w0 w1 := by rw [hw1]; exact below_alloc _ _
  have z0 : w0.heap.size = w.heap.size + 1 := by rw [hw0]; simp
  have z1 : w1.heap.size = w.heap.size + 2 := by rw [hw1]; simp; omega
  have SH : Hid (∀ v, Below w1.heap.size w1 v → v.cell? ⟨w.heap.size, 0, none⟩ = some (.int .i64 k) ∧ v.cell? ⟨w.heap.size, 1, none⟩ = some (.int .i64 r) ∧ v.cell? ⟨w.heap.size, 2, none⟩ = some (.int .i64 c) ∧ v.cell? ⟨w.heap.size, 3, none⟩ = some (.int .i64 q) ∧ v.cell? ⟨w.heap.size, 4, none⟩ = some (.slice lo n cl)) := fun v hv => img_held hw0 (below_then b1 hv)
  have MH : Hid (∀ v, Below w1.heap.size w1 v → (v.cell? ⟨w.heap.size + 1, 0, none⟩ = some (.int .i64 0) ∧ v.cell? ⟨w.heap.size + 1, 1, none⟩ = some (.int .i64 0) ∧ v.cell? ⟨w.heap.size + 1, 2, none⟩ = some (.int .i64 0) ∧ v.cell? ⟨w.heap.size + 1, 3, none⟩ = some (.int .i64 0) ∧ v.cell? ⟨w.heap.size + 1, 4, none⟩ = some (.slice none 0 0)) ∧ ∀ i, v.frozen? ⟨w.heap.size + 1, i, none⟩ = false) := fun v hv => by rw [← z0]; exact ⟨img_held hw1 hv, blk_free hw1 hv⟩
  have HB1 : Hid (Below w.heap.size w w1) := below_then b0 b1
  have HC := Check_doc hck lo cl A C w1 (hl.below HB1.out)
  have HL : Hid (Lst w lo n A C F) := hl
  have hpm := (hck.ok rfl).1
  have hbn := hpm.bounds
  have HN : Hid (∀ v, Calls Try.prog 55 #[.agg #[.int .i64 k, .int .i64 r, .int .i64 c, .int .i64 q]] v fun e w' => e = .returned (.int .i64 (N : Int)) ∧ Below v.heap.size v w') := fun v => N_any c _ hpm.2.1 hbn.2.1 v
  have hN := hbn.2.1
  clear hck hl hpm hbn
  by_cases hd0 : d < 0
  · have HD : Hid (¬ (0 ≤ d ∧ d < (N : Int))) := hd
    clear hd
    go_enter Try.func25, Try.ntmps25
    go_wp2_with fail
    rw [← hw0, ← hw1]
    clear hw0 hw1 b0 b1 z0
    refine HC.mono ?_
    rintro e wa ⟨rfl, ha⟩
    have HA : Hid (Below w1.heap.size w1 wa) := ha
    clear ha HC
    obtain ⟨⟨m0, m1, m2, m3, m4⟩, m5⟩ := MH.out wa HA.out
    go_wp2_with fail
    refine bodyPost_ret (v := .tuple #[.agg #[.int .i64 0, .int .i64 0, .int .i64 0, .int .i64 0, .slice none 0 0], .int .i64 2]) (by simp [results, Try.results25, go_sem, m0, m1, m2, m3, m4]) rfl ?_
    have HB := below_then HB1.out HA.out
    have HB5 := ((((HB.setCell (p := ⟨w.heap.size + 1, 0, none⟩) (Nat.le_succ _) (.int .i64 0)).setCell (p := ⟨w.heap.size + 1, 1, none⟩) (Nat.le_succ _) (.int .i64 0)).setCell (p := ⟨w.heap.size + 1, 2, none⟩) (Nat.le_succ _) (.int .i64 0)).setCell (p := ⟨w.heap.size + 1, 3, none⟩) (Nat.le_succ _) (.int .i64 0)).setCell (p := ⟨w.heap.size + 1, 4, none⟩) (Nat.le_succ _) (.slice none 0 0)
    first
      | exact ⟨none, 0, fun _ => none, fun _ => 0, rfl, nl_none _ _ _ _ _ _, HB5⟩
      | exact ⟨none, ⟨0, rfl⟩, ⟨fun _ => none, fun _ => 0, nl_none _ _ _ _ _ _⟩, HB5⟩
  · have hd1 : (N : Int) ≤ d := by omega
    clear hd
    go_enter Try.func25, Try.ntmps25
    go_wp2_with fail
    rw [← hw0, ← hw1]
    clear hw0 hw1 b0 b1 z0
    refine HC.mono ?_
    rintro e wa ⟨rfl, ha⟩
    have HA : Hid (Below w1.heap.size w1 wa) := ha
    clear ha HC
    obtain ⟨a0, a1, a2, a3, a4⟩ := SH.out wa HA.out
    have tok1 : True := trivial
    go_wp2_with (go_at_call 55; have _t := tok1; clear _t tok1; refine (HN.out _).mono ?_; rintro e wb ⟨rfl, hb⟩; have HBB : Hid (Below w1.heap.size w1 wb) := below_then HA.out hb; obtain ⟨⟨m0, m1, m2, m3, m4⟩, m5⟩ := MH.out wb HBB.out; clear hb)
    refine bodyPost_ret (v := .tuple #[.agg #[.int .i64 0, .int .i64 0, .int .i64 0, .int .i64 0, .slice none 0 0], .int .i64 2]) (by simp [results, Try.results25, go_sem, m0, m1, m2, m3, m4]) rfl ?_
    have HB := below_then HB1.out HBB.out
    have HB5 := ((((HB.setCell (p := ⟨w.heap.size + 1, 0, none⟩) (Nat.le_succ _) (.int .i64 0)).setCell (p := ⟨w.heap.size + 1, 1, none⟩) (Nat.le_succ _) (.int .i64 0)).setCell (p := ⟨w.heap.size + 1, 2, none⟩) (Nat.le_succ _) (.int .i64 0)).setCell (p := ⟨w.heap.size + 1, 3, none⟩) (Nat.le_succ _) (.int .i64 0)).setCell (p := ⟨w.heap.size + 1, 4, none⟩) (Nat.le_succ _) (.slice none 0 0)
    first
      | exact ⟨none, 0, fun _ => none, fun _ => 0, rfl, nl_none _ _ _ _ _ _, HB5⟩
      | exact ⟨none, ⟨0, rfl⟩, ⟨fun _ => none, fun _ => 0, nl_none _ _ _ _ _ _⟩, HB5⟩
theorem clr_step (a i : Nat) (F : Nat → List UInt8) (j : Nat) : upd (a + i) [] (clrF a i F) j = clrF a (i + 1) F j := by
  unfold upd clrF
  by_cases e : j = a + i
  · rw [if_pos e, if_pos (by omega)]
  · rw [if_neg e]
    by_cases g : a ≤ j ∧ j < a + i
    · rw [if_pos g, if_pos (by omega)]
    · rw [if_neg g, if_neg (by omega)]
set_option maxHeartbeats 4000000 in
set_option maxRecDepth 100000 in
theorem WipedD_ok (hck : Ck k r c q n F 0 N Q S) (d : Nat) (hd : d < N) (lo : Option Addr) (cl : Nat) (A : Nat → Option Addr) (C : Nat → Nat) (w : World) (hl : Lst w lo n A C F) :
    Calls Try.prog 25 #[.agg #[.int .i64 k, .int .i64 r, .int .i64 c, .int .i64 q, .slice lo n cl], .int .i64 (d : Int)] w fun e w' => ∃ lo' cl' A' C', e = .returned (.tuple #[.agg #[.int .i64 k, .int .i64 r, .int .i64 c, .int .i64 q, .slice lo' n cl'], .int .i64 0]) ∧ Nl w.heap.size w' lo' n A' C' (wpF Q d F) ∧ Below w.heap.size w w' := by
  obtain ⟨w0, hw0⟩ : ∃ w0, w0 = w.alloc (.cells #[.int .i64 k, .int .i64 r, .int .i64 c, .int .i64 q, .slice lo n cl] 27) := ⟨_, rfl⟩
  obtain ⟨w1, hw1⟩ : ∃ w1, w1 = w0.alloc (.cells #[.int .i64 0, .int .i64 0, .int .i64 0, .int .i64 0, .slice none 0 0] 27) := ⟨_, rfl⟩
  have b0 : Below w.heap.size w w0 := by rw [hw0]; exact below_alloc _ _
  have b1 : Below w0.heap.size w0 w1 := by rw [hw1]; exact below_alloc _ _
  have z0 : w0.heap.size = w.heap.size + 1 := by rw [hw0]; simp
  have z1 : w1.heap.size = w.heap.size + 2 := by rw [hw1]; simp; omega
  have SH : Hid (∀ v, Below w1.heap.size w1 v → v.cell? ⟨w.heap.size, 0, none⟩ = some (.int .i64 k) ∧ v.cell? ⟨w.heap.size, 1, none⟩ = some (.int .i64 r) ∧ v.cell? ⟨w.heap.size, 2, none⟩ = some (.int .i64 c) ∧ v.cell? ⟨w.heap.size, 3, none⟩ = some (.int .i64 q) ∧ v.cell? ⟨w.heap.size, 4, none⟩ = some (.slice lo n cl)) := fun v hv => img_held hw0 (below_then b1 hv)
  have MH : Hid (∀ v, Below w1.heap.size w1 v → (v.cell? ⟨w.heap.size + 1, 0, none⟩ = some (.int .i64 0) ∧ v.cell? ⟨w.heap.size + 1, 1, none⟩ = some (.int .i64 0) ∧ v.cell? ⟨w.heap.size + 1, 2, none⟩ = some (.int .i64 0) ∧ v.cell? ⟨w.heap.size + 1, 3, none⟩ = some (.int .i64 0) ∧ v.cell? ⟨w.heap.size + 1, 4, none⟩ = some (.slice none 0 0)) ∧ ∀ i, v.frozen? ⟨w.heap.size + 1, i, none⟩ = false) := fun v hv => by rw [← z0]; exact ⟨img_held hw1 hv, blk_free hw1 hv⟩
  have HB1 : Hid (Below w.heap.size w w1) := below_then b0 b1
  have HC := Check_doc hck lo cl A C w1 (hl.below HB1.out)
  have HL : Hid (Lst w lo n A C F) := hl
  obtain ⟨hpm, hne, hfit⟩ := hck.ok rfl
  have hbn := hpm.bounds
  obtain rfl : q = (Q : Int) := hpm.2.2.1.symm
  have HN : Hid (∀ v, Calls Try.prog 55 #[.agg #[.int .i64 k, .int .i64 r, .int .i64 c, .int .i64 (Q : Int)]] v fun e w' => e = .returned (.int .i64 (N : Int)) ∧ Below v.heap.size v w') := fun v => N_any c _ hpm.2.1 hbn.2.1 v
  have HFT : Hid (∀ i, i < n → (F i).length ≤ 140) := fun i hi => by rcases hfit i hi with h | h <;> omega
  have hn1 : n ≤ 8192 := by omega
  have hn2 : 0 < n := by omega
  have hN := hbn.2.1
  have hQ := hbn.2.2.2.1
  have hQ0 : 0 < Q := by omega
  obtain ⟨p, hp⟩ : ∃ p, p = d * Q := ⟨_, rfl⟩
  have hpb : p ≤ 4096 := by
    have : d * Q ≤ 16 * 256 := Nat.mul_le_mul (by omega) hQ
    omega
  have hpn : p * 2 + 2 * Q ≤ n := by
    have h1 : (d + 1) * Q ≤ N * Q := Nat.mul_le_mul_right Q hd
    rw [Nat.add_mul, Nat.one_mul, ← hp] at h1
    omega
  have hv : Value.int .i64 (wrap64 ((d : Int) * (Q : Int))) = .int .i64 (p : Int) := by
    rw [show ((d : Int) * (Q : Int)) = (p : Int) by rw [hp]; simp, w64 _ (by omega)]
  have HWP : Hid (∀ j, clrF (p * 2) (2 * Q) F j = wpF Q d F j) := fun j => by rw [hp, Nat.mul_comm 2 Q]; exact clr_wp hQ0 d F j
  have hd1 : (0 : Int) ≤ (d : Int) := by omega
  have hd2 : (d : Int) < (N : Int) := by omega
  clear hck hl hpm hne hfit hbn hp
  go_enter Try.func25, Try.ntmps25
  go_wp2_with fail
  rw [← hw0, ← hw1]
  clear hw0 hw1 b0 b1 z0
  refine HC.mono ?_
  rintro e wa ⟨rfl, ha⟩
  have HA : Hid (Below w1.heap.size w1 wa) := ha
  clear ha HC
  obtain ⟨a0, a1, a2, a3, a4⟩ := SH.out wa HA.out
  have tok1 : True := trivial
  go_wp2_with (go_at_call 55; have _t := tok1; clear _t tok1; refine (HN.out _).mono ?_; rintro e wb ⟨rfl, hb⟩; have HBB : Hid (Below w1.heap.size w1 wb) := below_then HA.out hb; obtain ⟨e0, e1, e2, e3, e4⟩ := SH.out wb HBB.out; clear hb)
  refine (Twin_any k r c (Q : Int) wb lo n cl A C F (HL.out.below (below_then HB1.out HBB.out)) (by omega) (fun i hi => by have := HFT.out i hi; omega)).mono ?_
  rintro e wt ⟨lo2, cl2, A1, C1, rfl, how, hsl, hwt⟩
  obtain ⟨l, rfl, hrs⟩ := own_rsl how hsl hn2
  have HRS : Hid (RSl wt (fun b => wb.heap.size + 3 ≤ b) l n A1 C1 F) := hrs
  have hlt : l < wt.heap.size := World.block_lt_of_cell? wt _ (hrs.cell 0 hn2)
  have hlV : wb.heap.size + 3 ≤ l := hrs.own
  have HT : Hid (Below wb.heap.size wb wt) := hwt
  clear how hsl hrs hwt
  obtain ⟨wd, hwd⟩ : ∃ wd, wd = wt.alloc (.cells #[.int .i64 k, .int .i64 r, .int .i64 c, .int .i64 (Q : Int), .slice (some ⟨l, 0, none⟩) n cl2] 27) := ⟨_, rfl⟩
  have HTD : Hid (Below wt.heap.size wt wd) := by rw [hwd]; exact below_alloc _ _
  have HVD : Hid (Blk wd wt.heap.size 27 [.int .i64 k, .int .i64 r, .int .i64 c, .int .i64 (Q : Int), .slice (some ⟨l, 0, none⟩) n cl2]) := by rw [hwd]; exact blk_new wt 27 _
  have hzd : wd.heap.size = wt.heap.size + 1 := by rw [hwd]; simp
  have hzw := HBB.out.size
  have hzm := HT.out.size
  have HMD : Hid (Below w1.heap.size w1 wd) := below_then HBB.out (below_then HT.out HTD.out)
  have HWD : Hid (Below w.heap.size w wd) := below_then HB1.out HMD.out
  have HRD0 : Hid (RSl wd (fun b => wb.heap.size + 3 ≤ b) l n A1 C1 F) := HRS.out.only (X := fun _ => False) (.of_below HTD.out) (fun _ _ h => h)
  have SV : Hid (∀ v, Only (fun b => b = l) wd v → Blk v wt.heap.size 27 [.int .i64 k, .int .i64 r, .int .i64 c, .int .i64 (Q : Int), .slice (some ⟨l, 0, none⟩) n cl2]) := fun v hv => HVD.out.only hv (by omega)
  have SS : Hid (∀ v, Only (fun b => b = l) wd v → v.cell? ⟨w.heap.size, 0, none⟩ = some (.int .i64 k) ∧ v.cell? ⟨w.heap.size, 1, none⟩ = some (.int .i64 r) ∧ v.cell? ⟨w.heap.size, 2, none⟩ = some (.int .i64 c) ∧ v.cell? ⟨w.heap.size, 3, none⟩ = some (.int .i64 (Q : Int)) ∧ v.cell? ⟨w.heap.size, 4, none⟩ = some (.slice lo n cl)) := fun v hv => by
    obtain ⟨a0, a1, a2, a3, a4⟩ := SH.out wd HMD.out
    have hne : ¬ (w.heap.size = l) := by omega
    exact ⟨hv.cell a0 hne, hv.cell a1 hne, hv.cell a2 hne, hv.cell a3 hne, hv.cell a4 hne⟩
  have SM : Hid (∀ v, Only (fun b => b = l) wd v → (v.cell? ⟨w.heap.size + 1, 0, none⟩ = some (.int .i64 0) ∧ v.cell? ⟨w.heap.size + 1, 1, none⟩ = some (.int .i64 0) ∧ v.cell? ⟨w.heap.size + 1, 2, none⟩ = some (.int .i64 0) ∧ v.cell? ⟨w.heap.size + 1, 3, none⟩ = some (.int .i64 0) ∧ v.cell? ⟨w.heap.size + 1, 4, none⟩ = some (.slice none 0 0)) ∧ ∀ i, v.frozen? ⟨w.heap.size + 1, i, none⟩ = false) := fun v hv => by
    obtain ⟨⟨a0, a1, a2, a3, a4⟩, a5⟩ := MH.out wd HMD.out
    have hne : ¬ (w.heap.size + 1 = l) := by omega
    exact ⟨⟨hv.cell a0 hne, hv.cell a1 hne, hv.cell a2 hne, hv.cell a3 hne, hv.cell a4 hne⟩, fun i => (World.frozen?_of_block (hv.block (w.heap.size + 1) (by omega) hne)).trans (a5 i)⟩
  clear a0 a1 a2 a3 a4 e0 e1 e2 e3 e4
  go_wp2_with fail
  rw [← hwd]
  clear hwd
  go_loopw [8] (fun x wr => ∃ j : Nat, j ≤ 2 * Q ∧ x = .int .i64 j ∧ Hid (∃ A' C', RSl wr (fun b => wb.heap.size + 3 ≤ b) l n A' C' (clrF (p * 2) j F)) ∧ Hid (Only (fun b => b = l) wd wr)) (fun x _ => 2 * Q - (intOf x).toNat)
  case atStart => exact ⟨0, Nat.zero_le _, rfl, ⟨_, _, HRD0.out.congr fun j _ => by unfold clrF; rw [if_neg (by omega)]⟩, Only.refl _ _⟩
  case round =>
    obtain ⟨j, hj, rfl, hs, ho⟩ := hrel
    have hbw : Below w.heap.size w wr := HWD.out.trans (ho.out.below (fun i h => by omega) (by omega))
    obtain ⟨s0, s1, s2, s3, s4⟩ := SS.out wr ho.out
    by_cases hlj : j < 2 * Q
    · have o4 : wr.cell? ⟨wt.heap.size, 4, none⟩ = some (.slice (some ⟨l, 0, none⟩) n cl2) := (SV.out wr ho.out).cell rfl
      obtain ⟨A2, C2, hs1⟩ := hs.out
      obtain ⟨t, ht⟩ : ∃ t, t = p * 2 + j := ⟨_, rfl⟩
      have HTT : Hid (t = p * 2 + j) := ht
      have htn : t < n := by omega
      have cc := hs1.cell t htn
      have cf := hs1.free t htn
      have HS1 : Hid (RSl wr (fun b => wb.heap.size + 3 ≤ b) l n A2 C2 (clrF (p * 2) j F)) := hs1
      have hv3 : Value.int .i64 (wrap64 ((p : Int) * 2 + (j : Int))) = .int .i64 (t : Int) := by rw [w64 _ (by omega), show (p : Int) * 2 + (j : Int) = (t : Int) by omega]
      have hv4 : Value.int .i64 ((p : Int) * 2 + (j : Int)) = .int .i64 (t : Int) := by rw [show (p : Int) * 2 + (j : Int) = (t : Int) by omega]
      have i1 : (0 : Int) ≤ (j : Int) := by omega
      have i2 : (j : Int) < 2 * (Q : Int) := by omega
      have j1 : (0 : Int) ≤ (t : Int) := by omega
      have j2 : (t : Int) < (n : Int) := by omega
      clear hs1 ht
      go_wp2_with fail
      go_roundw
      case rel =>
        refine ⟨j + 1, by omega, by go_num, ⟨upd t none A2, upd t 0 C2, ?_⟩, ?_⟩
        · refine (HS1.out.put t none 0 [] (rdb_nil _ _) (fun a e => by cases e) (fun _ => ⟨rfl, rfl⟩)).congr fun i _ => ?_
          rw [HTT.out]
          exact clr_step _ _ _ _
        · exact ho.out.setCell (p := ⟨l, t, none⟩) rfl _
      case measure => simp [intOf]; omega
    · have i2 : 2 * (Q : Int) ≤ (j : Int) := by omega
      obtain ⟨⟨m0, m1, m2, m3, m4⟩, m5⟩ := SM.out wr ho.out
      have hv := SV.out wr ho.out
      have v0 : wr.cell? ⟨wt.heap.size, 0, none⟩ = some (.int .i64 k) := hv.cell rfl
      have v1 : wr.cell? ⟨wt.heap.size, 1, none⟩ = some (.int .i64 r) := hv.cell rfl
      have v2 : wr.cell? ⟨wt.heap.size, 2, none⟩ = some (.int .i64 c) := hv.cell rfl
      have v3 : wr.cell? ⟨wt.heap.size, 3, none⟩ = some (.int .i64 (Q : Int)) := hv.cell rfl
      have v4 : wr.cell? ⟨wt.heap.size, 4, none⟩ = some (.slice (some ⟨l, 0, none⟩) n cl2) := hv.cell rfl
      have HJ : Hid (j = 2 * Q) := by show _ = _; omega
      clear hv
      go_wp2_with fail
      refine bodyPost_ret (v := .tuple #[.agg #[.int .i64 k, .int .i64 r, .int .i64 c, .int .i64 (Q : Int), .slice (some ⟨l, 0, none⟩) n cl2], .int .i64 0]) (by simp [results, Try.results25, go_sem, m0, m1, m2, m3, m4]) rfl ?_
      obtain ⟨A2, C2, hs1⟩ := hs.out
      have hO := only5 wr (w.heap.size + 1) (.int .i64 k) (.int .i64 r) (.int .i64 c) (.int .i64 (Q : Int)) (.slice (some ⟨l, 0, none⟩) n cl2)
      have hs2 := (hs1.only hO (fun b h => by omega)).congr (G := wpF Q d F) fun i _ => by rw [HJ.out]; exact HWP.out i
      have hB := hbw.trans (hO.below (fun b h => by omega) hbw.size)
      first
        | exact ⟨some ⟨l, 0, none⟩, cl2, A2, C2, rfl, hs2.nl (by omega), hB⟩
        | exact ⟨some ⟨l, 0, none⟩, ⟨cl2, rfl⟩, ⟨A2, C2, hs2.nl (by omega)⟩, hB⟩
end
theorem Wiped_doc {k r c q : Int} {n : Nat} {F : Nat → List UInt8} {d x k' r' c' q' : Int} {n' : Nat} {F' : Nat → List UInt8} (h : Wip k r c q n F d x k' r' c' q' n' F') (lo : Option Addr) (cl : Nat) (A : Nat → Option Addr) (C : Nat → Nat) (w : World) (hl : Lst w lo n A C F) :
    Calls Try.prog 25 #[.agg #[.int .i64 k, .int .i64 r, .int .i64 c, .int .i64 q, .slice lo n cl], .int .i64 d] w fun e w' => ∃ lo' cl' A' C', e = .returned (.tuple #[.agg #[.int .i64 k', .int .i64 r', .int .i64 c', .int .i64 q', .slice lo' n' cl'], .int .i64 x]) ∧ Nl w.heap.size w' lo' n' A' C' F' ∧ Below w.heap.size w w' := by
  obtain ⟨y, N, Q, S, hck, hc⟩ := h
  rcases hc with ⟨rfl, h1, h2, rfl, rfl, rfl, rfl, rfl, rfl, rfl⟩ | ⟨⟨rfl, rfl, rfl, rfl, rfl, rfl⟩, hc⟩
  · obtain ⟨dd, rfl⟩ := Int.eq_ofNat_of_zero_le h1
    rw [Int.toNat_natCast]
    exact WipedD_ok hck dd (by omega) lo cl A C w hl
  · rcases hc with ⟨h1, rfl⟩ | ⟨rfl, h1, rfl⟩
    · exact WipedD_e1 hck h1 d lo cl A C w hl
    · exact WipedD_e2 hck d h1 lo cl A C w hl
end Go.Proofs.Ytenlfhdchflnjaa
