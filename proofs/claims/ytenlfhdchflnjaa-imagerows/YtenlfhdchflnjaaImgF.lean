/- What an image is behind raw writes, by the program. -/
import Derived.Test.YtenlfhdchflnjaaImgE
namespace Go.Proofs.Ytenlfhdchflnjaa
open Go.RowKit

/-- An image's slots in memory of their own, from block B on; or none. -/
def Im (B : Nat) (w : World) (lo : Option Addr) (n : Nat) (A : Nat → Option Addr) (C : Nat → Nat) (F : Nat → List UInt8) : Prop :=
  (n = 0 ∧ lo = none) ∨ ∃ l, lo = some ⟨l, 0, none⟩ ∧ RSl w (fun b => B ≤ b) l n A C F ∧ ∀ i, i < n → OwC B w (A i) (C i) (F i)
theorem lst_none (w : World) (lo : Option Addr) (A : Nat → Option Addr) (C : Nat → Nat) (F : Nat → List UInt8) : Lst w lo 0 A C F := ⟨fun h => absurd h (Nat.lt_irrefl 0), fun i hi => absurd hi (Nat.not_lt_zero i), fun i hi => absurd hi (Nat.not_lt_zero i)⟩
theorem Im.lst {B : Nat} {w : World} {lo : Option Addr} {n : Nat} {A : Nat → Option Addr} {C : Nat → Nat} {F : Nat → List UInt8} (h : Im B w lo n A C F) : Lst w lo n A C F := by
  rcases h with ⟨rfl, rfl⟩ | ⟨l, rfl, h, _⟩
  · exact lst_none _ _ _ _ _
  · exact h.lst
theorem Im.below {B : Nat} {w w' : World} {lo : Option Addr} {n : Nat} {A : Nat → Option Addr} {C : Nat → Nat} {F : Nat → List UInt8} (h : Im B w lo n A C F) (hb : Below w.heap.size w w') : Im B w' lo n A C F := by
  rcases h with h | ⟨l, e, h1, h2⟩
  · exact .inl h
  · exact .inr ⟨l, e, h1.only (X := fun _ => False) (.of_below hb) (fun _ _ h => h), fun i hi => (h2 i hi).below hb⟩
theorem Im.mono {B B' : Nat} {w : World} {lo : Option Addr} {n : Nat} {A : Nat → Option Addr} {C : Nat → Nat} {F : Nat → List UInt8} (h : Im B w lo n A C F) (hb : B' ≤ B) : Im B' w lo n A C F := by
  rcases h with h | ⟨l, e, h1, h2⟩
  · exact .inl h
  · exact .inr ⟨l, e, h1.mono (fun b h => Nat.le_trans hb h), fun i hi => (h2 i hi).mono hb⟩
set_option maxHeartbeats 400000 in
theorem Check_img {k r c q : Int} {n : Nat} {F : Nat → List UInt8} {x : Int} {N Q S : Nat} (hck : Ck k r c q n F x N Q S) (lo : Option Addr) (cl : Nat) (A : Nat → Option Addr) (C : Nat → Nat) (w : World) (hl : Lst w lo n A C F) :
    Calls Try.prog 17 #[.agg #[.int .i64 k, .int .i64 r, .int .i64 c, .int .i64 q, .slice lo n cl]] w fun e w' => e = .returned (.int .i64 x) ∧ Below w.heap.size w w' := by
  obtain ⟨w0, hw0⟩ : ∃ w0, w0 = w.alloc (.cells #[.int .i64 k, .int .i64 r, .int .i64 c, .int .i64 q, .slice lo n cl] 27) := ⟨_, rfl⟩
  have b0 : Below w.heap.size w w0 := by rw [hw0]; exact below_alloc _ _
  have HC := checked_any hck lo cl A C w0 (hl.below b0)
  clear hck hl
  go_enter Try.func17, Try.ntmps17
  go_wp2_with fail
  rw [← hw0]
  clear hw0
  refine HC.mono ?_
  rintro e wa ⟨rfl, ha⟩
  clear HC
  go_wp2_with fail
  go_ret
  exact ⟨rfl, below_then b0 (below_then ha (below_alloc _ _))⟩
section
variable {k r c q : Int} {n : Nat} {F : Nat → List UInt8} {D : Nat → Pt} {ln : Nat} {N Q S : Nat} {Z : Nat → Prop}
set_option maxHeartbeats 1000000 in
set_option maxRecDepth 100000 in
theorem After_e1 {x : Int} (hck : Ck k r c q n F x N Q S) (hx : ¬ x = 0) (m : Int) (lo : Option Addr) (cl : Nat) (A : Nat → Option Addr) (C : Nat → Nat) (po : Option Addr) (pc : Nat) (w : World) (hl : Lst w lo n A C F) :
    Calls Try.prog 13 #[.agg #[.int .i64 k, .int .i64 r, .int .i64 c, .int .i64 q, .slice lo n cl], .slice po ln pc, .int .i64 m] w fun e w' => ∃ lo' A' C', e = .returned (.tuple #[.agg #[.int .i64 0, .int .i64 0, .int .i64 0, .int .i64 0, .slice lo' 0 0], .int .i64 x]) ∧ Im w.heap.size w' lo' 0 A' C' (fun _ => []) ∧ Below w.heap.size w w' := by
  obtain ⟨w0, hw0⟩ : ∃ w0, w0 = w.alloc (.cells #[.int .i64 k, .int .i64 r, .int .i64 c, .int .i64 q, .slice lo n cl] 27) := ⟨_, rfl⟩
  obtain ⟨w1, hw1⟩ : ∃ w1, w1 = w0.alloc (.cells #[.int .i64 0, .int .i64 0, .int .i64 0, .int .i64 0, .slice none 0 0] 27) := ⟨_, rfl⟩
  have b0 : Below w.heap.size w w0 := by rw [hw0]; exact below_alloc _ _
  have b1 : Below w0.heap.size w0 w1 := by rw [hw1]; exact below_alloc _ _
  have z0 : w0.heap.size = w.heap.size + 1 := by rw [hw0]; simp
  have z1 : w.heap.size + 2 ≤ w1.heap.size := by rw [hw1]; simp; omega
  have SH : Hid (∀ v, Below w1.heap.size w1 v → v.cell? ⟨w.heap.size, 0, none⟩ = some (.int .i64 k) ∧ v.cell? ⟨w.heap.size, 1, none⟩ = some (.int .i64 r) ∧ v.cell? ⟨w.heap.size, 2, none⟩ = some (.int .i64 c) ∧ v.cell? ⟨w.heap.size, 3, none⟩ = some (.int .i64 q) ∧ v.cell? ⟨w.heap.size, 4, none⟩ = some (.slice lo n cl)) := fun v hv => img_held hw0 (below_then b1 hv)
  have MH : Hid (∀ v, Below w1.heap.size w1 v → (v.cell? ⟨w.heap.size + 1, 0, none⟩ = some (.int .i64 0) ∧ v.cell? ⟨w.heap.size + 1, 1, none⟩ = some (.int .i64 0) ∧ v.cell? ⟨w.heap.size + 1, 2, none⟩ = some (.int .i64 0) ∧ v.cell? ⟨w.heap.size + 1, 3, none⟩ = some (.int .i64 0) ∧ v.cell? ⟨w.heap.size + 1, 4, none⟩ = some (.slice none 0 0)) ∧ ∀ i, v.frozen? ⟨w.heap.size + 1, i, none⟩ = false) := fun v hv => by rw [← z0]; exact ⟨img_held hw1 hv, blk_free hw1 hv⟩
  have HB1 : Hid (Below w.heap.size w w1) := below_then b0 b1
  have HC := checked_any hck lo cl A C w1 (hl.below HB1.out)
  have hx2 : (x != 0) = true := by simp; exact hx
  clear hck hl hx
  go_enter Try.func13, Try.ntmps13
  go_wp2_with fail
  rw [← hw0, ← hw1]
  clear hw0 hw1 b0 b1 z0
  refine HC.mono ?_
  rintro e wa ⟨rfl, ha⟩
  obtain ⟨⟨m0, m1, m2, m3, m4⟩, m5⟩ := MH.out wa ha
  have HB := below_then HB1.out ha
  have n0 := fun o => held m0 (below_alloc wa o)
  have n1 := fun o => held m1 (below_alloc wa o)
  have n2 := fun o => held m2 (below_alloc wa o)
  have n3 := fun o => held m3 (below_alloc wa o)
  have n4 := fun o => held m4 (below_alloc wa o)
  have n5 : ∀ o i, (wa.alloc o).frozen? ⟨w.heap.size + 1, i, none⟩ = false := fun o i => free_below (m5 i) (below_alloc _ _) (World.block_lt_of_cell? wa ⟨w.heap.size + 1, 0, none⟩ m0)
  clear HC ha m0 m1 m2 m3 m4 m5
  go_wp2_with fail
  refine bodyPost_ret (v := .tuple #[.agg #[.int .i64 0, .int .i64 0, .int .i64 0, .int .i64 0, .slice none 0 0], .int .i64 x]) (by simp [results, Try.results13, go_sem, n0, n1, n2, n3, n4]) rfl ?_
  exact ⟨none, fun _ => none, fun _ => 0, rfl, .inl ⟨rfl, rfl⟩, (((((HB.alloc HB.size _).setCell (Nat.le_succ _) _).setCell (Nat.le_succ _) _).setCell (Nat.le_succ _) _).setCell (Nat.le_succ _) _).setCell (Nat.le_succ _) _⟩
set_option maxHeartbeats 1000000 in
set_option maxRecDepth 100000 in
theorem After_e2 (hck : Ck k r c q n F 0 N Q S) (hln : 65536 < ln) (m : Int) (lo : Option Addr) (cl : Nat) (A : Nat → Option Addr) (C : Nat → Nat) (po : Option Addr) (pc : Nat) (w : World) (hl : Lst w lo n A C F) :
    Calls Try.prog 13 #[.agg #[.int .i64 k, .int .i64 r, .int .i64 c, .int .i64 q, .slice lo n cl], .slice po ln pc, .int .i64 m] w fun e w' => ∃ lo' A' C', e = .returned (.tuple #[.agg #[.int .i64 0, .int .i64 0, .int .i64 0, .int .i64 0, .slice lo' 0 0], .int .i64 20]) ∧ Im w.heap.size w' lo' 0 A' C' (fun _ => []) ∧ Below w.heap.size w w' := by
  obtain ⟨w0, hw0⟩ : ∃ w0, w0 = w.alloc (.cells #[.int .i64 k, .int .i64 r, .int .i64 c, .int .i64 q, .slice lo n cl] 27) := ⟨_, rfl⟩
  obtain ⟨w1, hw1⟩ : ∃ w1, w1 = w0.alloc (.cells #[.int .i64 0, .int .i64 0, .int .i64 0, .int .i64 0, .slice none 0 0] 27) := ⟨_, rfl⟩
  have b0 : Below w.heap.size w w0 := by rw [hw0]; exact below_alloc _ _
  have b1 : Below w0.heap.size w0 w1 := by rw [hw1]; exact below_alloc _ _
  have z0 : w0.heap.size = w.heap.size + 1 := by rw [hw0]; simp
  have z1 : w.heap.size + 2 ≤ w1.heap.size := by rw [hw1]; simp; omega
  have SH : Hid (∀ v, Below w1.heap.size w1 v → v.cell? ⟨w.heap.size, 0, none⟩ = some (.int .i64 k) ∧ v.cell? ⟨w.heap.size, 1, none⟩ = some (.int .i64 r) ∧ v.cell? ⟨w.heap.size, 2, none⟩ = some (.int .i64 c) ∧ v.cell? ⟨w.heap.size, 3, none⟩ = some (.int .i64 q) ∧ v.cell? ⟨w.heap.size, 4, none⟩ = some (.slice lo n cl)) := fun v hv => img_held hw0 (below_then b1 hv)
  have MH : Hid (∀ v, Below w1.heap.size w1 v → (v.cell? ⟨w.heap.size + 1, 0, none⟩ = some (.int .i64 0) ∧ v.cell? ⟨w.heap.size + 1, 1, none⟩ = some (.int .i64 0) ∧ v.cell? ⟨w.heap.size + 1, 2, none⟩ = some (.int .i64 0) ∧ v.cell? ⟨w.heap.size + 1, 3, none⟩ = some (.int .i64 0) ∧ v.cell? ⟨w.heap.size + 1, 4, none⟩ = some (.slice none 0 0)) ∧ ∀ i, v.frozen? ⟨w.heap.size + 1, i, none⟩ = false) := fun v hv => by rw [← z0]; exact ⟨img_held hw1 hv, blk_free hw1 hv⟩
  have HB1 : Hid (Below w.heap.size w w1) := below_then b0 b1
  have HC := checked_any hck lo cl A C w1 (hl.below HB1.out)
  have hl2 : (65536 : Int) < (ln : Int) := by omega
  clear hck hl
  go_enter Try.func13, Try.ntmps13
  go_wp2_with fail
  rw [← hw0, ← hw1]
  clear hw0 hw1 b0 b1 z0
  refine HC.mono ?_
  rintro e wa ⟨rfl, ha⟩
  obtain ⟨⟨m0, m1, m2, m3, m4⟩, m5⟩ := MH.out wa ha
  have HB := below_then HB1.out ha
  have n0 := fun o => held m0 (below_alloc wa o)
  have n1 := fun o => held m1 (below_alloc wa o)
  have n2 := fun o => held m2 (below_alloc wa o)
  have n3 := fun o => held m3 (below_alloc wa o)
  have n4 := fun o => held m4 (below_alloc wa o)
  have n5 : ∀ o i, (wa.alloc o).frozen? ⟨w.heap.size + 1, i, none⟩ = false := fun o i => free_below (m5 i) (below_alloc _ _) (World.block_lt_of_cell? wa ⟨w.heap.size + 1, 0, none⟩ m0)
  clear HC ha m0 m1 m2 m3 m4 m5
  go_wp2_with fail
  refine bodyPost_ret (v := .tuple #[.agg #[.int .i64 0, .int .i64 0, .int .i64 0, .int .i64 0, .slice none 0 0], .int .i64 20]) (by simp [results, Try.results13, go_sem, n0, n1, n2, n3, n4]) rfl ?_
  exact ⟨none, fun _ => none, fun _ => 0, rfl, .inl ⟨rfl, rfl⟩, (((((HB.alloc HB.size _).setCell (Nat.le_succ _) _).setCell (Nat.le_succ _) _).setCell (Nat.le_succ _) _).setCell (Nat.le_succ _) _).setCell (Nat.le_succ _) _⟩
set_option maxHeartbeats 1000000 in
set_option maxRecDepth 100000 in
theorem After_e3 (hck : Ck k r c q n F 0 N Q S) (hln : ln ≤ 65536) (ht : ∃ i, i < ln ∧ takB N Q S (D i) = false) (m : Int) (lo : Option Addr) (cl : Nat) (A : Nat → Option Addr) (C : Nat → Nat) (po : Option Addr) (pc : Nat) (B : Nat → Option Addr) (K : Nat → Nat) (w : World) (hl : Lst w lo n A C F) (hp : Pts w Z po ln D B K) :
    Calls Try.prog 13 #[.agg #[.int .i64 k, .int .i64 r, .int .i64 c, .int .i64 q, .slice lo n cl], .slice po ln pc, .int .i64 m] w fun e w' => ∃ lo' A' C', e = .returned (.tuple #[.agg #[.int .i64 0, .int .i64 0, .int .i64 0, .int .i64 0, .slice lo' 0 0], .int .i64 80]) ∧ Im w.heap.size w' lo' 0 A' C' (fun _ => []) ∧ Below w.heap.size w w' := by
  obtain ⟨w0, hw0⟩ : ∃ w0, w0 = w.alloc (.cells #[.int .i64 k, .int .i64 r, .int .i64 c, .int .i64 q, .slice lo n cl] 27) := ⟨_, rfl⟩
  obtain ⟨w1, hw1⟩ : ∃ w1, w1 = w0.alloc (.cells #[.int .i64 0, .int .i64 0, .int .i64 0, .int .i64 0, .slice none 0 0] 27) := ⟨_, rfl⟩
  have b0 : Below w.heap.size w w0 := by rw [hw0]; exact below_alloc _ _
  have b1 : Below w0.heap.size w0 w1 := by rw [hw1]; exact below_alloc _ _
  have z0 : w0.heap.size = w.heap.size + 1 := by rw [hw0]; simp
  have z1 : w.heap.size + 2 ≤ w1.heap.size := by rw [hw1]; simp; omega
  have SH : Hid (∀ v, Below w1.heap.size w1 v → v.cell? ⟨w.heap.size, 0, none⟩ = some (.int .i64 k) ∧ v.cell? ⟨w.heap.size, 1, none⟩ = some (.int .i64 r) ∧ v.cell? ⟨w.heap.size, 2, none⟩ = some (.int .i64 c) ∧ v.cell? ⟨w.heap.size, 3, none⟩ = some (.int .i64 q) ∧ v.cell? ⟨w.heap.size, 4, none⟩ = some (.slice lo n cl)) := fun v hv => img_held hw0 (below_then b1 hv)
  have MH : Hid (∀ v, Below w1.heap.size w1 v → (v.cell? ⟨w.heap.size + 1, 0, none⟩ = some (.int .i64 0) ∧ v.cell? ⟨w.heap.size + 1, 1, none⟩ = some (.int .i64 0) ∧ v.cell? ⟨w.heap.size + 1, 2, none⟩ = some (.int .i64 0) ∧ v.cell? ⟨w.heap.size + 1, 3, none⟩ = some (.int .i64 0) ∧ v.cell? ⟨w.heap.size + 1, 4, none⟩ = some (.slice none 0 0)) ∧ ∀ i, v.frozen? ⟨w.heap.size + 1, i, none⟩ = false) := fun v hv => by rw [← z0]; exact ⟨img_held hw1 hv, blk_free hw1 hv⟩
  have HB1 : Hid (Below w.heap.size w w1) := below_then b0 b1
  have HC := checked_any hck lo cl A C w1 (hl.below HB1.out)
  have hl2 : ¬ (65536 : Int) < (ln : Int) := by omega
  have HP : Hid (Pts w Z po ln D B K) := hp
  clear hck hl hp
  go_enter Try.func13, Try.ntmps13
  go_wp2_with fail
  rw [← hw0, ← hw1]
  clear hw0 hw1 b0 b1 z0
  refine HC.mono ?_
  rintro e wa ⟨rfl, ha⟩
  obtain ⟨wb, hwb⟩ : ∃ wb, wb = wa.alloc (.cells #[.int .i64 (N : Int), .int .i64 (Q : Int), .int .i64 (S : Int)] 64) := ⟨_, rfl⟩
  have hab : Below wa.heap.size wa wb := by rw [hwb]; exact below_alloc _ _
  have HBb : Hid (Below w1.heap.size w1 wb) := below_then ha hab
  have SP : Hid (∀ v, Below wb.heap.size wb v → v.cell? ⟨wa.heap.size, 0, none⟩ = some (.int .i64 (N : Int)) ∧ v.cell? ⟨wa.heap.size, 1, none⟩ = some (.int .i64 (Q : Int)) ∧ v.cell? ⟨wa.heap.size, 2, none⟩ = some (.int .i64 (S : Int))) := fun v hv => shp_held hwb hv
  have HT := takesAll_any N Q S po ln pc D B K (by omega) wb (HP.out.below (below_then HB1.out HBb.out)) false (.inr ⟨rfl, ht⟩)
  clear HC ha
  go_wp2_with fail
  rw [← hwb]
  clear hwb hab
  refine HT.mono ?_
  rintro e wc ⟨rfl, hc⟩
  have HBc : Hid (Below w1.heap.size w1 wc) := below_then HBb.out hc
  obtain ⟨⟨m0, m1, m2, m3, m4⟩, m5⟩ := MH.out wc HBc.out
  have HB := below_then HB1.out HBc.out
  clear HT hc
  go_wp2_with fail
  refine bodyPost_ret (v := .tuple #[.agg #[.int .i64 0, .int .i64 0, .int .i64 0, .int .i64 0, .slice none 0 0], .int .i64 80]) (by simp [results, Try.results13, go_sem, m0, m1, m2, m3, m4]) rfl ?_
  exact ⟨none, fun _ => none, fun _ => 0, rfl, .inl ⟨rfl, rfl⟩, ((((HB.setCell (Nat.le_succ _) _).setCell (Nat.le_succ _) _).setCell (Nat.le_succ _) _).setCell (Nat.le_succ _) _).setCell (Nat.le_succ _) _⟩
set_option maxHeartbeats 1000000 in
set_option maxRecDepth 100000 in
theorem After_e4 (hck : Ck k r c q n F 0 N Q S) (hln : ln ≤ 65536) (ht : ∀ i, i < ln → takB N Q S (D i) = true) (m : Int) (hm : m < 0 ∨ (ln : Int) < m) (lo : Option Addr) (cl : Nat) (A : Nat → Option Addr) (C : Nat → Nat) (po : Option Addr) (pc : Nat) (B : Nat → Option Addr) (K : Nat → Nat) (w : World) (hl : Lst w lo n A C F) (hp : Pts w Z po ln D B K) :
    Calls Try.prog 13 #[.agg #[.int .i64 k, .int .i64 r, .int .i64 c, .int .i64 q, .slice lo n cl], .slice po ln pc, .int .i64 m] w fun e w' => ∃ lo' A' C', e = .returned (.tuple #[.agg #[.int .i64 0, .int .i64 0, .int .i64 0, .int .i64 0, .slice lo' 0 0], .int .i64 2]) ∧ Im w.heap.size w' lo' 0 A' C' (fun _ => []) ∧ Below w.heap.size w w' := by
  obtain ⟨w0, hw0⟩ : ∃ w0, w0 = w.alloc (.cells #[.int .i64 k, .int .i64 r, .int .i64 c, .int .i64 q, .slice lo n cl] 27) := ⟨_, rfl⟩
  obtain ⟨w1, hw1⟩ : ∃ w1, w1 = w0.alloc (.cells #[.int .i64 0, .int .i64 0, .int .i64 0, .int .i64 0, .slice none 0 0] 27) := ⟨_, rfl⟩
  have b0 : Below w.heap.size w w0 := by rw [hw0]; exact below_alloc _ _
  have b1 : Below w0.heap.size w0 w1 := by rw [hw1]; exact below_alloc _ _
  have z0 : w0.heap.size = w.heap.size + 1 := by rw [hw0]; simp
  have z1 : w.heap.size + 2 ≤ w1.heap.size := by rw [hw1]; simp; omega
  have SH : Hid (∀ v, Below w1.heap.size w1 v → v.cell? ⟨w.heap.size, 0, none⟩ = some (.int .i64 k) ∧ v.cell? ⟨w.heap.size, 1, none⟩ = some (.int .i64 r) ∧ v.cell? ⟨w.heap.size, 2, none⟩ = some (.int .i64 c) ∧ v.cell? ⟨w.heap.size, 3, none⟩ = some (.int .i64 q) ∧ v.cell? ⟨w.heap.size, 4, none⟩ = some (.slice lo n cl)) := fun v hv => img_held hw0 (below_then b1 hv)
  have MH : Hid (∀ v, Below w1.heap.size w1 v → (v.cell? ⟨w.heap.size + 1, 0, none⟩ = some (.int .i64 0) ∧ v.cell? ⟨w.heap.size + 1, 1, none⟩ = some (.int .i64 0) ∧ v.cell? ⟨w.heap.size + 1, 2, none⟩ = some (.int .i64 0) ∧ v.cell? ⟨w.heap.size + 1, 3, none⟩ = some (.int .i64 0) ∧ v.cell? ⟨w.heap.size + 1, 4, none⟩ = some (.slice none 0 0)) ∧ ∀ i, v.frozen? ⟨w.heap.size + 1, i, none⟩ = false) := fun v hv => by rw [← z0]; exact ⟨img_held hw1 hv, blk_free hw1 hv⟩
  have HB1 : Hid (Below w.heap.size w w1) := below_then b0 b1
  have HC := checked_any hck lo cl A C w1 (hl.below HB1.out)
  have hl2 : ¬ (65536 : Int) < (ln : Int) := by omega
  have HP : Hid (Pts w Z po ln D B K) := hp
  have HM : Hid (m < 0 ∨ (ln : Int) < m) := hm
  clear hck hl hp hm
  go_enter Try.func13, Try.ntmps13
  go_wp2_with fail
  rw [← hw0, ← hw1]
  clear hw0 hw1 b0 b1 z0
  refine HC.mono ?_
  rintro e wa ⟨rfl, ha⟩
  obtain ⟨wb, hwb⟩ : ∃ wb, wb = wa.alloc (.cells #[.int .i64 (N : Int), .int .i64 (Q : Int), .int .i64 (S : Int)] 64) := ⟨_, rfl⟩
  have hab : Below wa.heap.size wa wb := by rw [hwb]; exact below_alloc _ _
  have HBb : Hid (Below w1.heap.size w1 wb) := below_then ha hab
  have SP : Hid (∀ v, Below wb.heap.size wb v → v.cell? ⟨wa.heap.size, 0, none⟩ = some (.int .i64 (N : Int)) ∧ v.cell? ⟨wa.heap.size, 1, none⟩ = some (.int .i64 (Q : Int)) ∧ v.cell? ⟨wa.heap.size, 2, none⟩ = some (.int .i64 (S : Int))) := fun v hv => shp_held hwb hv
  have HT := takesAll_any N Q S po ln pc D B K (by omega) wb (HP.out.below (below_then HB1.out HBb.out)) true (.inl ⟨rfl, ht⟩)
  clear HC ha
  go_wp2_with fail
  rw [← hwb]
  clear hwb hab
  refine HT.mono ?_
  rintro e wc ⟨rfl, hc⟩
  have HBc : Hid (Below w1.heap.size w1 wc) := below_then HBb.out hc
  obtain ⟨⟨m0, m1, m2, m3, m4⟩, m5⟩ := MH.out wc HBc.out
  have HB := below_then HB1.out HBc.out
  clear HT hc
  by_cases hm : m < 0
  · go_wp2_with fail
    refine bodyPost_ret (v := .tuple #[.agg #[.int .i64 0, .int .i64 0, .int .i64 0, .int .i64 0, .slice none 0 0], .int .i64 2]) (by simp [results, Try.results13, go_sem, m0, m1, m2, m3, m4]) rfl ?_
    exact ⟨none, fun _ => none, fun _ => 0, rfl, .inl ⟨rfl, rfl⟩, ((((HB.setCell (Nat.le_succ _) _).setCell (Nat.le_succ _) _).setCell (Nat.le_succ _) _).setCell (Nat.le_succ _) _).setCell (Nat.le_succ _) _⟩
  · have hm2 : (ln : Int) < m := by rcases HM.out with h | h; exact absurd h hm; exact h
    go_wp2_with fail
    refine bodyPost_ret (v := .tuple #[.agg #[.int .i64 0, .int .i64 0, .int .i64 0, .int .i64 0, .slice none 0 0], .int .i64 2]) (by simp [results, Try.results13, go_sem, m0, m1, m2, m3, m4]) rfl ?_
    exact ⟨none, fun _ => none, fun _ => 0, rfl, .inl ⟨rfl, rfl⟩, ((((HB.setCell (Nat.le_succ _) _).setCell (Nat.le_succ _) _).setCell (Nat.le_succ _) _).setCell (Nat.le_succ _) _).setCell (Nat.le_succ _) _⟩
end
end Go.Proofs.Ytenlfhdchflnjaa
