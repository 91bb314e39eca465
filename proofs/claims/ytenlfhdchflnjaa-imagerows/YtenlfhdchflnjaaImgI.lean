/- An image with a drive wiped, a blank image, by the program. -/
import Derived.Test.YtenlfhdchflnjaaImgH
namespace Go.Proofs.Ytenlfhdchflnjaa
open Go.RowKit

/-- Slots from a on, cnt of them, blank. -/
def clrF (a cnt : Nat) (F : Nat → List UInt8) (j : Nat) : List UInt8 := if a ≤ j ∧ j < a + cnt then [] else F j
theorem ImR.congr {B : Nat} {w : World} {l n : Nat} {A : Nat → Option Addr} {C : Nat → Nat} {F G : Nat → List UInt8} (h : ImR B w l n A C F) (e : ∀ i, i < n → F i = G i) : ImR B w l n A C G :=
  ⟨h.1.congr e, fun i hi => by rw [← e i hi]; exact h.2 i hi⟩
theorem ImR.clear {B l n : Nat} : ∀ (cnt a : Nat) {w : World} {A : Nat → Option Addr} {C : Nat → Nat} {F : Nat → List UInt8}, ImR B w l n A C F → ∃ A' C', ImR B (w.setCells l a (List.replicate cnt (.slice none 0 0))) l n A' C' (clrF a cnt F)
  | 0, a, w, A, C, F, h => ⟨A, C, h.congr fun i _ => by unfold clrF; rw [if_neg (by omega)]⟩
  | cnt + 1, a, w, A, C, F, h => by
    have h1 := h.put a (ao := none) (cp := 0) (x := []) (.inl ⟨rfl, rfl, rfl⟩) (fun _ e => by cases e)
    obtain ⟨A', C', h2⟩ := ImR.clear cnt (a + 1) h1
    refine ⟨A', C', h2.congr fun i _ => ?_⟩
    unfold clrF upd
    by_cases e : i = a
    · subst e; rw [if_neg (by omega), if_pos rfl, if_pos (by omega)]
    · rw [if_neg e]
      by_cases g : a + 1 ≤ i ∧ i < a + 1 + cnt
      · rw [if_pos g, if_pos (by omega)]
      · rw [if_neg g, if_neg (by omega)]
theorem clr_wp {Q : Nat} (hQ : 0 < Q) (d : Nat) (F : Nat → List UInt8) (j : Nat) : clrF (d * Q * 2) (Q * 2) F j = wpF Q d F j := by
  unfold clrF wpF
  have e : d * Q * 2 = d * (2 * Q) := by rw [Nat.mul_assoc, Nat.mul_comm Q 2]
  have hp : 0 < 2 * Q := by omega
  have h1 := Nat.div_add_mod j (2 * Q)
  have h2 := Nat.mod_lt j hp
  by_cases g : j / (2 * Q) = d
  · rw [if_pos g, if_pos]
    rw [g, Nat.mul_comm] at h1
    rw [e]
    omega
  · rw [if_neg g, if_neg]
    rintro ⟨g1, g2⟩
    rw [e] at g1 g2
    apply g
    exact Nat.div_eq_of_lt_le g1 (by rw [Nat.add_mul, Nat.one_mul]; omega)
theorem Only.setCells {X : Nat → Prop} {a : World} {g : Nat} (hg : X g) : ∀ (vs : List Value) (o : Nat) {b : World}, Only X a b → Only X a (b.setCells g o vs)
  | [], _, _, h => h
  | v :: r, o, _, h => Only.setCells hg r (o + 1) (h.setCell (p := ⟨g, o, none⟩) hg v)
section
variable {k r c q : Int} {n : Nat} {F : Nat → List UInt8} {N Q S : Nat}
set_option maxHeartbeats 1000000 in
set_option maxRecDepth 100000 in
theorem Wiped_e1 {x : Int} (hck : Ck k r c q n F x N Q S) (hx : ¬ x = 0) (d : Int) (lo : Option Addr) (cl : Nat) (A : Nat → Option Addr) (C : Nat → Nat) (w : World) (hl : Lst w lo n A C F) :
    Calls Try.prog 16 #[.agg #[.int .i64 k, .int .i64 r, .int .i64 c, .int .i64 q, .slice lo n cl], .int .i64 d] w fun e w' => ∃ lo' A' C', e = .returned (.tuple #[.agg #[.int .i64 0, .int .i64 0, .int .i64 0, .int .i64 0, .slice lo' 0 0], .int .i64 x]) ∧ Im w.heap.size w' lo' 0 A' C' (fun _ => []) ∧ Below w.heap.size w w' := by
  obtain ⟨w0, hw0⟩ : ∃ w0, w0 = w.alloc (.cells #[.int .i64 k, .int .i64 r, .int .i64 c, .int .i64 q, .slice lo n cl] 27) := ⟨_, rfl⟩
  obtain ⟨w1, hw1⟩ : ∃ w1, w1 = w0.alloc (.cells #[.int .i64 0, .int .i64 0, .int .i64 0, .int .i64 0, .slice none 0 0] 27) := ⟨_, rfl⟩
  have b0 : Below w.heap.size w w0 := by rw [hw0]; exact below_alloc _ _
  have b1 : Below w0.heap.size w0 w1 := by rw [hw1]; exact below_alloc _ _
  have z0 : w0.heap.size = w.heap.size + 1 := by rw [hw0]; simp
  have z1 : w.heap.size + 2 ≤ w1.heap.size := by rw [hw1]; simp; omega
  have SH : Hid (∀ v, Below w1.heap.size w1 v → v.cell? ⟨w.heap.size, 0, none⟩ = some (.int .i64 k) ∧ v.cell? ⟨w.heap.size, 1, none⟩ = some (.int .i64 r) ∧ v.cell? ⟨w.heap.size, 2, none⟩ = some (.int .i64 c) ∧ v.cell? ⟨w.heap.size, 3, none⟩ = some (.int .i64 q) ∧ v.cell? ⟨w.heap.size, 4, none⟩ = some (.slice lo n cl)) := fun v hv => img_held hw0 (below_then b1 hv)
  have MH : Hid (∀ v, Below w1.heap.size w1 v → (v.cell? ⟨w.heap.size + 1, 0, none⟩ = some (.int .i64 0) ∧ v.cell? ⟨w.heap.size + 1, 1, none⟩ = some (.int .i64 0) ∧ v.cell? ⟨w.heap.size + 1, 2, none⟩ = some (.int .i64 0) ∧ v.cell? ⟨w.heap.size + 1, 3, none⟩ = some (.int .i64 0) ∧ v.cell? ⟨w.heap.size + 1, 4, none⟩ = some (.slice none 0 0)) ∧ ∀ i, v.frozen? ⟨w.heap.size + 1, i, none⟩ = false) := fun v hv => by rw [← z0]; exact ⟨img_held hw1 hv, blk_free hw1 hv⟩
  have HB1 : Hid (Below w.heap.size w w1) := below_then b0 b1
  have HC := checked_any hck lo cl A C w1 (hl.below HB1.out)
  have hx2 : (x != 0) = true := by simp; exact hx
  clear hck hl hx
  go_enter Try.func16, Try.ntmps16
  go_wp2_with fail
  rw [← hw0, ← hw1]
  clear hw0 hw1 b0 b1 z0
  refine HC.mono ?_
  rintro e wa ⟨rfl, ha⟩
  obtain ⟨⟨m0, m1, m2, m3, m4⟩, m5⟩ := MH.out wa ha
  have HB := below_then HB1.out ha
  have n0 := fun o => held m0 (below_alloc wa o)
  have n1 := fun o => held m1 (below_alloc wa o)
  have n2 := fun o => held m2 (below_alloc wa o)
  have n3 := fun o => held m3 (below_alloc wa o)
  have n4 := fun o => held m4 (below_alloc wa o)
  have n5 : ∀ o i, (wa.alloc o).frozen? ⟨w.heap.size + 1, i, none⟩ = false := fun o i => free_below (m5 i) (below_alloc _ _) (World.block_lt_of_cell? wa ⟨w.heap.size + 1, 0, none⟩ m0)
  clear HC ha m0 m1 m2 m3 m4 m5
  go_wp2_with fail
  refine bodyPost_ret (v := .tuple #[.agg #[.int .i64 0, .int .i64 0, .int .i64 0, .int .i64 0, .slice none 0 0], .int .i64 x]) (by simp [results, Try.results16, go_sem, n0, n1, n2, n3, n4]) rfl ?_
  exact ⟨none, fun _ => none, fun _ => 0, rfl, .inl ⟨rfl, rfl⟩, (((((HB.alloc HB.size _).setCell (Nat.le_succ _) _).setCell (Nat.le_succ _) _).setCell (Nat.le_succ _) _).setCell (Nat.le_succ _) _).setCell (Nat.le_succ _) _⟩
set_option maxHeartbeats 1000000 in
set_option maxRecDepth 100000 in
theorem Wiped_e2 (hck : Ck k r c q n F 0 N Q S) (d : Int) (hd : ¬ (0 ≤ d ∧ d < (N : Int))) (lo : Option Addr) (cl : Nat) (A : Nat → Option Addr) (C : Nat → Nat) (w : World) (hl : Lst w lo n A C F) :
    Calls Try.prog 16 #[.agg #[.int .i64 k, .int .i64 r, .int .i64 c, .int .i64 q, .slice lo n cl], .int .i64 d] w fun e w' => ∃ lo' A' C', e = .returned (.tuple #[.agg #[.int .i64 0, .int .i64 0, .int .i64 0, .int .i64 0, .slice lo' 0 0], .int .i64 2]) ∧ Im w.heap.size w' lo' 0 A' C' (fun _ => []) ∧ Below w.heap.size w w' := by
  obtain ⟨w0, hw0⟩ : ∃ w0, w0 = w.alloc (.cells #[.int .i64 k, .int .i64 r, .int .i64 c, .int .i64 q, .slice lo n cl] 27) := ⟨_, rfl⟩
  obtain ⟨w1, hw1⟩ : ∃ w1, w1 = w0.alloc (.cells #[.int .i64 0, .int .i64 0, .int .i64 0, .int .i64 0, .slice none 0 0] 27) := ⟨_, rfl⟩
  have b0 : Below w.heap.size w w0 := by rw [hw0]; exact below_alloc _ _
  have b1 : Below w0.heap.size w0 w1 := by rw [hw1]; exact below_alloc _ _
  have z0 : w0.heap.size = w.heap.size + 1 := by rw [hw0]; simp
  have z1 : w.heap.size + 2 ≤ w1.heap.size := by rw [hw1]; simp; omega
  have SH : Hid (∀ v, Below w1.heap.size w1 v → v.cell? ⟨w.heap.size, 0, none⟩ = some (.int .i64 k) ∧ v.cell? ⟨w.heap.size, 1, none⟩ = some (.int .i64 r) ∧ v.cell? ⟨w.heap.size, 2, none⟩ = some (.int .i64 c) ∧ v.cell? ⟨w.heap.size, 3, none⟩ = some (.int .i64 q) ∧ v.cell? ⟨w.heap.size, 4, none⟩ = some (.slice lo n cl)) := fun v hv => img_held hw0 (below_then b1 hv)
  have MH : Hid (∀ v, Below w1.heap.size w1 v → (v.cell? ⟨w.heap.size + 1, 0, none⟩ = some (.int .i64 0) ∧ v.cell? ⟨w.heap.size + 1, 1, none⟩ = some (.int .i64 0) ∧ v.cell? ⟨w.heap.size + 1, 2, none⟩ = some (.int .i64 0) ∧ v.cell? ⟨w.heap.size + 1, 3, none⟩ = some (.int .i64 0) ∧ v.cell? ⟨w.heap.size + 1, 4, none⟩ = some (.slice none 0 0)) ∧ ∀ i, v.frozen? ⟨w.heap.size + 1, i, none⟩ = false) := fun v hv => by rw [← z0]; exact ⟨img_held hw1 hv, blk_free hw1 hv⟩
  have HB1 : Hid (Below w.heap.size w w1) := below_then b0 b1
  have HC := checked_any hck lo cl A C w1 (hl.below HB1.out)
  have HW := fun w => inW_any d (N : Int) w
  rw [decide_eq_false hd] at HW
  clear hck hl hd
  go_enter Try.func16, Try.ntmps16
  go_wp2_with fail
  rw [← hw0, ← hw1]
  clear hw0 hw1 b0 b1 z0
  refine HC.mono ?_
  rintro e wa ⟨rfl, ha⟩
  obtain ⟨⟨m0, m1, m2, m3, m4⟩, m5⟩ := MH.out wa ha
  have HB := below_then HB1.out ha
  have n0 := fun o => held m0 (below_alloc wa o)
  have n1 := fun o => held m1 (below_alloc wa o)
  have n2 := fun o => held m2 (below_alloc wa o)
  have n3 := fun o => held m3 (below_alloc wa o)
  have n4 := fun o => held m4 (below_alloc wa o)
  have n5 : ∀ o i, (wa.alloc o).frozen? ⟨w.heap.size + 1, i, none⟩ = false := fun o i => free_below (m5 i) (below_alloc _ _) (World.block_lt_of_cell? wa ⟨w.heap.size + 1, 0, none⟩ m0)
  clear HC ha m0 m1 m2 m3 m4 m5
  go_wp2_with (go_at_call 50; refine (HW _).mono ?_; rintro e w' ⟨rfl, hw'⟩; obtain rfl := hw'.symm)
  refine bodyPost_ret (v := .tuple #[.agg #[.int .i64 0, .int .i64 0, .int .i64 0, .int .i64 0, .slice none 0 0], .int .i64 2]) (by simp [results, Try.results16, go_sem, n0, n1, n2, n3, n4]) rfl ?_
  exact ⟨none, fun _ => none, fun _ => 0, rfl, .inl ⟨rfl, rfl⟩, (((((HB.alloc HB.size _).setCell (Nat.le_succ _) _).setCell (Nat.le_succ _) _).setCell (Nat.le_succ _) _).setCell (Nat.le_succ _) _).setCell (Nat.le_succ _) _⟩
set_option maxHeartbeats 2000000 in
set_option maxRecDepth 100000 in
theorem Wiped_ok (hck : Ck k r c q n F 0 N Q S) (d : Nat) (hd : d < N) (lo : Option Addr) (cl : Nat) (A : Nat → Option Addr) (C : Nat → Nat) (w : World) (hl : Lst w lo n A C F) :
    Calls Try.prog 16 #[.agg #[.int .i64 k, .int .i64 r, .int .i64 c, .int .i64 q, .slice lo n cl], .int .i64 (d : Int)] w fun e w' => ∃ lo' A' C', e = .returned (.tuple #[.agg #[.int .i64 k, .int .i64 r, .int .i64 c, .int .i64 q, .slice lo' n n], .int .i64 0]) ∧ Im w.heap.size w' lo' n A' C' (wpF Q d F) ∧ Below w.heap.size w w' := by
  obtain ⟨hpm, hne, hfit⟩ := hck.ok rfl
  obtain ⟨hN1, hN2, hQ1, hQ, hS1, hS2, hn1, hn2⟩ := hpm.bounds
  rw [← hne] at hn1 hn2
  have hsl : ∀ i, i < n → (F i).length ≤ 1000000 := fun i hi => by have := hfit i hi; omega
  have HSL : Hid (∀ i, i < n → (F i).length ≤ 1000000) := hsl
  have HLL : Hid (Lst w lo n A C F) := hl
  have HWP : Hid (∀ j, clrF (d * Q * 2) (Q * 2) F j = wpF Q d F j) := clr_wp (by omega) d F
  have hsum : (d + 1) * Q * 2 ≤ n := by rw [hne]; exact Nat.mul_le_mul_right 2 (Nat.mul_le_mul_right Q (by omega))
  have hsu2 : (d + 1) * Q * 2 = d * Q * 2 + Q * 2 := by rw [Nat.add_mul, Nat.add_mul, Nat.one_mul]
  have HAT : Hid (∀ v, Calls Try.prog 47 #[.agg #[.int .i64 (N : Int), .int .i64 (Q : Int), .int .i64 (S : Int)], .int .i64 (d : Int), .int .i64 0, .int .i64 0] v fun e w' => e = .returned (.int .i64 ((d * Q * 2 : Nat) : Int)) ∧ Below v.heap.size v w') := fun v => by
    have h := at_any N Q S hQ (d : Int) 0 0 (by omega) (by omega) (by decide) (by decide) (by decide) (by decide) v
    rwa [plc_all] at h
  have HAT2 : Hid (∀ v, Calls Try.prog 47 #[.agg #[.int .i64 (N : Int), .int .i64 (Q : Int), .int .i64 (S : Int)], .int .i64 ((d : Int) + 1), .int .i64 0, .int .i64 0] v fun e w' => e = .returned (.int .i64 (((d + 1) * Q * 2 : Nat) : Int)) ∧ Below v.heap.size v w') := fun v => by
    have h := at_any N Q S hQ ((d + 1 : Nat) : Int) 0 0 (by omega) (by omega) (by decide) (by decide) (by decide) (by decide) v
    rw [plc_all] at h
    exact h
  obtain ⟨w0, hw0⟩ : ∃ w0, w0 = w.alloc (.cells #[.int .i64 k, .int .i64 r, .int .i64 c, .int .i64 q, .slice lo n cl] 27) := ⟨_, rfl⟩
  obtain ⟨w1, hw1⟩ : ∃ w1, w1 = w0.alloc (.cells #[.int .i64 0, .int .i64 0, .int .i64 0, .int .i64 0, .slice none 0 0] 27) := ⟨_, rfl⟩
  have b0 : Below w.heap.size w w0 := by rw [hw0]; exact below_alloc _ _
  have b1 : Below w0.heap.size w0 w1 := by rw [hw1]; exact below_alloc _ _
  have z0 : w0.heap.size = w.heap.size + 1 := by rw [hw0]; simp
  have z1 : w.heap.size + 2 ≤ w1.heap.size := by rw [hw1]; simp; omega
  have SH : Hid (∀ v, Below w1.heap.size w1 v → v.cell? ⟨w.heap.size, 0, none⟩ = some (.int .i64 k) ∧ v.cell? ⟨w.heap.size, 1, none⟩ = some (.int .i64 r) ∧ v.cell? ⟨w.heap.size, 2, none⟩ = some (.int .i64 c) ∧ v.cell? ⟨w.heap.size, 3, none⟩ = some (.int .i64 q) ∧ v.cell? ⟨w.heap.size, 4, none⟩ = some (.slice lo n cl)) := fun v hv => img_held hw0 (below_then b1 hv)
  have MH : Hid (∀ v, Below w1.heap.size w1 v → (v.cell? ⟨w.heap.size + 1, 0, none⟩ = some (.int .i64 0) ∧ v.cell? ⟨w.heap.size + 1, 1, none⟩ = some (.int .i64 0) ∧ v.cell? ⟨w.heap.size + 1, 2, none⟩ = some (.int .i64 0) ∧ v.cell? ⟨w.heap.size + 1, 3, none⟩ = some (.int .i64 0) ∧ v.cell? ⟨w.heap.size + 1, 4, none⟩ = some (.slice none 0 0)) ∧ ∀ i, v.frozen? ⟨w.heap.size + 1, i, none⟩ = false) := fun v hv => by rw [← z0]; exact ⟨img_held hw1 hv, blk_free hw1 hv⟩
  have HB1 : Hid (Below w.heap.size w w1) := below_then b0 b1
  have HC := checked_any hck lo cl A C w1 (hl.below HB1.out)
  have HW := fun w => inW_any (d : Int) (N : Int) w
  rw [decide_eq_true (show 0 ≤ (d : Int) ∧ (d : Int) < (N : Int) by omega)] at HW
  have wd1 : IntKind.i64.wrap ((d : Int) + 1) = (d : Int) + 1 := by rw [IntKind.wrap_i64]; omega
  clear hck hl hpm hne hfit hsl
  rw [hsu2] at HAT2 hsum
  clear hsu2
  obtain ⟨a0, ha0⟩ : ∃ a0, a0 = d * Q * 2 := ⟨_, rfl⟩
  obtain ⟨ct, hct⟩ : ∃ ct, ct = Q * 2 := ⟨_, rfl⟩
  rw [← ha0, ← hct] at HWP HAT2 hsum
  rw [← ha0] at HAT
  obtain ⟨en, hen⟩ : ∃ en, en = a0 + ct := ⟨_, rfl⟩
  rw [← hen] at HAT2 hsum
  obtain rfl : ct = en - a0 := by omega
  have hct1 : 0 < en - a0 := by omega
  have i0 : (0 : Int) ≤ (a0 : Int) := by omega
  have i1 : (a0 : Int) ≤ (en : Int) := by omega
  have i2 : (en : Int) ≤ (n : Int) := by omega
  have i3 : (0 : Int) ≤ (en : Int) := by omega
  have i4 : ¬ n = a0 := by omega
  clear hen
  clear ha0 hct
  go_enter Try.func16, Try.ntmps16
  go_wp2_with fail
  rw [← hw0, ← hw1]
  clear hw0 hw1 b0 b1 z0
  refine HC.mono ?_
  rintro e wa ⟨rfl, ha⟩
  obtain ⟨wb, hwb⟩ : ∃ wb, wb = wa.alloc (.cells #[.int .i64 (N : Int), .int .i64 (Q : Int), .int .i64 (S : Int)] 64) := ⟨_, rfl⟩
  have hab : Below wa.heap.size wa wb := by rw [hwb]; exact below_alloc _ _
  have HBb : Hid (Below w1.heap.size w1 wb) := below_then ha hab
  have SP : Hid (∀ v, Below wb.heap.size wb v → v.cell? ⟨wa.heap.size, 0, none⟩ = some (.int .i64 (N : Int)) ∧ v.cell? ⟨wa.heap.size, 1, none⟩ = some (.int .i64 (Q : Int)) ∧ v.cell? ⟨wa.heap.size, 2, none⟩ = some (.int .i64 (S : Int))) := fun v hv => shp_held hwb hv
  obtain ⟨s0, s1, s2, s3, s4⟩ := SH.out wa ha
  have y0 := fun o => held s0 (below_alloc wa o)
  have y1 := fun o => held s1 (below_alloc wa o)
  have y2 := fun o => held s2 (below_alloc wa o)
  have y3 := fun o => held s3 (below_alloc wa o)
  have y4 := fun o => held s4 (below_alloc wa o)
  have HCI := copiedImage_any k r c q wb lo n cl A C F (by omega) (HLL.out.below (below_then HB1.out HBb.out)) HSL.out
  have zab : wa.heap.size < wb.heap.size := by rw [hwb]; simp
  have zb1 := HBb.out.size
  clear HC ha
  go_wp2_with (first | (go_at_call 50; refine (HW _).mono ?_; rintro e w' ⟨rfl, hw'⟩; obtain rfl := hw'.symm) | fail)
  rw [← hwb]
  clear hwb hab y0 y1 y2 y3 y4 s0 s1 s2 s3 s4
  refine HCI.mono ?_
  rintro e wd ⟨l, A1, C1, rfl, h1, h2, hd2⟩
  obtain ⟨we, hwe⟩ : ∃ we, we = wd.alloc (.cells #[.int .i64 k, .int .i64 r, .int .i64 c, .int .i64 q, .slice (some ⟨l, 0, none⟩) n n] 27) := ⟨_, rfl⟩
  have bde : Below wd.heap.size wd we := by rw [hwe]; exact below_alloc _ _
  have hcd := hd2.size
  have zde : wd.heap.size < we.heap.size := by rw [hwe]; simp
  have hlc : wb.heap.size ≤ l := h1.own
  have hld : l < wd.heap.size := World.block_lt_of_cell? wd _ (h1.cell 0 (by omega))
  have HIR : Hid (ImR wb.heap.size we l n A1 C1 F) := (show ImR wb.heap.size wd l n A1 C1 F from ⟨h1, h2⟩).below bde
  have HWC : Hid (Below wb.heap.size wb we) := below_then hd2 bde
  have HWE : Hid (Below w.heap.size w we) := below_then HB1.out (below_then HBb.out HWC.out)
  have HVE : Hid (Blk we wd.heap.size 27 [.int .i64 k, .int .i64 r, .int .i64 c, .int .i64 q, .slice (some ⟨l, 0, none⟩) n n]) := by rw [hwe]; exact blk_new wd 27 _
  have CH : Hid (∀ v, Below we.heap.size we v → v.cell? ⟨wd.heap.size, 4, none⟩ = some (.slice (some ⟨l, 0, none⟩) n n) ∧ v.cell? ⟨wa.heap.size, 0, none⟩ = some (.int .i64 (N : Int)) ∧ v.cell? ⟨wa.heap.size, 1, none⟩ = some (.int .i64 (Q : Int)) ∧ v.cell? ⟨wa.heap.size, 2, none⟩ = some (.int .i64 (S : Int))) := fun v hv => ⟨held (HVE.out.cell rfl) hv, SP.out v (below_then HWC.out hv)⟩
  obtain ⟨c0, c1, c2, c3⟩ := CH.out we (Below.refl _ _)
  have tok1 : True := trivial
  clear HCI h1 h2 hd2 bde HW
  go_wp2_with fail
  rw [← hwe]
  clear hwe
  go_region_held3 (fun v => v.cell? ⟨wd.heap.size, 4, none⟩ = some (.slice (some ⟨l, 0, none⟩) n n) ∧ v.cell? ⟨wa.heap.size, 0, none⟩ = some (.int .i64 (N : Int)) ∧ v.cell? ⟨wa.heap.size, 1, none⟩ = some (.int .i64 (Q : Int)) ∧ v.cell? ⟨wa.heap.size, 2, none⟩ = some (.int .i64 (S : Int))) (go_keep)
    (first
      | (go_at_call 47; have _t := tok1; refine (HAT.out _).mono ?_; rintro e wf ⟨rfl, hf⟩; have HFf : Hid (Below we.heap.size we wf) := of_drew hf; obtain ⟨f0, f1, f2, f3⟩ := CH.out wf (of_drew hf); clear hf tok1)
      | (go_at_call 47; refine (HAT2.out _).mono ?_; rintro e wg ⟨rfl, hg⟩; have HG : Hid (Below we.heap.size we wg) := below_then HFf.out hg; obtain ⟨g0, g1, g2, g3⟩ := CH.out wg HG.out; have HX : Hid (ImR wb.heap.size wg l n A1 C1 F) := HIR.out.below HG.out; have hclr := fun ty => Lib.run_clear_slice (P := Try.prog) wg 25 33 ty (.slice none 0 0) Try.underlying25 Try.zeroValue33 rfl rfl l a0 (en - a0) (n - a0) hct1 (fun j hj => by rw [HX.out.1.cell (a0 + j) (by omega)]; rfl) (fun j hj => HX.out.1.free (a0 + j) (by omega)); obtain ⟨wh, hwh⟩ : ∃ wh, wh = wg.setCells l a0 (List.replicate (en - a0) (.slice none 0 0)) := ⟨_, rfl⟩; rw [← hwh] at hclr; have HOH : Hid (Only (fun b => b = l) wg wh) := (by rw [hwh]; exact Only.setCells (X := fun b => b = l) rfl _ _ (Only.refl _ _)); have HXX : Hid (∃ A' C', ImR wb.heap.size wh l n A' C' (clrF a0 (en - a0) F)) := (by rw [hwh]; exact HX.out.clear (en - a0) a0); have e0 := HOH.out.cell g0 (show ¬ (wd.heap.size = l) by omega); have e1 := HOH.out.cell g1 (show ¬ (wa.heap.size = l) by omega); have e2 := HOH.out.cell g2 (show ¬ (wa.heap.size = l) by omega); have e3 := HOH.out.cell g3 (show ¬ (wa.heap.size = l) by omega); clear hg hwh))
  all_goals
    have HO2 : Hid (Only (fun b => b = l) we wh) := (Only.of_below HG.out).trans HOH.out
    obtain ⟨⟨a0', a1', a2', a3', a4'⟩, a5'⟩ := MH.out we (below_then HBb.out HWC.out)
    have hne : ¬ (w.heap.size + 1 = l) := by omega
    have m0 := HO2.out.cell a0' hne
    have m1 := HO2.out.cell a1' hne
    have m2 := HO2.out.cell a2' hne
    have m3 := HO2.out.cell a3' hne
    have m4 := HO2.out.cell a4' hne
    have m5 := fun i => (World.frozen?_of_block (a := ⟨w.heap.size + 1, i, none⟩) (HO2.out.block (w.heap.size + 1) (by omega) hne)).trans (a5' i)
    have hv := HVE.out.only HO2.out (by omega)
    have v0 : wh.cell? ⟨wd.heap.size, 0, none⟩ = some (.int .i64 k) := hv.cell rfl
    have v1 : wh.cell? ⟨wd.heap.size, 1, none⟩ = some (.int .i64 r) := hv.cell rfl
    have v2 : wh.cell? ⟨wd.heap.size, 2, none⟩ = some (.int .i64 c) := hv.cell rfl
    have v3 : wh.cell? ⟨wd.heap.size, 3, none⟩ = some (.int .i64 q) := hv.cell rfl
    have v4 : wh.cell? ⟨wd.heap.size, 4, none⟩ = some (.slice (some ⟨l, 0, none⟩) n n) := hv.cell rfl
    clear hv a0' a1' a2' a3' a4' a5'
    go_wp2_with fail
    refine bodyPost_ret (v := .tuple #[.agg #[.int .i64 k, .int .i64 r, .int .i64 c, .int .i64 q, .slice (some ⟨l, 0, none⟩) n n], .int .i64 0]) (by simp [results, Try.results16, go_sem, m0, m1, m2, m3, m4]) rfl ?_
    obtain ⟨A', C', hs1⟩ := HXX.out
    have hO := only5 wh (w.heap.size + 1) (.int .i64 k) (.int .i64 r) (.int .i64 c) (.int .i64 q) (.slice (some ⟨l, 0, none⟩) n n)
    have hs2 := ((hs1.only hO (fun b h => by omega)).congr fun j _ => HWP.out j).mono (B' := w.heap.size) (by omega)
    have hbw : Below w.heap.size w wh := HWE.out.trans (HO2.out.below (fun i h => by omega) (by omega))
    exact ⟨some ⟨l, 0, none⟩, A', C', rfl, .inr ⟨l, rfl, hs2.1, hs2.2⟩, hbw.trans (hO.below (fun b h => by omega) hbw.size)⟩
end
theorem Wiped_any {k r c q : Int} {n : Nat} {F : Nat → List UInt8} {d x k' r' c' q' : Int} {n' : Nat} {F' : Nat → List UInt8} (h : Wip k r c q n F d x k' r' c' q' n' F') (lo : Option Addr) (cl : Nat) (A : Nat → Option Addr) (C : Nat → Nat) (w : World) (hl : Lst w lo n A C F) :
    Calls Try.prog 16 #[.agg #[.int .i64 k, .int .i64 r, .int .i64 c, .int .i64 q, .slice lo n cl], .int .i64 d] w fun e w' => ∃ lo' A' C', e = .returned (.tuple #[.agg #[.int .i64 k', .int .i64 r', .int .i64 c', .int .i64 q', .slice lo' n' n'], .int .i64 x]) ∧ Im w.heap.size w' lo' n' A' C' F' ∧ Below w.heap.size w w' := by
  obtain ⟨y, N, Q, S, hck, hc⟩ := h
  rcases hc with ⟨rfl, h1, h2, rfl, rfl, rfl, rfl, rfl, rfl, rfl⟩ | ⟨⟨rfl, rfl, rfl, rfl, rfl, rfl⟩, hc⟩
  · obtain ⟨dd, rfl⟩ := Int.eq_ofNat_of_zero_le h1
    rw [Int.toNat_natCast]
    exact Wiped_ok hck dd (by omega) lo cl A C w hl
  · rcases hc with ⟨h1, rfl⟩ | ⟨rfl, h1, rfl⟩
    · exact Wiped_e1 hck h1 d lo cl A C w hl
    · exact Wiped_e2 hck d h1 lo cl A C w hl
end Go.Proofs.Ytenlfhdchflnjaa
