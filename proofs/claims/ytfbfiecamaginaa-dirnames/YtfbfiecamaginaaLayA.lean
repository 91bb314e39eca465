/- What the layout's small functions answer: whether parameters may be, and the numbers that hang on them. -/
import Derived.Test.YtfbfiecamaginaaProg
import Derived.Test.YtfbfiecamaginaaLayMath
import Derived.WalkKit
import Derived.WalkSpells
import Derived.WalkLawsBesides
import Derived.Below
import Derived.Deep.RegionHeld3
namespace Go.Proofs.Ytfbfiecamaginaa
open Go.RowKit

theorem below_step {B : Nat} {a b c : World} (h : Below B a b) (k : Below b.heap.size b c) (hB : B ≤ b.heap.size) : Below B a c := h.trans (k.mono hB)
theorem below_then {a b c : World} (h : Below a.heap.size a b) (k : Below b.heap.size b c) : Below a.heap.size a c := below_step h k h.size
theorem below_alloc (w : World) (o : Obj) : Below w.heap.size w (w.alloc o) := (Below.refl _ w).alloc (Nat.le_refl _) o
theorem below_drew (B : Nat) (w : World) : Below B w w.drew := ⟨rfl, rfl, rfl, Nat.le_refl _, fun _ _ => rfl⟩
theorem held {w w' : World} {a : Addr} {v : Value} (h : w.cell? a = some v) (hb : Below w.heap.size w w') : w'.cell? a = some v := (hb.cell (World.block_lt_of_cell? w _ h)).trans h
theorem ret_int {k : IntKind} {a b : Int} (h : a = b) : Ending.returned (.int k a) = .returned (.int k b) := by rw [h]
theorem ret_bool {a b : Bool} (h : a = b) : Ending.returned (.bool a) = .returned (.bool b) := by rw [h]
/-- A block's cells, and that none is frozen, behind whatever leaves what was there. -/
theorem blk_held {w w0 w1 : World} {cs : Array Value} {t : TypeId} (h0 : w0 = w.alloc (.cells cs t)) (hb : Below w0.heap.size w0 w1) (i : Nat) {v : Value} (hi : cs[i]? = some v) : w1.cell? ⟨w.heap.size, i, none⟩ = some v := by
  subst h0
  rw [World.cell?_of_block (hb.block w.heap.size (by simp)), cell_of_row _ _ _ _ _ _ (heap_alloc_new w _)]
  exact hi
theorem blk_free {w w0 w1 : World} {cs : Array Value} {t : TypeId} (h0 : w0 = w.alloc (.cells cs t)) (hb : Below w0.heap.size w0 w1) (i : Nat) : w1.frozen? ⟨w.heap.size, i, none⟩ = false := by
  subst h0
  rw [World.frozen?_of_block (hb.block w.heap.size (by simp))]
  unfold World.frozen?
  rw [heap_alloc_new w _]
  simp
theorem par_held {w w0 w1 : World} {x0 x1 x2 x3 : Value} {t : TypeId} (h0 : w0 = w.alloc (.cells #[x0, x1, x2, x3] t)) (hb : Below w0.heap.size w0 w1) :
    w1.cell? ⟨w.heap.size, 0, none⟩ = some x0 ∧ w1.cell? ⟨w.heap.size, 1, none⟩ = some x1 ∧ w1.cell? ⟨w.heap.size, 2, none⟩ = some x2 ∧ w1.cell? ⟨w.heap.size, 3, none⟩ = some x3 :=
  ⟨blk_held h0 hb 0 rfl, blk_held h0 hb 1 rfl, blk_held h0 hb 2 rfl, blk_held h0 hb 3 rfl⟩
theorem mea_held {w w0 w1 : World} {x0 x1 x2 x3 x4 : Value} {t : TypeId} (h0 : w0 = w.alloc (.cells #[x0, x1, x2, x3, x4] t)) (hb : Below w0.heap.size w0 w1) :
    w1.cell? ⟨w.heap.size, 0, none⟩ = some x0 ∧ w1.cell? ⟨w.heap.size, 1, none⟩ = some x1 ∧ w1.cell? ⟨w.heap.size, 2, none⟩ = some x2 ∧ w1.cell? ⟨w.heap.size, 3, none⟩ = some x3 ∧ w1.cell? ⟨w.heap.size, 4, none⟩ = some x4 :=
  ⟨blk_held h0 hb 0 rfl, blk_held h0 hb 1 rfl, blk_held h0 hb 2 rfl, blk_held h0 hb 3 rfl, blk_held h0 hb 4 rfl⟩
theorem w64 (n : Int) (h : -9223372036854775808 ≤ n ∧ n ≤ 9223372036854775807) : wrap64 n = n := by unfold wrap64; omega
theorem wrap_wide {k c : Int} (h1 : 1 ≤ k) (h2 : k ≤ 12) (h3 : 8 ≤ c) (h4 : c ≤ 64) : wrap64 (k * c) = k * c := by
  have := may_wide h1 h2 h3 h4
  unfold wrap64; omega

set_option maxHeartbeats 400000 in
theorem within_any (n a b : Int) (w : World) :
    Calls Try.prog 56 #[.int .i64 n, .int .i64 a, .int .i64 b] w fun e w' => e = .returned (.bool (decide (a ≤ n ∧ n ≤ b))) ∧ w' = w := by
  rw [Bool.decide_and]
  go_enter Try.func56, Try.ntmps56
  go_wp2
  · go_ret
    exact ⟨ret_bool (by rw [decide_eq_true (show a ≤ n by omega)]; rfl), rfl⟩
  · go_ret
    exact ⟨ret_bool (by rw [decide_eq_false (show ¬ a ≤ n by omega)]; rfl), rfl⟩
set_option maxHeartbeats 400000 in
theorem W_any (k r c q : Int) (w : World) :
    Calls Try.prog 61 #[.agg #[.int .i64 k, .int .i64 r, .int .i64 c, .int .i64 q]] w fun e w' => e = .returned (.int .i64 (wrap64 (k * c))) ∧ Below w.heap.size w w' := by
  go_enter Try.func61, Try.ntmps61
  go_wp2
  go_ret
  exact ⟨rfl, below_alloc _ _⟩
theorem may_decide (k r c q : Int) : may k r c q = decide (1 ≤ k ∧ k ≤ 12 ∧ 0 ≤ r ∧ r ≤ 4 ∧ 8 ≤ c ∧ c ≤ 64 ∧ 32 ≤ k * c ∧ 8 ≤ q ∧ q ≤ 256) := rfl
set_option maxHeartbeats 400000 in
set_option maxRecDepth 100000 in
theorem May_any (k r c q : Int) (w : World) :
    Calls Try.prog 49 #[.agg #[.int .i64 k, .int .i64 r, .int .i64 c, .int .i64 q]] w fun e w' => e = .returned (.bool (may k r c q)) ∧ Below w.heap.size w w' := by
  have HW : Hid (1 ≤ k → k ≤ 12 → 8 ≤ c → c ≤ 64 → wrap64 (k * c) = k * c) := wrap_wide
  go_enter Try.func49, Try.ntmps49
  go_wp2
  all_goals (go_ret; have := HW.out; refine ⟨ret_bool ?_, below_alloc _ _⟩; rw [may_decide]; first | exact decide_eq_decide.2 (by omega) | exact (decide_eq_false (by omega)).symm)
def erP (k r c q : Int) : Int := if may k r c q = true then 0 else 2
set_option maxHeartbeats 400000 in
set_option maxRecDepth 100000 in
theorem Check_any (k r c q : Int) (w : World) :
    Calls Try.prog 39 #[.agg #[.int .i64 k, .int .i64 r, .int .i64 c, .int .i64 q]] w fun e w' => e = .returned (.int .i64 (erP k r c q)) ∧ Below w.heap.size w w' := by
  have HW : Hid (1 ≤ k → k ≤ 12 → 8 ≤ c → c ≤ 64 → wrap64 (k * c) = k * c) := wrap_wide
  go_enter Try.func39, Try.ntmps39
  go_wp2_with (go_at_call 56; refine (within_any _ _ _ _).mono ?_; rintro e w' ⟨rfl, hw'⟩; obtain rfl := hw'.symm)
  all_goals (go_ret; have := HW.out; refine ⟨ret_int ?_, below_alloc _ _⟩; unfold erP; rw [may_decide]; first | (rw [if_pos (decide_eq_true (by omega))]; done) | (rw [if_neg (by rw [decide_eq_true_eq]; omega)]; done))
/-- What parameters come to: N drives, W bytes, the error. -/
def Par (k r c q : Int) (N W : Nat) (e : Int) : Prop := (may k r c q = true ∧ (W : Int) = k * c ∧ (N : Int) = k + r ∧ e = 0) ∨ (may k r c q = false ∧ W = 0 ∧ N = 0 ∧ e = 2)
theorem par_any (k r c q : Int) : ∃ N W e, Par k r c q N W e := by
  cases h : may k r c q
  · exact ⟨0, 0, 2, .inr ⟨h, rfl, rfl, rfl⟩⟩
  · obtain ⟨h1, h2, h3, h4, h5, h6, h7, h8, h9⟩ := may_true h
    exact ⟨(k + r).toNat, (k * c).toNat, 0, .inl ⟨h, by omega, by omega, rfl⟩⟩
theorem Par.wide {k r c q : Int} {N W : Nat} {e : Int} (h : Par k r c q N W e) : W ≤ 768 := by
  rcases h with ⟨h, h0, _⟩ | ⟨_, h0, _⟩
  · obtain ⟨h1, h2, h3, h4, h5, h6, h7, h8, h9⟩ := may_true h
    have := may_wide h1 h2 h5 h6
    omega
  · omega

set_option maxHeartbeats 400000 in
set_option maxRecDepth 100000 in
theorem D_good (k r c q : Int) (w : World) (W : Nat) (h : wrap64 (k * c) = (W : Int)) (h1 : 32 ≤ W) (h2 : W ≤ 768) :
    Calls Try.prog 59 #[.agg #[.int .i64 k, .int .i64 r, .int .i64 c, .int .i64 q]] w fun e w' => e = .returned (.int .i64 ((dir W : Nat) : Int)) ∧ Below w.heap.size w w' := by
  have HM := W_any k r c q (w.alloc (.cells #[.int .i64 k, .int .i64 r, .int .i64 c, .int .i64 q] 24))
  rw [h] at HM
  go_enter Try.func59, Try.ntmps59
  go_wp2_with (go_at_call 61; refine HM.mono ?_; rintro e w' ⟨rfl, hb⟩)
  go_ret
  exact ⟨ret_int (by unfold dir; omega), below_then (below_alloc _ _) hb⟩
set_option maxHeartbeats 400000 in
set_option maxRecDepth 100000 in
theorem L_good (k r c q : Int) (w : World) (W : Nat) (h : wrap64 (k * c) = (W : Int)) (h1 : 32 ≤ W) (h2 : W ≤ 768) :
    Calls Try.prog 60 #[.agg #[.int .i64 k, .int .i64 r, .int .i64 c, .int .i64 q]] w fun e w' => e = .returned (.int .i64 ((lea W : Nat) : Int)) ∧ Below w.heap.size w w' := by
  have HM := W_any k r c q (w.alloc (.cells #[.int .i64 k, .int .i64 r, .int .i64 c, .int .i64 q] 24))
  rw [h] at HM
  go_enter Try.func60, Try.ntmps60
  go_wp2_with (go_at_call 61; refine HM.mono ?_; rintro e w' ⟨rfl, hb⟩)
  go_ret
  exact ⟨ret_int (by unfold lea; omega), below_then (below_alloc _ _) hb⟩
set_option maxHeartbeats 400000 in
set_option maxRecDepth 100000 in
theorem M_good (k r c q : Int) (w : World) (W : Nat) (h : wrap64 (k * c) = (W : Int)) (h1 : 32 ≤ W) (h2 : W ≤ 768) :
    Calls Try.prog 47 #[.agg #[.int .i64 k, .int .i64 r, .int .i64 c, .int .i64 q]] w fun e w' => e = .returned (.int .i64 ((mst W : Nat) : Int)) ∧ Below w.heap.size w w' := by
  have HD := fun w => D_good k r c q w W h h1 h2
  have HL := fun w => L_good k r c q w W h h1 h2
  have HW := fun w => W_any k r c q w
  have HE : Hid (mst W = min 32768 (dir W * lea W * W)) := rfl
  have d1 := dir_le h2
  have l1 := lea_le h2
  have p1 := dl_le h2
  have p2 := dlw_le h2
  rw [h] at HW
  generalize dir W = d at *
  generalize lea W = l at *
  have q1 : (0 : Int) ≤ (d : Int) * (l : Int) ∧ (d : Int) * (l : Int) ≤ 16128 := by rw [← Int.natCast_mul]; omega
  have q2 : (0 : Int) ≤ (d : Int) * (l : Int) * (W : Int) ∧ (d : Int) * (l : Int) * (W : Int) ≤ 12386304 := by rw [← Int.natCast_mul, ← Int.natCast_mul]; omega
  obtain ⟨p, hp⟩ : ∃ p : Nat, (p : Int) = (d : Int) * (l : Int) * (W : Int) := ⟨d * l * W, by rw [Int.natCast_mul, Int.natCast_mul]⟩
  have e1 : IntKind.i64.wrap ((d : Int) * (l : Int)) = (d : Int) * (l : Int) := by rw [IntKind.wrap_i64]; omega
  have HP : Hid (IntKind.i64.wrap (IntKind.i64.wrap ((d : Int) * (l : Int)) * (W : Int)) = (p : Int)) := by show _ = _; rw [e1, hp, IntKind.wrap_i64]; omega
  have HE2 : Hid ((if (p : Int) < 32768 then (p : Int) else 32768) = ((mst W : Nat) : Int)) := by
    show _ = _
    rw [← Int.natCast_mul, ← Int.natCast_mul] at hp
    rw [HE.out]; split <;> omega
  clear e1 hp q1 q2
  clear HE h p1 p2
  obtain ⟨w0, hw0⟩ : ∃ w0, w0 = w.alloc (.cells #[.int .i64 k, .int .i64 r, .int .i64 c, .int .i64 q] 24) := ⟨_, rfl⟩
  have b0 : Below w.heap.size w w0 := by rw [hw0]; exact below_alloc _ _
  obtain ⟨s0, s1, s2, s3⟩ := par_held hw0 (Below.refl _ _)
  go_enter Try.func47, Try.ntmps47
  go_wp2_with fail
  rw [← hw0]
  clear hw0
  go_region_held3 (fun w' => w'.cell? ⟨w.heap.size, 0, none⟩ = some (.int .i64 k) ∧ w'.cell? ⟨w.heap.size, 1, none⟩ = some (.int .i64 r) ∧ w'.cell? ⟨w.heap.size, 2, none⟩ = some (.int .i64 c) ∧ w'.cell? ⟨w.heap.size, 3, none⟩ = some (.int .i64 q)) (go_keep)
    ((first
      | (go_at_call 59; refine (HD _).mono ?_; rintro e wa ⟨rfl, ha⟩; have t0 := held (w := w0.drew) s0 ha; have t1 := held (w := w0.drew) s1 ha; have t2 := held (w := w0.drew) s2 ha; have t3 := held (w := w0.drew) s3 ha)
      | (go_at_call 60; refine (HL _).mono ?_; rintro e wb ⟨rfl, hb⟩; have u0 := held t0 hb; have u1 := held t1 hb; have u2 := held t2 hb; have u3 := held t3 hb)
      | (go_at_call 61; refine (HW _).mono ?_; rintro e wc ⟨rfl, hc⟩; have v0 := held u0 hc; have v1 := held u1 hc; have v2 := held u2 hc; have v3 := held u3 hc)))
  rw [HP.out, HE2.out]
  go_wp2
  go_ret
  exact ⟨rfl, below_then (below_then (below_then (below_then b0 (below_drew _ _)) ha) hb) hc⟩

end Go.Proofs.Ytfbfiecamaginaa
