/- How the program makes a matrix: row by row, from a rule for its places. -/
import Derived.Test.YthkikocacbbhkaaMatC
import Derived.Deep.RegionHeld3
namespace Go.Proofs.Ythkikocacbbhkaa
open Go.RowKit

theorem info5 : (Try.prog.info? 5).map (fun i => (i.zero, i.size, i.bytes)) = some (some (.int .u8 0), 1, 1) := by kernel_rfl
theorem info34 : (Try.prog.info? 23).map (fun i => (i.zero, i.size, i.bytes)) = some (some (.slice none 0 0), 1, 24) := by kernel_rfl

/-- A function value that answers f i j and leaves all as it was but for draws. -/
def Rule (w : World) (fn : Nat) (cap : Array Value) (rows cols : Nat) (f : M) : Prop :=
  ∀ w' (i j : Nat), Below w.heap.size w w' → i < rows → j < cols → Calls Try.prog fn (#[.int .i64 (i : Int), .int .i64 (j : Int)] ++ cap) w' fun e w'' => e = .returned (.int .u8 ((f i j).n : Int)) ∧ ∃ q, w'' = w'.drewN q

/-- k rows are there. -/
structure Part (w : World) (B rows cols k : Nat) (G : Nat → Nat) (f : M) : Prop where
  lst : ∃ h : Nat → Value, w.rowIs B 23 rows h ∧ ∀ i, i < k → h i = .slice (some ⟨G i, 0, none⟩) cols cols
  row : ∀ i, i < k → Own w (G i) cols cols (f i)
  los : ∀ i, i < k → B < G i
  apart : ∀ i j, i < k → j < k → i ≠ j → G i ≠ G j
theorem Part.mat {w : World} {B rows cols : Nat} {G : Nat → Nat} {f : M} (h : Part w B rows cols rows G f) : Mat w B w.heap.size B rows rows cols G (fun _ => cols) f := by
  obtain ⟨c, hr, hc⟩ := h.lst
  exact ⟨⟨c, hr, hc⟩, Nat.le_refl _, h.row, Nat.le_refl _, hr.lt, fun i hi => Nat.le_of_lt (h.los i hi), fun i hi => (h.row i hi).lt, h.apart⟩

theorem row_made (w : World) (e n : Nat) (z : Value) : (w.alloc (.cells (madeCells #[z] n) e)).rowIs w.heap.size e n (fun _ => z) := by
  refine ⟨_, heap_alloc_new w _, size_madeCells _ _, fun i hi => ?_⟩
  simp [madeCells, hi, Nat.mod_one]
def put {α : Type} (k : Nat) (v : α) (f : Nat → α) (i : Nat) : α := if i = k then v else f i
theorem put_at {α : Type} (k : Nat) (v : α) (f : Nat → α) : put k v f k = v := by simp [put]
theorem put_ne {α : Type} {k i : Nat} (v : α) (f : Nat → α) (h : i ≠ k) : put k v f i = f i := by simp [put, h]
/-- One row more. -/
theorem Part.step {w w' : World} {B rows cols k : Nat} {G : Nat → Nat} {f : M} {z : Nat → K} (h : Part w B rows cols k G f) (hn : Own w' w.heap.size cols cols (upto cols (f k) z))
    (hk : Keeps w.heap.size (w.heap.size + 1) ((w.alloc (.cells (madeCells #[.int .u8 0] cols) 5)).setCell ⟨B, k, none⟩ (.slice (some ⟨w.heap.size, 0, none⟩) cols cols)) w') : Part w' B rows cols (k + 1) (put k w.heap.size G) f := by
  obtain ⟨c, hr, hc⟩ := h.lst
  have hB := hr.lt
  have hr2 : w'.rowIs B 23 rows (fun i => if i = k then .slice (some ⟨w.heap.size, 0, none⟩) cols cols else c i) := by
    have h1 := (hr.of_block (w' := w.alloc (.cells (madeCells #[.int .u8 0] cols) 5)) (Below.heap_alloc _ _ _ hB)).set k (.slice (some ⟨w.heap.size, 0, none⟩) cols cols)
    exact h1.of_block (hk.block B (by simp [World.setCell]; omega) (by omega))
  have old : ∀ i, i < k → w'.heap[G i]? = w.heap[G i]? := fun i hi => by
    have h1 := (h.row i hi).lt
    have h2 := h.los i hi
    rw [hk.block (G i) (by simp [World.setCell]; omega) (by omega), Below.heap_setCell _ _ _ _ (by simp; omega), Below.heap_alloc _ _ _ h1]
  refine ⟨⟨_, hr2, fun i hi => ?_⟩, fun i hi => ?_, fun i hi => ?_, fun i j hi hj hne => ?_⟩
  · by_cases e : i = k
    · subst e; rw [put_at]; simp
    · rw [put_ne _ _ e]; simp only [e, if_false]; exact hc i (by omega)
  · by_cases e : i = k
    · subst e; rw [put_at]; exact hn.all
    · rw [put_ne _ _ e]; exact (h.row i (by omega)).of_block (old i (by omega))
  · by_cases e : i = k
    · subst e; rw [put_at]; exact hB
    · rw [put_ne _ _ e]; exact h.los i (by omega)
  · by_cases e : i = k
    · by_cases e' : j = k
      · omega
      · subst e
        rw [put_at, put_ne _ _ e']
        have := (h.row j (by omega)).lt
        omega
    · by_cases e' : j = k
      · subst e'
        rw [put_at, put_ne _ _ e]
        have := (h.row i (by omega)).lt
        omega
      · rw [put_ne _ _ e, put_ne _ _ e']; exact h.apart i j (by omega) (by omega) hne

set_option maxHeartbeats 1000000 in
set_option maxRecDepth 100000 in
theorem made_any (w : World) (rows cols fn : Nat) (cap : Array Value) (f : M) (hr : rows ≤ 1000) (hc : cols ≤ 1000) (hfn : ∀ xs w, (callFunc fn xs).run Try.prog w = .ok (.enter fn xs) w) (hf : Rule w fn cap rows cols f) :
    Calls Try.prog 53 #[.int .i64 (rows : Int), .int .i64 (cols : Int), .func (.func fn) #[] cap] w fun e w' => ∃ l G U, e = .returned (.slice (some ⟨l, 0, none⟩) rows rows) ∧ Mat w' w.heap.size w'.heap.size l rows rows cols G U f ∧ Below w.heap.size w w' := by
  have HF : Hid (Rule w fn cap rows cols f) := hf
  have hm1 := run_make_row' (P := Try.prog) 24 23 (.slice none 0 0) 24 Try.underlying24 info34 rfl .i64 .i64 rows (by omega) (by omega)
  have hm2 := run_make_row' (P := Try.prog) 23 5 (.int .u8 0) 1 Try.underlying23 info5 rfl .i64 .i64 cols (by omega) (by omega)
  have HM2 : Hid (∀ w, (Instr.makeSlice 23 (.int .i64 (cols : Int)) (.int .i64 (cols : Int))).run Try.prog w = .ok (.slice (some ⟨w.heap.size, 0, none⟩) cols cols) (w.alloc (.cells (madeCells #[.int .u8 0] cols) 5))) := hm2
  clear hf hm2
  go_enter Try.func53, Try.ntmps53
  go_wp2
  go_loopw [14] (fun i wr => ∃ k : Nat, k ≤ rows ∧ i = .int .i64 k ∧ Hid (∃ G, Part wr w.heap.size rows cols k G f) ∧ Hid (Below w.heap.size w wr)) (fun i _ => rows - (intOf i).toNat)
  case atStart => exact ⟨0, Nat.zero_le _, rfl, ⟨fun _ => 0, ⟨_, row_made w 23 rows _, fun i hi => absurd hi (Nat.not_lt_zero i)⟩, fun i hi => absurd hi (Nat.not_lt_zero i), fun i hi => absurd hi (Nat.not_lt_zero i), fun i j hi => absurd hi (Nat.not_lt_zero i)⟩, (Below.refl _ _).alloc (Nat.le_refl _) _⟩
  case round =>
    obtain ⟨k, hk, rfl, hpart, hbel⟩ := hrel
    by_cases hlt : k < rows
    · obtain ⟨G, hp⟩ := hpart.out
      have HP : Hid (Part wr w.heap.size rows cols k G f) := hp
      obtain ⟨c, hrow, _⟩ := hp.lst
      have hB : w.heap.size < wr.heap.size := hrow.lt
      obtain ⟨wa, hwa⟩ : ∃ wa, wa = wr.alloc (.cells (madeCells #[.int .u8 0] cols) 5) := ⟨_, rfl⟩
      have hmk := HM2.out wr
      rw [← hwa] at hmk
      have HWA : Hid (wa = wr.alloc (.cells (madeCells #[.int .u8 0] cols) 5)) := hwa
      have hrow2 : wa.rowIs w.heap.size 23 rows c := by rw [hwa]; exact hrow.of_block (Below.heap_alloc _ _ _ hB)
      have c1 := hrow2.cell hlt
      have z1 := hrow2.frozen k
      have hrow3 := hrow2.set k (.slice (some ⟨wr.heap.size, 0, none⟩) cols cols)
      have c2 : (wa.setCell ⟨w.heap.size, k, none⟩ (.slice (some ⟨wr.heap.size, 0, none⟩) cols cols)).cell? ⟨w.heap.size, k, none⟩ = some (.slice (some ⟨wr.heap.size, 0, none⟩) cols cols) := by rw [hrow3.cell hlt]; simp
      have HO : Hid (Own (wa.setCell ⟨w.heap.size, k, none⟩ (.slice (some ⟨wr.heap.size, 0, none⟩) cols cols)) wr.heap.size cols cols (upto 0 (f k) fun _ => 0)) :=
        Own.of_block (w := wa) ⟨Nat.le_refl _, by unfold maxLen; omega, _, by rw [hwa]; exact row_made wr 5 cols _, fun i _ => by rw [upto_zero]; rfl⟩ (Below.heap_setCell _ _ _ _ (by simp; omega))
      have HBW : Hid (Below w.heap.size w (wa.setCell ⟨w.heap.size, k, none⟩ (.slice (some ⟨wr.heap.size, 0, none⟩) cols cols))) := by
        rw [hwa]
        exact ((hbel.out.alloc (by omega) _)).trans ⟨rfl, rfl, rfl, by simp [World.setCell], fun i hi => Below.heap_setCell _ _ _ _ (by simp; omega)⟩
      clear hp hpart hrow hrow2 hrow3 hwa
      have i1 : (0 : Int) ≤ (k : Int) := by omega
      have i2 : (k : Int) < (rows : Int) := by omega
      obtain ⟨wm, hwm⟩ : ∃ x, x = wr := ⟨wr, rfl⟩
      go_wp2
      clear hmk c1 z1
      obtain ⟨w2, hw2⟩ : ∃ w2, w2 = wa.setCell ⟨w.heap.size, k, none⟩ (.slice (some ⟨wr.heap.size, 0, none⟩) cols cols) := ⟨_, rfl⟩
      rw [← hw2] at c2 HO HBW ⊢
      have HW2 : Hid (w2 = wa.setCell ⟨w.heap.size, k, none⟩ (.slice (some ⟨wr.heap.size, 0, none⟩) cols cols)) := hw2
      clear hw2
      obtain ⟨g, hg⟩ : ∃ g, g = wr.heap.size := ⟨_, rfl⟩
      rw [← hg] at c2 HO hB ⊢
      have HG : Hid (g = wm.heap.size) := by rw [hwm]; exact hg
      have HP2 : Hid (Part wm w.heap.size rows cols k G f) := by rw [hwm]; exact HP.out
      have HW3 : Hid (w2 = (wm.alloc (.cells (madeCells #[.int .u8 0] cols) 5)).setCell ⟨w.heap.size, k, none⟩ (.slice (some ⟨wm.heap.size, 0, none⟩) cols cols)) := by rw [hwm, HW2.out, HWA.out]; exact rfl
      clear hg hwm HP HW2 HWA
      go_loopw [27] (fun i wx => ∃ j : Nat, j ≤ cols ∧ i = .int .i64 j ∧ Hid (Own wx g cols cols (upto j (f k) fun _ => 0)) ∧ Hid (Keeps g (g + 1) w2 wx)) (fun i _ => cols - (intOf i).toNat)
      case atStart => exact ⟨0, Nat.zero_le _, rfl, HO.out, Keeps.refl _ _ _⟩
      case round =>
        obtain ⟨j, hj, rfl, hown, hkeep⟩ := hrel
        have hbw : Below w.heap.size w wr := HBW.out.trans (hkeep.out.below HBW.out.size (by omega))
        by_cases hjc : j < cols
        · have d1 : wr.cell? ⟨w.heap.size, k, none⟩ = some (.slice (some ⟨g, 0, none⟩) cols cols) := hkeep.out.cell c2 (by simp only; omega)
          have d2 := hown.out.cell hjc
          have z2 := hown.out.frozen j
          have HC : Hid (∀ q, Calls Try.prog fn (#[.int .i64 (k : Int), .int .i64 (j : Int)] ++ cap) (wr.drewN q) fun e w'' => e = .returned (.int .u8 ((f k j).n : Int)) ∧ ∃ q', w'' = (wr.drewN q).drewN q') := fun q => HF.out _ k j ⟨hbw.os, hbw.tape, hbw.output, hbw.size, hbw.block⟩ hlt hjc
          have i3 : (0 : Int) ≤ (j : Int) := by omega
          have i4 : (j : Int) < (cols : Int) := by omega
          clear hbw
          have kk : ∀ m v, ((wr.drewN m).setCell ⟨g, j, none⟩ v).cell? ⟨w.heap.size, k, none⟩ = some (.slice (some ⟨g, 0, none⟩) cols cols) := fun m v => (World.cell?_of_block (Below.heap_setCell _ _ _ _ (by simp; omega))).trans d1
          go_wp2
          go_region_held3 (fun w' => w'.cell? ⟨w.heap.size, k, none⟩ = some (.slice (some ⟨g, 0, none⟩) cols cols)) (go_keep) ((refine (HC.out 1).mono ?_; rintro e w' ⟨rfl, q, rfl⟩))
          have HO2 : Hid (Own ((wr.drewN (1 + q)).setCell ⟨g, j, none⟩ (.int .u8 ((f k j).n : Int))) g cols cols (upto (j + 1) (f k) fun _ => 0)) := (hown.out.of_block (w' := wr.drewN (1 + q)) rfl).store
          have HK2 : Hid (Keeps g (g + 1) w2 ((wr.drewN (1 + q)).setCell ⟨g, j, none⟩ (.int .u8 ((f k j).n : Int)))) := (hkeep.out.drewN (1 + q)).setCell (Nat.le_refl _) (by omega) j _
          clear kk
          go_wp2
          go_roundw
          case rel => exact ⟨j + 1, by omega, by go_num, HO2.out, HK2.out⟩
          case measure => simp [intOf]; omega
        · obtain rfl : j = cols := by omega
          have HS : Hid (∃ G, Part wr w.heap.size rows j (k + 1) G f) := by
            have e1 := HG.out
            have e2 := HW3.out
            have o1 := hown.out
            have k1 := hkeep.out
            rw [e2] at k1
            rw [e1] at o1 k1
            exact ⟨_, HP2.out.step o1 k1⟩
          have HB2 : Hid (Below w.heap.size w wr) := hbw
          clear hbw
          go_wp2
          go_roundw
          case rel => exact ⟨k + 1, by omega, by go_num, HS.out, HB2.out⟩
          case measure => simp [intOf]; omega
    · obtain rfl : k = rows := by omega
      go_wp2
      go_ret
      obtain ⟨G, hp⟩ := hpart.out
      exact ⟨_, G, _, rfl, hp.mat, hbel.out⟩

theorem unit_any (w : World) (i j : Nat) : Calls Try.prog 54 #[.int .i64 (i : Int), .int .i64 (j : Int)] w fun e w' => e = .returned (.int .u8 ((one i j).n : Int)) ∧ w' = w := by
  by_cases h : i = j
  · have hb : ((i : Int) == (j : Int)) = true := by simp [h]
    rw [show (one i j).n = 1 by rw [one, if_pos h]; rfl]
    clear h
    go_enter Try.func54, Try.ntmps54
    go_wp2
    go_ret
    exact ⟨rfl, rfl⟩
  · have hb : ((i : Int) == (j : Int)) = false := by simp; omega
    rw [show (one i j).n = 0 by rw [one, if_neg h]; rfl]
    clear h
    go_enter Try.func54, Try.ntmps54
    go_wp2
    go_ret
    exact ⟨rfl, rfl⟩
theorem within_any (w : World) (n m : Int) : Calls Try.prog 52 #[.int .i64 n, .int .i64 m] w fun e w' => e = .returned (.bool (decide (1 ≤ n ∧ n ≤ m))) ∧ w' = w := by
  by_cases h : 1 ≤ n
  · by_cases g : n ≤ m
    · rw [show decide (1 ≤ n ∧ n ≤ m) = true by simp [h, g]]
      go_enter Try.func52, Try.ntmps52
      go_wp2
      go_ret
      exact ⟨by simp, rfl⟩
    · rw [show decide (1 ≤ n ∧ n ≤ m) = false by simp [g]]
      go_enter Try.func52, Try.ntmps52
      go_wp2
      go_ret
      exact ⟨by simp, rfl⟩
  · rw [show decide (1 ≤ n ∧ n ≤ m) = false by simp [h]]
    go_enter Try.func52, Try.ntmps52
    go_wp2
    go_ret
    exact ⟨by simp, rfl⟩
end Go.Proofs.Ythkikocacbbhkaa
