/- The walk of the statement that any k rows of the unit matrix and the parity rows can be undone. -/
import Derived.Test.YthkikocacbbhkaaMatN
namespace Go.Proofs.Ythkikocacbbhkaa
open Go.RowKit

theorem info4 : (Try.prog.info? 4).map (fun i => (i.zero, i.size, i.bytes)) = some (some (.bool false), 1, 1) := by kernel_rfl
theorem info3 : (Try.prog.info? 3).map (fun i => (i.zero, i.size, i.bytes)) = some (some (.int .i64 0), 1, 8) := by kernel_rfl
theorem mat_of {w : World} {n cols : Nat} {H : M} {err : Int} {e : Ending} {w' : World} (h : Made w true err n cols H e w') (hn : 0 < n) :
    ∃ l cap G U, e = .returned (.tuple #[.slice (some ⟨l, 0, none⟩) n cap, .int .i64 0]) ∧ Mat w' w.heap.size w'.heap.size l cap n cols G U H ∧ Below w.heap.size w w' := by
  obtain ⟨ao, cap, rfl, ha, hb⟩ := h
  rcases ha with ⟨_, h0, _⟩ | ⟨l, G, U, rfl, hm⟩
  · exact absurd (show n = 0 from h0) (by omega)
  · exact ⟨l, cap, G, U, rfl, hm, hb⟩
set_option maxHeartbeats 400000 in
set_option maxRecDepth 100000 in
theorem one_mat (w : World) (m : Nat) (h1 : 1 ≤ m) (h2 : m ≤ 32) : Calls Try.prog 40 #[.int .i64 (m : Int)] w fun e w' => ∃ l G U, e = .returned (.tuple #[.slice (some ⟨l, 0, none⟩) m m, .int .i64 0]) ∧ Mat w' w.heap.size w'.heap.size l m m m G U one ∧ Below w.heap.size w w' := by
  have W1 := within_any w (m : Int) 32
  rw [show decide (1 ≤ (m : Int) ∧ (m : Int) ≤ 32) = true from decide_eq_true (by omega)] at W1
  have HMD := made_any w m m 54 #[] one (by omega) (by omega) (fun _ _ => rfl) (rule_unit w m m)
  go_enter Try.func40, Try.ntmps40
  go_wp2_with fail
  refine W1.mono ?_
  rintro e w' ⟨rfl, hw'⟩
  obtain rfl := hw'.symm
  go_wp2_with fail
  refine HMD.mono ?_
  rintro e w1 ⟨l, G, U, rfl, hm, hb⟩
  go_wp2_with fail
  go_ret2
  exact ⟨l, G, U, rfl, hm, hb⟩

def join {α : Type} (k : Nat) (f h : Nat → α) (i : Nat) : α := if i < k then f i else h (i - k)
/-- Two matrices, one behind the other, in one list. -/
theorem joined {w w' : World} {B B' T T' l l' cl cl' k r cols g cap : Nat} {G U G' U' : Nat → Nat} {H H' : M} (h : Mat w B T l cl k cols G U H) (h' : Mat w B' T' l' cl' r cols G' U' H') (hl : ∀ i, i < r → G' i ≠ l)
    (hown : w'.ownsRow B 23 1 (.slice (some ⟨g, 0, none⟩) (k + r) cap) (k + r) (rowsOf k (fun i => some ⟨G i, 0, none⟩) (fun _ => cols) U ++ rowsOf r (fun i => some ⟨G' i, 0, none⟩) (fun _ => cols) U')) (hg : w.grownBy w' (some l)) :
    Lst w' (some ⟨g, 0, none⟩) (k + r) (join k (fun i => some ⟨G i, 0, none⟩) (fun i => some ⟨G' i, 0, none⟩)) (join k U U') (fun _ => cols) (fun i j => if i < k then H i j else H' (i - k) j) := by
  refine ⟨fun i hi => ?_, fun _ => ⟨g, 0, rfl, fun i hi => ?_⟩⟩
  · unfold join
    by_cases e : i < k
    · rw [if_pos e]
      have hr := h.row i e
      exact ((hr.of_block (hg.block (G i) hr.lt (fun e' => h.ne_l e (Option.some.inj e')))).rd).congr fun j _ => (if_pos e).symm
    · rw [if_neg e]
      have hi' : i - k < r := by omega
      have hr := h'.row (i - k) hi'
      exact ((hr.of_block (hg.block (G' (i - k)) hr.lt (fun e' => hl _ hi' (Option.some.inj e')))).rd).congr fun j _ => (if_neg e).symm
  · have hget : (rowsOf k (fun i => some ⟨G i, 0, none⟩) (fun _ => cols) U ++ rowsOf r (fun i => some ⟨G' i, 0, none⟩) (fun _ => cols) U')[i]? = some (.slice (join k (fun i => some ⟨G i, 0, none⟩) (fun i => some ⟨G' i, 0, none⟩) i) cols (join k U U' i)) := by
      unfold join
      by_cases e : i < k
      · rw [List.getElem?_append_left (by rw [rowsOf_length]; exact e), rowsOf_get _ _ _ _ _ e, if_pos e, if_pos e]
      · rw [List.getElem?_append_right (by rw [rowsOf_length]; omega), rowsOf_length, rowsOf_get _ _ _ _ _ (by omega), if_neg e, if_neg e]
    have := hown.cells (g := g) rfl i _ hget
    rw [Addr.add_lit] at this
    exact this

theorem RdI.lt {w : World} {ao : Option Addr} {n : Nat} {R : Nat → Int} (h : RdI w ao n R) (hn : 0 < n) : ∀ a, ao = some a → a.block < w.heap.size := by
  obtain ⟨b, off, rfl, hc⟩ := h hn
  rintro a ⟨⟩
  exact World.block_lt_of_cell? w _ (hc 0 hn)
theorem Keeps.grown {B T : Nat} {a w w' : World} {row : Option Nat} (h : Keeps B T a w) (hg : w.grownBy w' row) (hr : ∀ k, row = some k → a.heap.size ≤ k) : Keeps B T a w' :=
  ⟨hg.os.trans h.os, hg.tape.trans h.tape, hg.output.trans h.output, Nat.le_trans h.size hg.size, fun k hk hb => (hg.block k (Nat.lt_of_lt_of_le hk h.size) fun e => by have := hr k e.symm; omega).trans (h.block k hk hb)⟩
theorem grown_set (w : World) (g i : Nat) (v : Value) : w.grownBy (w.setCell ⟨g, i, none⟩ v) (some g) := ⟨rfl, rfl, rfl, by simp [World.setCell], fun k _ hne => Below.heap_setCell _ _ _ _ (fun e => hne (by rw [e]))⟩
theorem size_set (w : World) (a : Addr) (v : Value) : (w.setCell a v).heap.size = w.heap.size := by simp [World.setCell]
theorem owns_old {w : World} {base e n g : Nat} {v : Value} {xs : List Value} (h : w.ownsRow base e 1 v n xs) (hg : g < base) : v.ownBlock = none ∨ v.ownBlock ≠ some g := by
  cases hv : v.ownBlock with
  | none => exact .inl rfl
  | some b => right; intro e; have := (h.lt b hv).1; have := Option.some.inj e; omega
/-- Which numbers have been met. -/
def met (t : Nat) (R : Nat → Nat) (x : Nat) : Value := .bool (decide (∃ s, s < t ∧ R s = x))
theorem nextOf (x : Int) (k r : Nat) (hk : 1 ≤ k) : ∃ n : Nat, n < k + r ∧ (x.tmod ((k : Int) + (r : Int)) + (k : Int) + (r : Int)).tmod ((k : Int) + (r : Int)) = (n : Int) ∧ -((k : Int) + (r : Int)) < x.tmod ((k : Int) + (r : Int)) ∧ x.tmod ((k : Int) + (r : Int)) < (k : Int) + (r : Int) := by
  have hm : (0 : Int) < (k : Int) + (r : Int) := by omega
  have h1 : x.tmod ((k : Int) + (r : Int)) < (k : Int) + (r : Int) := Int.tmod_lt_of_pos x hm
  have h2 : -((k : Int) + (r : Int)) < x.tmod ((k : Int) + (r : Int)) := by
    have := Int.tmod_lt_of_pos (-x) hm
    rw [Int.neg_tmod] at this
    omega
  have h3 := Int.tmod_nonneg ((k : Int) + (r : Int)) (show 0 ≤ x.tmod ((k : Int) + (r : Int)) + (k : Int) + (r : Int) by omega)
  have h4 := Int.tmod_lt_of_pos (x.tmod ((k : Int) + (r : Int)) + (k : Int) + (r : Int)) hm
  obtain ⟨n, hn⟩ := Int.eq_ofNat_of_zero_le h3
  exact ⟨n, by omega, hn, h2, h1⟩

/-- What a walk is told of a slice of integers that came in: nil, or a row of cells. -/
def IsRow (k : IntKind) (w : World) (a : Option Addr) (len cap : Nat) (zs : List Int) : Prop :=
  (a = none ∧ len = 0 ∧ cap = 0 ∧ zs = []) ∨
  ∃ x, a = some x ∧ len ≤ cap ∧ cap ≤ maxLen ∧ zs.length = cap ∧ (∀ i, i < zs.length → w.cell? (x.add i) = some (.int k (zs.getD i 0))) ∧ ∀ n ∈ zs, (Lit.int k n).wf = true
theorem row_rdI {w : World} {a : Option Addr} {len cap : Nat} {zs : List Int} (h : IsRow .i64 w a len cap zs) : RdI w a len (fun i => zs.getD i 0) ∧ len ≤ maxLen := by
  rcases h with ⟨rfl, rfl, rfl, rfl⟩ | ⟨x, rfl, h1, h2, h3, h4, _⟩
  · exact ⟨fun hn => absurd hn (Nat.lt_irrefl 0), Nat.zero_le _⟩
  · refine ⟨fun hp => ?_, by omega⟩
    obtain ⟨b, off, sp⟩ := x
    have hs : sp = none := by have := spot_none (h4 0 (by omega)); rw [Addr.add_zero'] at this; exact this
    subst hs
    refine ⟨b, off, rfl, fun i hi => ?_⟩
    have := h4 i (by omega)
    rwa [Addr.add_lit] at this
end Go.Proofs.Ythkikocacbbhkaa
