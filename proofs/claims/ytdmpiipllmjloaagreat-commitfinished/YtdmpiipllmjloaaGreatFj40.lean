/- DsMath DsA StQ: what is needed of them. -/
import Derived.Laws.AppendOwnNone
import Derived.Laws.OwnMore
import Derived.Laws.BytesArg
import Derived.Laws.CopyOwn
import Derived.Laws.IdiomStrings
import Derived.Laws.Rows
import Derived.Laws.BitsAllLaws
import Derived.Deep.AppendLies
import Derived.Deep.OwnRows
import Derived.Deep.RegionLawGrows
import Derived.Lib.SliceRun
import Derived.BigQuiet
import Derived.StillTailTactics
import Derived.WalkMore
import Derived.Test.YtdmpiipllmjloaaGreatFj4
import Derived.Test.YtdmpiipllmjloaaGreatFj12
import Derived.Test.YtdmpiipllmjloaaGreatFj29
import Derived.Test.YtdmpiipllmjloaaGreatFj39
namespace Go.Proofs.YtdmpiipllmjloaaGreat.De
theorem nm_move (F : Nat → UInt8) (a o k : Nat) : nm (fun j => F (a + j)) o k = nm F (a + o) k := nm_congr fun i _ => by rw [Nat.add_assoc]
/-- May a ref be, of q rows? -/
def okR (q a v : Int) : Bool := decide (0 ≤ a ∧ a < q ∧ 1 ≤ v ∧ v ≤ 1073741824)
def okL (q : Int) (n : Nat) (R V : Nat → Int) : Bool := decide (∀ i, i < n → okR q (R i) (V i) = true)
theorem okL_congr {q : Int} {n : Nat} {R V R' V' : Nat → Int} (h : ∀ i, i < n → R i = R' i ∧ V i = V' i) : okL q n R V = okL q n R' V' := by
  unfold okL
  apply decide_eq_decide.2
  constructor
  · intro k i hi; rw [← (h i hi).1, ← (h i hi).2]; exact k i hi
  · intro k i hi; rw [(h i hi).1, (h i hi).2]; exact k i hi
theorem okL_any (q : Int) (n : Nat) (R V : Nat → Int) : anyB n (fun i => !okR q (R i) (V i)) = !okL q n R V := by
  unfold anyB okL
  congr 1
  apply decide_eq_decide.2
  constructor
  · intro h i hi
    have h2 : (!okR q (R i) (V i)) = false := h i hi
    simpa using h2
  · intro h i hi
    show (!okR q (R i) (V i)) = false
    rw [h i hi]; rfl
/-- How many refs a descriptor has, of an object of s stripes; its depth. -/
def cntD (W s : Nat) : Nat := if lvs W s = 0 then s else lvs W s
def dpt (W s : Nat) : Nat := min (lvs W s) 1
/-- May a descriptor be, of parameters that may? -/
def okD (W : Nat) (q len dep : Int) (n : Nat) (R V : Nat → Int) : Bool :=
  decide (0 ≤ len ∧ len ≤ (mst W : Int) ∧ dep = ((dpt W (up len.toNat W) : Nat) : Int) ∧ n = cntD W (up len.toNat W) ∧ okL q n R V = true)
theorem okD_true {W : Nat} {q len dep : Int} {n : Nat} {R V : Nat → Int} (h : okD W q len dep n R V = true) : 0 ≤ len ∧ len ≤ (mst W : Int) ∧ dep = ((dpt W (up len.toNat W) : Nat) : Int) ∧ n = cntD W (up len.toNat W) ∧ okL q n R V = true := of_decide_eq_true h
theorem okD_congr {W : Nat} {q len dep : Int} {n : Nat} {R V R' V' : Nat → Int} (h : ∀ i, i < n → R i = R' i ∧ V i = V' i) : okD W q len dep n R V = okD W q len dep n R' V' := by
  unfold okD; rw [okL_congr h]
theorem cntD_few {W len : Nat} (h : 32 ≤ W) (hl : len ≤ mst W) : cntD W (up len W) ≤ dir W := by
  unfold cntD
  split
  · rename_i h0
    have := (lvs_pos (s := up len W) h)
    omega
  · exact Nat.le_trans (lvs_mono (up_mono hl)) (lvs_top h)
theorem dir_room {W : Nat} (h : 32 ≤ W) : 7 + 6 * dir W ≤ W := by unfold dir; omega
theorem okD_few {W : Nat} {q len dep : Int} {n : Nat} {R V : Nat → Int} (hW : 32 ≤ W) (h : okD W q len dep n R V = true) : n ≤ dir W ∧ len.toNat ≤ 32768 ∧ 0 ≤ len ∧ (dep = 0 ∨ dep = 1) ∧ okL q n R V = true := by
  obtain ⟨h1, h2, h3, h4, h5⟩ := okD_true h
  have hm := mst_le W
  refine ⟨by rw [h4]; exact cntD_few hW (by omega), by omega, h1, ?_, h5⟩
  rw [h3]
  unfold dpt
  omega
/-- What refs bytes are, from o on. -/
def rdR (F : Nat → UInt8) (o i : Nat) : Int := ((nm F (o + 6 * i) 2 : Nat) : Int)
def rdV (F : Nat → UInt8) (o i : Nat) : Int := ((nm F (o + 6 * i + 2) 4 : Nat) : Int)
/-- Are the W bytes F a descriptor that may be? -/
def isD (W : Nat) (q : Int) (F : Nat → UInt8) : Bool := decide (okD W q ((nm F 0 4 : Nat) : Int) ((nm F 4 1 : Nat) : Int) (nm F 5 2) (rdR F 7) (rdV F 7) = true ∧ ∀ j, j < W → 7 + 6 * nm F 5 2 ≤ j → F j = 0)
theorem isD_true {W : Nat} {q : Int} {F : Nat → UInt8} (h : isD W q F = true) : okD W q ((nm F 0 4 : Nat) : Int) ((nm F 4 1 : Nat) : Int) (nm F 5 2) (rdR F 7) (rdV F 7) = true ∧ ∀ j, j < W → 7 + 6 * nm F 5 2 ≤ j → F j = 0 := of_decide_eq_true h
def erB (y : Int) (W : Nat) (q : Int) (m : Nat) (F : Nat → UInt8) : Int := if y = 0 then (if m = W then (if isD W q F = true then 0 else 150) else 20) else y
theorem erB_of {y : Int} {W : Nat} {q : Int} {m : Nat} {F : Nat → UInt8} (h : erB y W q m F = 0) : y = 0 ∧ m = W ∧ isD W q F = true := by
  unfold erB at h
  by_cases hy : y = 0
  · rw [if_pos hy] at h
    by_cases hm : m = W
    · rw [if_pos hm] at h
      by_cases ho : isD W q F = true
      · exact ⟨hy, hm, ho⟩
      · rw [if_neg ho] at h; cases h
    · rw [if_neg hm] at h; cases h
  · rw [if_neg hy] at h; exact absurd h hy
end Go.Proofs.YtdmpiipllmjloaaGreat.De
namespace Go.Proofs.YtdmpiipllmjloaaGreat.De
open Go.RowKit
/-- A slice of n refs that begins at ao. -/
def RdR (w : World) (ao : Option Addr) (n : Nat) (R V : Nat → Int) : Prop :=
  0 < n → ∃ b off, ao = some ⟨b, off, none⟩ ∧ ∀ i, i < n → w.cell? ⟨b, off + i * 2, none⟩ = some (.int .i64 (R i)) ∧ w.cell? ⟨b, off + i * 2 + 1, none⟩ = some (.int .i64 (V i))
theorem RdR.below {w w' : World} {ao : Option Addr} {n : Nat} {R V : Nat → Int} (h : RdR w ao n R V) (ho : Below w.heap.size w w') : RdR w' ao n R V := by
  intro hn
  obtain ⟨b, off, rfl, hc⟩ := h hn
  exact ⟨b, off, rfl, fun i hi => ⟨held (hc i hi).1 ho, held (hc i hi).2 ho⟩⟩
/-- Refs that are read, with what a slice always has. -/
structure Rec (w : World) (ao : Option Addr) (n cap : Nat) (R V : Nat → Int) : Prop where
  rd : RdR w ao n R V
  nil : ao = none → n = 0 ∧ cap = 0
  room : n ≤ cap
theorem rec_nil (w : World) (R V : Nat → Int) : Rec w none 0 0 R V := ⟨fun h => absurd h (Nat.lt_irrefl 0), fun _ => ⟨rfl, rfl⟩, Nat.le_refl _⟩
def rvl (R V : Nat → Int) : Nat → List Value
  | 0 => []
  | n + 1 => rvl R V n ++ [.int .i64 (R n), .int .i64 (V n)]
theorem rvl_length (R V : Nat → Int) (n : Nat) : (rvl R V n).length = n * 2 := by
  induction n with
  | zero => rfl
  | succ n ih => rw [rvl, List.length_append, ih, Nat.succ_mul]; rfl
theorem rvl_get (R V : Nat → Int) (n i : Nat) (hi : i < n) : (rvl R V n)[i * 2]? = some (.int .i64 (R i)) ∧ (rvl R V n)[i * 2 + 1]? = some (.int .i64 (V i)) := by
  induction n with
  | zero => omega
  | succ n ih =>
    have hl := rvl_length R V n
    rw [rvl]
    by_cases h : i < n
    · rw [List.getElem?_append_left (by omega), List.getElem?_append_left (by omega)]; exact ih h
    · obtain rfl : i = n := by omega
      rw [List.getElem?_append_right (by omega), List.getElem?_append_right (by omega), hl, Nat.sub_self, show i * 2 + 1 - i * 2 = 1 by omega]
      exact ⟨rfl, rfl⟩
theorem rvl_one (R V : Nat → Int) (n : Nat) : ∀ v ∈ rvl R V n, v.oneCell' = true := by
  induction n with
  | zero => intro v hv; cases hv
  | succ n ih =>
    intro v hv
    rw [rvl, List.mem_append] at hv
    rcases hv with hv | hv
    · exact ih v hv
    · simp at hv; rcases hv with rfl | rfl <;> rfl
theorem rvl_congr {R V R' V' : Nat → Int} {n : Nat} (h : ∀ i, i < n → R i = R' i ∧ V i = V' i) : rvl R V n = rvl R' V' n := by
  induction n with
  | zero => rfl
  | succ n ih => rw [rvl, rvl, ih (fun i hi => h i (by omega)), (h n (by omega)).1, (h n (by omega)).2]
theorem rvl_ext {R V : Nat → Int} {n : Nat} {l : List Value} (hl : l.length = n * 2) (h : ∀ i, i < n → l[i * 2]? = some (.int .i64 (R i)) ∧ l[i * 2 + 1]? = some (.int .i64 (V i))) : l = rvl R V n := by
  apply List.ext_getElem?
  intro j
  by_cases hj : j < n * 2
  · obtain ⟨i, hi⟩ : ∃ i, i = j / 2 := ⟨_, rfl⟩
    rcases (show j = i * 2 ∨ j = i * 2 + 1 by omega) with e | e
    · rw [e, (h i (by omega)).1, (rvl_get R V n i (by omega)).1]
    · rw [e, (h i (by omega)).2, (rvl_get R V n i (by omega)).2]
  · rw [List.getElem?_eq_none (by omega), List.getElem?_eq_none (by rw [rvl_length]; omega)]
/-- Refs of the call's own (or none), from block B on. -/
def OwR (B : Nat) (w : World) (ao : Option Addr) (n cap : Nat) (R V : Nat → Int) : Prop := w.ownsRow B 81 2 (.slice ao n cap) n (rvl R V n)
theorem owr_nil (B : Nat) (w : World) (R V : Nat → Int) : OwR B w none 0 0 R V := World.ownsRow_nil _ _ _ _
theorem OwR.congr {B : Nat} {w : World} {ao : Option Addr} {n cap : Nat} {R V R' V' : Nat → Int} (h : OwR B w ao n cap R V) (e : ∀ i, i < n → R i = R' i ∧ V i = V' i) : OwR B w ao n cap R' V' := by
  unfold OwR at *; rw [← rvl_congr e]; exact h
theorem OwR.rec {B : Nat} {w : World} {ao : Option Addr} {n cap : Nat} {R V : Nat → Int} (h : OwR B w ao n cap R V) : Rec w ao n cap R V := by
  have h0 := h
  rcases h.2 with ⟨h1, h2⟩ | ⟨g, cap', cur, h1, _, _, h4, _⟩
  · cases h1; exact rec_nil _ _ _
  · cases h1
    refine ⟨fun hp => ⟨g, 0, rfl, fun i hi => ?_⟩, (fun e => by cases e), h4⟩
    have c0 := World.ownsRow.cells h0 (g := g) rfl (i * 2) _ (rvl_get R V n i hi).1
    have c1 := World.ownsRow.cells h0 (g := g) rfl (i * 2 + 1) _ (rvl_get R V n i hi).2
    rw [Addr.add_lit] at c0 c1
    exact ⟨c0, c1⟩
theorem OwR.stay {B : Nat} {w w' : World} {ao : Option Addr} {n cap : Nat} {R V : Nat → Int} (h : OwR B w ao n cap R V) (hb : ∀ g, B ≤ g → g < w.heap.size → w'.heap[g]? = w.heap[g]?) : OwR B w' ao n cap R V := by
  refine ⟨h.1, ?_⟩
  rcases h.2 with h1 | ⟨g, cap', cur, h1, h2, h3, h4⟩
  · exact .inl h1
  · exact .inr ⟨g, cap', cur, h1, h2, by rw [hb g h2 (Array.getElem?_eq_some_iff.1 h3).1]; exact h3, h4⟩
theorem OwR.below {B : Nat} {w w' : World} {ao : Option Addr} {n cap : Nat} {R V : Nat → Int} (h : OwR B w ao n cap R V) (hb : Below w.heap.size w w') : OwR B w' ao n cap R V := h.stay fun g _ hg => hb.block g hg
theorem OwR.mono {B B' : Nat} {w : World} {ao : Option Addr} {n cap : Nat} {R V : Nat → Int} (h : OwR B w ao n cap R V) (hb : B' ≤ B) : OwR B' w ao n cap R V := by
  refine ⟨h.1, ?_⟩
  rcases h.2 with h1 | ⟨g, cap', cur, h1, h2, h3⟩
  · exact .inl h1
  · exact .inr ⟨g, cap', cur, h1, by omega, h3⟩
theorem info27 : (Tryz.prog.info? 81).map (fun i => (i.zero, i.size, i.bytes)) = some (some (.agg #[.int .i64 0, .int .i64 0]), 2, 16) := by kernel_rfl
end Go.Proofs.YtdmpiipllmjloaaGreat.De
namespace Go.Proofs.YtdmpiipllmjloaaGreat
open Go.RowKit
/-- Cells, of which those that are there are taken away, of the first d drives. -/
def mT (z : Nat → Sl) (T : Nat → Option Addr) (d i : Nat) : Option Addr := if i < d ∧ (z i).ce ≠ 0 then none else T i
def mL (z : Nat → Sl) (m : Nat → Nat) (d i : Nat) : Nat := if i < d ∧ (z i).ce ≠ 0 then 0 else m i
theorem rows_set {N d : Nat} (T : Nat → Option Addr) (L U : Nat → Nat) (a : Option Addr) (l u : Nat) : (Cod.rowsOf N T L U).set d (.slice a l u) = Cod.rowsOf N (Cod.put d a T) (Cod.put d l L) (Cod.put d u U) := by
  apply List.ext_getElem?
  intro i
  rw [List.getElem?_set]
  by_cases hi : i < N
  · rw [Cod.rowsOf_get N (Cod.put d a T) _ _ i hi]
    by_cases e : d = i
    · subst e; rw [if_pos rfl, if_pos (by rw [Cod.rowsOf_length]; exact hi), Cod.put_at, Cod.put_at, Cod.put_at]
    · rw [if_neg e, Cod.rowsOf_get _ _ _ _ _ hi, Cod.put_ne _ _ (fun h => e h.symm), Cod.put_ne _ _ (fun h => e h.symm), Cod.put_ne _ _ (fun h => e h.symm)]
  · have h1 : (Cod.rowsOf N (Cod.put d a T) (Cod.put d l L) (Cod.put d u U))[i]? = none := List.getElem?_eq_none (by rw [Cod.rowsOf_length]; omega)
    rw [h1]
    by_cases e : d = i
    · subst e; rw [if_pos rfl, if_neg (by rw [Cod.rowsOf_length]; exact hi)]
    · rw [if_neg e, List.getElem?_eq_none (by rw [Cod.rowsOf_length]; omega)]
theorem mT_take {z : Nat → Sl} {d : Nat} (h : (z d).ce ≠ 0) (T : Nat → Option Addr) : Cod.put d none (mT z T d) = mT z T (d + 1) := by
  funext i
  unfold mT
  by_cases e : i = d
  · subst e; rw [Cod.put_at, if_pos ⟨by omega, h⟩]
  · rw [Cod.put_ne _ _ e]
    by_cases g : i < d ∧ (z i).ce ≠ 0
    · rw [if_pos g, if_pos ⟨by omega, g.2⟩]
    · rw [if_neg g, if_neg (fun a => g ⟨by omega, a.2⟩)]
theorem mL_take {z : Nat → Sl} {d : Nat} (h : (z d).ce ≠ 0) (m : Nat → Nat) : Cod.put d 0 (mL z m d) = mL z m (d + 1) := by
  funext i
  unfold mL
  by_cases e : i = d
  · subst e; rw [Cod.put_at, if_pos ⟨by omega, h⟩]
  · rw [Cod.put_ne _ _ e]
    by_cases g : i < d ∧ (z i).ce ≠ 0
    · rw [if_pos g, if_pos ⟨by omega, g.2⟩]
    · rw [if_neg g, if_neg (fun a => g ⟨by omega, a.2⟩)]
theorem mskip {α : Type} {z : Nat → Sl} {d : Nat} (h : (z d).ce = 0) (x : α) (f : Nat → α) (i : Nat) : (if i < d ∧ (z i).ce ≠ 0 then x else f i) = if i < d + 1 ∧ (z i).ce ≠ 0 then x else f i := by
  by_cases g : i < d ∧ (z i).ce ≠ 0
  · rw [if_pos g, if_pos ⟨by omega, g.2⟩]
  · rw [if_neg g, if_neg (fun a => g ⟨by
      have : i ≠ d := fun e => a.2 (by rw [e]; exact h)
      omega, a.2⟩)]
theorem m_skip {z : Nat → Sl} {d : Nat} (h : (z d).ce = 0) (T : Nat → Option Addr) (m : Nat → Nat) : mT z T d = mT z T (d + 1) ∧ mL z m d = mL z m (d + 1) := by
  constructor
  all_goals funext i
  · unfold mT
    exact mskip h _ _ i
  · unfold mL
    exact mskip h _ _ i
/-- What stands behind d drives. -/
def Mnl (wz : World) (gc gl N cap : Nat) (z : Nat → Sl) (T : Nat → Option Addr) (m U : Nat → Nat) (d : Nat) (v : World) (Y : Nat → Prop) : Prop :=
  At wz v gc #[.slice (some ⟨gl, 0, none⟩) N cap] 75 ∧ v.ownsRow wz.heap.size 55 1 (.slice (some ⟨gl, 0, none⟩) N cap) N (Cod.rowsOf N (mT z T d) (mL z m d) (mL z U d)) ∧ ∀ g, Y g ↔ g = gl
set_option maxHeartbeats 2000000 in
set_option maxRecDepth 100000 in
theorem mend1_any (wz v : World) (gc gl N cap d : Nat) (hd : d < N) (z : Nat → Sl) (T : Nat → Option Addr) (m U : Nat → Nat) (Y : Nat → Prop) (x0 x1 : Value) (ao : Option Addr) (ca : Nat) (bo : Option Addr) (cb : Nat) (h : Mnl wz gc gl N cap z T m U d v Y) :
    Calls Tryz.prog 64 #[.int .i64 (d : Int), .agg #[x0, x1], slv (z d) ao ca bo cb, .pointer (some ⟨gc, 0, none⟩)] v fun e v' => e = .returned (.tuple #[]) ∧ ∃ Y', Mnl wz gc gl N cap z T m U (d + 1) v' Y' ∧ Only Y v v' ∧ ∀ g, Y' g → Y g ∨ v.heap.size ≤ g := by
  unfold slv
  obtain ⟨hA, hO, hY⟩ := h
  obtain ⟨v0, hv0⟩ : ∃ v0, v0 = v.alloc (.cells #[x0, x1] 67) := ⟨_, rfl⟩
  obtain ⟨v1, hv1⟩ : ∃ v1, v1 = v0.alloc (.cells #[.int .u8 (((z d).kd.toNat : Nat) : Int), .int .i64 (z d).ix, .int .i64 (z d).ce, .int .i64 (z d).st, .slice ao (z d).vn ca, .slice bo (z d).dn cb] 63) := ⟨_, rfl⟩
  have b1 : Below v.heap.size v v1 := by rw [hv1, hv0]; exact below_then (below_alloc _ _) (below_alloc _ _)
  have i1 : (0 : Int) ≤ (d : Int) := by omega
  have i2 : (d : Int) < (N : Int) := by omega
  by_cases hz : (z d).ce = 0
  · have hzb : ((z d).ce != 0) = false := by simp [hz]
    have HC : Hid (Mnl wz gc gl N cap z T m U (d + 1) v1 Y) := by
      refine ⟨hA.below b1, ?_, hY⟩
      rw [← (m_skip hz T m).1, ← (m_skip hz T m).2, ← (m_skip hz T U).2]
      exact owns_below hO b1
    clear hz hA hO
    go_enter Tryz.func64, Tryz.ntmps64
    go_wp2_with fail
    rw [← hv0, ← hv1]
    exact bodyPost_end (results_none rfl _ _ _) rfl ⟨rfl, Y, HC.out, .of_below b1, fun g hg => .inl hg⟩
  · have hzb : ((z d).ce != 0) = true := by simp [hz]
    have hO1 := owns_below hO b1
    have hs := World.ownsRow.stored hO1 d (.slice none 0 0)
    rw [rows_set, mT_take hz, mL_take hz, mL_take hz] at hs
    have hne : gc ≠ gl := fun e => by
      obtain ⟨_, _, cur, hc⟩ := owns_at hO (a := ⟨gl, 0, none⟩) rfl
      have := hA.2
      rw [e] at this
      simp only at hc
      rw [hc] at this
      cases this
    have HC : Hid (Mnl wz gc gl N cap z T m U (d + 1) (v1.setCell ⟨gl, d, none⟩ (.slice none 0 0)) Y) := ⟨(hA.below b1).far hne d _, hs.1, hY⟩
    have HO : Hid (Only Y v (v1.setCell ⟨gl, d, none⟩ (.slice none 0 0))) := (Only.of_below b1).setCell ((hY gl).2 rfl) _
    have g0 := fun o o' => ((hA.alloc o).alloc o').cell (i := 0) rfl
    have hcl : v1.cell? ⟨gl, d, none⟩ = some (.slice (mT z T d d) (mL z m d d) (mL z U d d)) := by
      rw [World.ownsRow.cellAt hO1 d (by omega), Cod.rowsOf_get _ _ _ _ _ hd]
    have hfr : v1.frozen? ⟨gl, d, none⟩ = false := World.ownsRow.frozenAt hO1 d
    rw [hv1, hv0] at hcl hfr
    clear hz hA hO hs hO1 hne hY
    go_enter Tryz.func64, Tryz.ntmps64
    go_wp2_with fail
    rw [← hv0, ← hv1]
    exact bodyPost_end (results_none rfl _ _ _) rfl ⟨rfl, Y, HC.out, HO.out, fun g hg => .inl hg⟩
end Go.Proofs.YtdmpiipllmjloaaGreat
