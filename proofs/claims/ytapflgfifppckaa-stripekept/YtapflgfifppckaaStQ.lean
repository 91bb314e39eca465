/- The raw writes of the cells of a version that are not there. -/
import Derived.Test.YtapflgfifppckaaStP
namespace Go.Proofs.Ytapflgfifppckaa
open Go.RowKit

/-- Cells, of which those that are there are taken away, of the first d drives. -/
def mT (z : Nat → Sl) (T : Nat → Option Addr) (d i : Nat) : Option Addr := if i < d ∧ (z i).ce ≠ 0 then none else T i
def mL (z : Nat → Sl) (m : Nat → Nat) (d i : Nat) : Nat := if i < d ∧ (z i).ce ≠ 0 then 0 else m i
theorem rows_set {N d : Nat} (T : Nat → Option Addr) (L U : Nat → Nat) (a : Option Addr) (l u : Nat) : (Cod.rowsOf N T L U).set d (.slice a l u) = Cod.rowsOf N (Cod.put d a T) (Cod.put d l L) (Cod.put d u U) := by
  apply List.ext_getElem?
  intro i
  rw [List.getElem?_set]
  by_cases hi : i < N
  · rw [Cod.rowsOf_get N (Cod.put d a T) _ _ i hi]
    by_cases e : d = i
    · subst e; rw [if_pos rfl, if_pos (by rw [Cod.rowsOf_length]; exact hi), Cod.put_at, Cod.put_at, Cod.put_at]
    · rw [if_neg e, Cod.rowsOf_get _ _ _ _ _ hi, Cod.put_ne _ _ (fun h => e h.symm), Cod.put_ne _ _ (fun h => e h.symm), Cod.put_ne _ _ (fun h => e h.symm)]
  · have h1 : (Cod.rowsOf N (Cod.put d a T) (Cod.put d l L) (Cod.put d u U))[i]? = none := List.getElem?_eq_none (by rw [Cod.rowsOf_length]; omega)
    rw [h1]
    by_cases e : d = i
    · subst e; rw [if_pos rfl, if_neg (by rw [Cod.rowsOf_length]; exact hi)]
    · rw [if_neg e, List.getElem?_eq_none (by rw [Cod.rowsOf_length]; omega)]
theorem mT_take {z : Nat → Sl} {d : Nat} (h : (z d).ce ≠ 0) (T : Nat → Option Addr) : Cod.put d none (mT z T d) = mT z T (d + 1) := by
  funext i
  unfold mT
  by_cases e : i = d
  · subst e; rw [Cod.put_at, if_pos ⟨by omega, h⟩]
  · rw [Cod.put_ne _ _ e]
    by_cases g : i < d ∧ (z i).ce ≠ 0
    · rw [if_pos g, if_pos ⟨by omega, g.2⟩]
    · rw [if_neg g, if_neg (fun a => g ⟨by omega, a.2⟩)]
theorem mL_take {z : Nat → Sl} {d : Nat} (h : (z d).ce ≠ 0) (m : Nat → Nat) : Cod.put d 0 (mL z m d) = mL z m (d + 1) := by
  funext i
  unfold mL
  by_cases e : i = d
  · subst e; rw [Cod.put_at, if_pos ⟨by omega, h⟩]
  · rw [Cod.put_ne _ _ e]
    by_cases g : i < d ∧ (z i).ce ≠ 0
    · rw [if_pos g, if_pos ⟨by omega, g.2⟩]
    · rw [if_neg g, if_neg (fun a => g ⟨by omega, a.2⟩)]
theorem mskip {α : Type} {z : Nat → Sl} {d : Nat} (h : (z d).ce = 0) (x : α) (f : Nat → α) (i : Nat) : (if i < d ∧ (z i).ce ≠ 0 then x else f i) = if i < d + 1 ∧ (z i).ce ≠ 0 then x else f i := by
  by_cases g : i < d ∧ (z i).ce ≠ 0
  · rw [if_pos g, if_pos ⟨by omega, g.2⟩]
  · rw [if_neg g, if_neg (fun a => g ⟨by
      have : i ≠ d := fun e => a.2 (by rw [e]; exact h)
      omega, a.2⟩)]
theorem m_skip {z : Nat → Sl} {d : Nat} (h : (z d).ce = 0) (T : Nat → Option Addr) (m : Nat → Nat) : mT z T d = mT z T (d + 1) ∧ mL z m d = mL z m (d + 1) := by
  constructor
  all_goals funext i
  · unfold mT
    exact mskip h _ _ i
  · unfold mL
    exact mskip h _ _ i
/-- What stands behind d drives. -/
def Mnl (wz : World) (gc gl N cap : Nat) (z : Nat → Sl) (T : Nat → Option Addr) (m U : Nat → Nat) (d : Nat) (v : World) (Y : Nat → Prop) : Prop :=
  At wz v gc #[.slice (some ⟨gl, 0, none⟩) N cap] 55 ∧ v.ownsRow wz.heap.size 25 1 (.slice (some ⟨gl, 0, none⟩) N cap) N (Cod.rowsOf N (mT z T d) (mL z m d) (mL z U d)) ∧ ∀ g, Y g ↔ g = gl
set_option maxHeartbeats 2000000 in
set_option maxRecDepth 100000 in
theorem mend1_any (wz v : World) (gc gl N cap d : Nat) (hd : d < N) (z : Nat → Sl) (T : Nat → Option Addr) (m U : Nat → Nat) (Y : Nat → Prop) (x0 x1 : Value) (ao : Option Addr) (ca : Nat) (bo : Option Addr) (cb : Nat) (h : Mnl wz gc gl N cap z T m U d v Y) :
    Calls Try.prog 28 #[.int .i64 (d : Int), .agg #[x0, x1], slv (z d) ao ca bo cb, .pointer (some ⟨gc, 0, none⟩)] v fun e v' => e = .returned (.tuple #[]) ∧ ∃ Y', Mnl wz gc gl N cap z T m U (d + 1) v' Y' ∧ Only Y v v' ∧ ∀ g, Y' g → Y g ∨ v.heap.size ≤ g := by
  unfold slv
  obtain ⟨hA, hO, hY⟩ := h
  obtain ⟨v0, hv0⟩ : ∃ v0, v0 = v.alloc (.cells #[x0, x1] 35) := ⟨_, rfl⟩
  obtain ⟨v1, hv1⟩ : ∃ v1, v1 = v0.alloc (.cells #[.int .u8 (((z d).kd.toNat : Nat) : Int), .int .i64 (z d).ix, .int .i64 (z d).ce, .int .i64 (z d).st, .slice ao (z d).vn ca, .slice bo (z d).dn cb] 62) := ⟨_, rfl⟩
  have b1 : Below v.heap.size v v1 := by rw [hv1, hv0]; exact below_then (below_alloc _ _) (below_alloc _ _)
  have i1 : (0 : Int) ≤ (d : Int) := by omega
  have i2 : (d : Int) < (N : Int) := by omega
  by_cases hz : (z d).ce = 0
  · have hzb : ((z d).ce != 0) = false := by simp [hz]
    have HC : Hid (Mnl wz gc gl N cap z T m U (d + 1) v1 Y) := by
      refine ⟨hA.below b1, ?_, hY⟩
      rw [← (m_skip hz T m).1, ← (m_skip hz T m).2, ← (m_skip hz T U).2]
      exact owns_below hO b1
    clear hz hA hO
    go_enter Try.func28, Try.ntmps28
    go_wp2_with fail
    rw [← hv0, ← hv1]
    exact bodyPost_end (results_none rfl _ _ _) rfl ⟨rfl, Y, HC.out, .of_below b1, fun g hg => .inl hg⟩
  · have hzb : ((z d).ce != 0) = true := by simp [hz]
    have hO1 := owns_below hO b1
    have hs := World.ownsRow.stored hO1 d (.slice none 0 0)
    rw [rows_set, mT_take hz, mL_take hz, mL_take hz] at hs
    have hne : gc ≠ gl := fun e => by
      obtain ⟨_, _, cur, hc⟩ := owns_at hO (a := ⟨gl, 0, none⟩) rfl
      have := hA.2
      rw [e] at this
      simp only at hc
      rw [hc] at this
      cases this
    have HC : Hid (Mnl wz gc gl N cap z T m U (d + 1) (v1.setCell ⟨gl, d, none⟩ (.slice none 0 0)) Y) := ⟨(hA.below b1).far hne d _, hs.1, hY⟩
    have HO : Hid (Only Y v (v1.setCell ⟨gl, d, none⟩ (.slice none 0 0))) := (Only.of_below b1).setCell ((hY gl).2 rfl) _
    have g0 := fun o o' => ((hA.alloc o).alloc o').cell (i := 0) rfl
    have hcl : v1.cell? ⟨gl, d, none⟩ = some (.slice (mT z T d d) (mL z m d d) (mL z U d d)) := by
      rw [World.ownsRow.cellAt hO1 d (by omega), Cod.rowsOf_get _ _ _ _ _ hd]
    have hfr : v1.frozen? ⟨gl, d, none⟩ = false := World.ownsRow.frozenAt hO1 d
    rw [hv1, hv0] at hcl hfr
    clear hz hA hO hs hO1 hne hY
    go_enter Try.func28, Try.ntmps28
    go_wp2_with fail
    rw [← hv0, ← hv1]
    exact bodyPost_end (results_none rfl _ _ _) rfl ⟨rfl, Y, HC.out, HO.out, fun g hg => .inl hg⟩
end Go.Proofs.Ytapflgfifppckaa
