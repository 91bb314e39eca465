/- Copies of lists, two lists in one, and whether one list or two may be. -/
import Derived.Test.YtmncbeabhicbhaaRwA
import Derived.Test.YtmncbeabhicbhaaRwC
namespace Go.Proofs.Ytmncbeabhicbhaa
open Go.RowKit

theorem Vec.none_zero {w : World} {n cap : Nat} {R : Nat → Int} (h : Vec w none n cap R) : n = 0 ∧ cap = 0 := h.nil rfl
set_option maxHeartbeats 1000000 in
set_option maxRecDepth 100000 in
/-- A copy of any list, a nil one too. -/
theorem copy_any (w : World) (ao : Option Addr) (n ca : Nat) (R : Nat → Int) (hv : Vec w ao n ca R) (hn : n ≤ 200000) :
    Calls Try.prog 24 #[.slice ao n ca] w fun e w' => ∃ ro cap, e = .returned (.slice ro n cap) ∧ Own w.heap.size w' ro n cap R ∧ Below w.heap.size w w' := by
  cases ao with
  | none =>
    obtain ⟨rfl, rfl⟩ := hv.nil rfl
    clear hv
    have hnil : ∀ w, (binOp .eql 26 (.slice none 0 0) (.slice none 0 0)).run Try.prog w = .ok (.bool true) w := fun w => by
      have h : (Op.equal 26 (.slice none 0 0) (.slice none 0 0)).run Try.prog w = .ok true w := run_equalIn_slice_nil w 9999 26 3 none 0 0 Try.underlying26
      simp only [binOp]
      simp [h]
    go_enter Try.func24, Try.ntmps24
    go_wp2
    go_ret
    exact ⟨none, 0, rfl, own_nil _ _ _, Below.refl _ _⟩
  | some ad =>
    have HV : Hid (∀ o, Vec (w.alloc o) (some ad) n ca R) := fun o => hv.below (below_alloc _ _)
    have HO : Hid ((w.alloc (.cells #[] 3)).ownsRow w.heap.size 3 1 (.slice (some ⟨w.heap.size, 0, none⟩) 0 0) 0 []) := World.ownsRow_lit w #[] 0 (Nat.le_refl _) (Nat.zero_le _) rfl
    clear hv
    go_enter Try.func24, Try.ntmps24
    have hnil := fun w => eq_nil_no w ad n ca
    have HB0 : Hid (∀ o, Below w.heap.size w (w.alloc o)) := fun o => below_alloc w o
    go_wp2_with (at_builtin; refine wpList_append_first (by rfl) (.tmp 5) (.tmp 6) (by rfl) w.heap.size n ca (some ⟨w.heap.size, 0, none⟩) (some ad) R (by rfl) (by rfl) HO.out (HV.out _) hn (by simp) ?_; intro ro cap w5 HO5 B5)
    go_ret
    exact ⟨ro, cap, rfl, HO5.out, (HB0.out _).trans B5.out⟩
theorem wpList_append_more {w : World} {ops : Array Oper} {rest : List Oper} {o : Oper} {a : Act} {Q : Exit → Act → World → Prop} (hgd : o.guard = none) (s x : Operand)
    (ho : o.op = .call { callee := .builtin .append, args := #[s, x], argTypes := #[26, 26] }) (B k n ca cb : Nat) (ao bo : Option Addr) (R S : Nat → Int)
    (hs : a.eval s = .slice ao k ca) (hx : a.eval x = .slice bo n cb) (h : Own B w ao k ca R) (hv : Vec w bo n cb S) (hk : k ≤ 200000) (hn : n ≤ 200000) (hB : B ≤ w.heap.size)
    (cont : ∀ ao' c' w', Hid (Own B w' ao' (k + n) c' (app k R S)) → Hid (w.grownBy w' (Value.slice ao k ca).ownBlock) → wpList Try.prog ops Q rest (a.put o.dst (.slice ao' (k + n) c')) w') : wpList Try.prog ops Q (o :: rest) a w := by
  refine wpList_append_ints hgd s x ho B k n ca cb ao bo (zOf k R) S hs hx h hv hk hn hB ?_
  intro ao' c' w' h1 h2
  refine cont ao' c' w' ?_ h2
  have e : zOf k R ++ zOf n S = zOf (k + n) (app k R S) := by
    apply List.ext_getElem?
    intro i
    by_cases hi : i < k
    · rw [List.getElem?_append_left (by rw [zOf_length]; exact hi), zOf_get _ _ _ hi, zOf_get _ _ _ (by omega)]; unfold app; rw [if_pos hi]
    · rw [List.getElem?_append_right (by rw [zOf_length]; omega), zOf_length]
      by_cases g : i < k + n
      · rw [zOf_get _ _ _ (show i - k < n by omega), zOf_get _ _ _ g]; unfold app; rw [if_neg hi]
      · rw [List.getElem?_eq_none (by rw [zOf_length]; omega), List.getElem?_eq_none (by rw [zOf_length]; omega)]
  rw [e] at h1
  exact h1
end Go.Proofs.Ytmncbeabhicbhaa
