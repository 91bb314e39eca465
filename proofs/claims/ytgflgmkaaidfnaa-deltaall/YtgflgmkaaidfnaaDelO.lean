/- The document's own All and Parity; numbers that are copied. -/
import Derived.Test.YtgflgmkaaidfnaaDelN
import Derived.Test.YtgflgmkaaidfnaaDelH
namespace Go.Proofs.Ytgflgmkaaidfnaa
open Go.RowKit

set_option maxHeartbeats 1000000 in
set_option maxRecDepth 100000 in
theorem rAll_any (w : World) (k r : Int) (po : Option Addr) (pl pc : Nat) (PA : Nat → Option Addr) (PC PL : Nat → Nat) (P : M) (co : Option Addr) (n cc : Nat) (R : Nat → Int) (qo : Option Addr) (dl dc : Nat) (DA : Nat → Option Addr) (DC DL : Nat → Nat) (D : M)
    (hp : Lst w po pl PA PC PL P) (hcr : RdI w co n R) (hq : Lst w qo dl DA DC DL D) :
    Calls Try.prog 19 #[.int .i64 k, .int .i64 r, .slice po pl pc, .slice co n cc, .slice qo dl dc] w (Made w (okAll k r pl PL n R dl DL) (errAll k r pl PL n R) pl (PL 0) (upd k.toNat n R D P)) := by
  have hASK := asked_any w k r po pl pc PA PC PL P hp
  cases hmay : mayB k r
  · rw [show okAll k r pl PL n R dl DL = false by unfold okAll; rw [hmay]; rfl, show errAll k r pl PL n R = 2 by unfold errAll; rw [hmay]; rfl]
    rw [show askE k r pl PL = 2 by unfold askE; rw [hmay]; rfl] at hASK
    clear hmay hp hcr hq
    go_enter Try.func19, Try.ntmps19
    go_wp2_with fail
    refine hASK.mono ?_
    rintro e w1 ⟨rfl, b1⟩
    go_wp2_with fail
    go_ret2
    exact all_no b1
  · cases hpar : parB r pl PL
    · rw [show okAll k r pl PL n R dl DL = false by unfold okAll; rw [hpar, Bool.false_and, Bool.and_false], show errAll k r pl PL n R = 40 by unfold errAll; rw [hmay, hpar]; rfl]
      rw [show askE k r pl PL = 40 by unfold askE; rw [hmay, hpar]; rfl] at hASK
      clear hmay hpar hp hcr hq
      go_enter Try.func19, Try.ntmps19
      go_wp2_with fail
      refine hASK.mono ?_
      rintro e w1 ⟨rfl, b1⟩
      go_wp2_with fail
      go_ret2
      exact all_no b1
    · obtain ⟨h1, h2, h3, h4⟩ := mayB_true hmay
      unfold parB at hpar
      rw [Bool.and_eq_true, decide_eq_true_eq] at hpar
      obtain ⟨rfl, ha⟩ := hpar
      obtain ⟨k, rfl⟩ := Int.eq_ofNat_of_zero_le (show 0 ≤ k by omega)
      rw [Int.toNat_natCast]
      exact rall_main w k pl n dl pc cc dc po co qo PA PC PL P R DA DC DL D (by omega) (by omega) (by omega) hp hcr hq ha
set_option maxHeartbeats 1000000 in
set_option maxRecDepth 100000 in
theorem rParity_any (w : World) (k r : Int) (po : Option Addr) (pl pc : Nat) (PA : Nat → Option Addr) (PC PL : Nat → Nat) (P : M) (c : Int) (qo : Option Addr) (dl dc : Nat) (d : Nat → K) (hp : Lst w po pl PA PC PL P) (hq : Rd w qo dl d) :
    Calls Try.prog 15 #[.int .i64 k, .int .i64 r, .slice po pl pc, .int .i64 c, .slice qo dl dc] w (Made w (okAll k r pl PL 1 (fun _ => c) 1 (fun _ => dl)) (errAll k r pl PL 1 (fun _ => c)) pl (PL 0) (upd k.toNat 1 (fun _ => c) (fun _ => d) P)) := by
  have hASK := asked_any w k r po pl pc PA PC PL P hp
  cases hmay : mayB k r
  · rw [show okAll k r pl PL 1 (fun _ => c) 1 (fun _ => dl) = false by unfold okAll; rw [hmay]; rfl, show errAll k r pl PL 1 (fun _ => c) = 2 by unfold errAll; rw [hmay]; rfl]
    rw [show askE k r pl PL = 2 by unfold askE; rw [hmay]; rfl] at hASK
    clear hmay hp hq
    go_enter Try.func15, Try.ntmps15
    go_wp2_with fail
    refine hASK.mono ?_
    rintro e w1 ⟨rfl, b1⟩
    go_wp2_with fail
    go_ret2
    exact all_no b1
  · cases hpar : parB r pl PL
    · rw [show okAll k r pl PL 1 (fun _ => c) 1 (fun _ => dl) = false by unfold okAll; rw [hpar, Bool.false_and, Bool.and_false], show errAll k r pl PL 1 (fun _ => c) = 40 by unfold errAll; rw [hmay, hpar]; rfl]
      rw [show askE k r pl PL = 40 by unfold askE; rw [hmay, hpar]; rfl] at hASK
      clear hmay hpar hp hq
      go_enter Try.func15, Try.ntmps15
      go_wp2_with fail
      refine hASK.mono ?_
      rintro e w1 ⟨rfl, b1⟩
      go_wp2_with fail
      go_ret2
      exact all_no b1
    · rw [show askE k r pl PL = 0 by unfold askE; rw [hmay, hpar]; rfl] at hASK
      have HALL : Hid (∀ w1, Below w.heap.size w w1 → Calls Try.prog 19 #[.int .i64 k, .int .i64 r, .slice po pl pc, .slice (some ⟨w1.heap.size, 0, none⟩) 1 1, .slice (some ⟨w1.heap.size + 1, 0, none⟩) 1 1] ((w1.alloc (.cells #[.int .i64 c] 3)).alloc (.cells #[.slice qo dl dc] 23)) (Made ((w1.alloc (.cells #[.int .i64 c] 3)).alloc (.cells #[.slice qo dl dc] 23)) (okAll k r pl PL 1 (fun _ => c) 1 (fun _ => dl)) (errAll k r pl PL 1 (fun _ => c)) pl (PL 0) (upd k.toNat 1 (fun _ => c) (fun _ => d) P))) := fun w1 b1 =>
        rAll_any _ k r po pl pc PA PC PL P (some ⟨w1.heap.size, 0, none⟩) 1 1 (fun _ => c) (some ⟨w1.heap.size + 1, 0, none⟩) 1 1 _ _ _ _ (((hp.below b1).alloc _).alloc _) ((rdI_one rfl c).below (below_alloc _ _)) (lst_one (by simp) qo dl dc d ((hq.below b1).alloc _))
      clear hmay hpar hp hq
      go_enter Try.func15, Try.ntmps15
      go_wp2_with fail
      refine hASK.mono ?_
      rintro e w1 ⟨rfl, b1⟩
      have HA := HALL.out w1 b1
      clear HALL
      go_wp2_with fail
      refine HA.mono ?_
      rintro e w2 h2
      obtain ⟨ao, cap, rfl, ha, hb⟩ := h2.older (below_step b1 (below_2 w1 _ _) b1.size)
      clear h2
      go_wp2_with fail
      go_ret2
      exact ⟨ao, cap, rfl, ha, hb⟩

/-- Numbers as they lie in memory. -/
def intsI (n : Nat) (R : Nat → Int) : List Value := (List.range n).map fun i => .int .i64 (R i)
theorem intsI_length (n : Nat) (R : Nat → Int) : (intsI n R).length = n := by simp [intsI]
theorem intsI_get (n : Nat) (R : Nat → Int) (i : Nat) (h : i < n) : (intsI n R)[i]? = some (.int .i64 (R i)) := by simp [intsI, h]
theorem intsI_one (n : Nat) (R : Nat → Int) : ∀ v ∈ intsI n R, v.oneCell' = true := by
  intro v hv
  simp only [intsI, List.mem_map] at hv
  obtain ⟨i, _, rfl⟩ := hv
  rfl
/-- Numbers appended to nothing: a row of their own. -/
theorem wpList_append_ints {w : World} {ops : Array Oper} {rest : List Oper} {o : Oper} {a : Act} {Q : Exit → Act → World → Prop} (hgd : o.guard = none) (s x : Operand)
    (ho : o.op = .call { callee := .builtin .append, args := #[s, x], argTypes := #[31, 31] }) (hs : a.eval s = .slice none 0 0) (co : Option Addr) (n cc : Nat) (R : Nat → Int) (hx : a.eval x = .slice co n cc)
    (hnil : co = none → n = 0 ∧ cc = 0) (hr : RdI w co n R) (hn : n ≤ 1000)
    (cont : ∀ zo zc w', RdI w' zo n R → n ≤ zc → Below w.heap.size w w' → wpList Try.prog ops Q rest (a.put o.dst (.slice zo n zc)) w') : wpList Try.prog ops Q (o :: rest) a w := by
  obtain ⟨i0, hi, hz0, hz1, hz2⟩ := info_parts info3
  cases co with
  | none =>
    obtain ⟨rfl, rfl⟩ := hnil rfl
    refine wpList_append_own_none hgd s x 31 ho w.heap.size 3 i0 1 Try.underlying31 hi (.slice none 0 0) 0 [] hs (World.ownsRow_nil _ _ _ _) hx ?_
    exact cont none 0 w (rdI_nil _ _ _) (Nat.le_refl _) (Below.refl _ _)
  | some ad =>
    refine wpList_append_own w hgd s x 31 ho w.heap.size 3 i0 (.int .i64 0) 1 8 Try.underlying31 hi hz0 hz1 hz2 rfl (by decide) (.slice none 0 0) 0 [] hs (World.ownsRow_nil _ _ _ _) ad n cc (intsI n R) hx (by rw [intsI_length]; omega) (fun j u hu => ?_) (intsI_one n R) (by unfold maxLen; omega) (by omega) (Nat.le_refl _) ?_
    · have hj : j < n := list_lt (intsI_length n R) hu
      rw [intsI_get _ _ _ hj] at hu
      obtain ⟨b, off, e, hc⟩ := hr (by omega)
      cases e
      rw [Addr.add_lit, hc j hj]; exact hu
    · intro v' w' h1 h2 _
      rw [Nat.zero_add, List.nil_append] at h1
      obtain ⟨zo, zc, rfl⟩ := owns_form h1
      refine cont zo zc w' (fun hp => ?_) ?_ ((Below.refl _ _).grown h2 (Nat.le_refl _) (fun r hr => by cases hr))
      · rcases h1.2 with ⟨_, h0⟩ | ⟨g, cap', cur, e, _⟩
        · omega
        · cases e
          refine ⟨g, 0, rfl, fun i hi => ?_⟩
          have := h1.cells (g := g) rfl i _ (intsI_get n R i hi)
          rwa [Addr.add_lit] at this
      · rcases h1.2 with ⟨e, _⟩ | ⟨g, cap, cur, e, _, _, h4, _⟩
        · cases e; exact Nat.le_refl _
        · cases e; exact h4
end Go.Proofs.Ytgflgmkaaidfnaa
