/- Lists of numbers: whether two are the same, copies, copies with a mark, lists that are written over. -/
import Derived.Test.YtmncbeabhicbhaaVecA
import Derived.BigQuiet
namespace Go.Proofs.Ytmncbeabhicbhaa
open Go.RowKit

set_option maxHeartbeats 1000000 in
set_option maxRecDepth 100000 in
theorem Same_any (w : World) (ao bo : Option Addr) (n ca m cb : Nat) (A B : Nat → Int) (ha : RdI w ao n A) (hb : RdI w bo m B) (hn : n ≤ 200000) (hm : m ≤ 200000) :
    Calls Try.prog 16 #[.slice ao n ca, .slice bo m cb] w fun e w' => e = .returned (.bool (sameB n m A B)) ∧ ∃ q, w' = w.drewN q := by
  have HA : Hid (RdI w ao n A) := ha
  have HB : Hid (RdI w bo m B) := hb
  clear ha hb
  by_cases hnm : n = m
  · subst hnm
    by_cases hall : ∀ i, i < n → A i = B i
    · rw [show sameB n n A B = true from decide_eq_true ⟨rfl, hall⟩]
      have HS : Hid (∀ i, i < n → A i = B i) := hall
      clear hall
      go_enter Try.func16, Try.ntmps16
      go_wp2
      go_loopw [5] (fun x wr => ∃ i : Nat, i ≤ n ∧ x = .int .i64 i ∧ Hid (∃ q, wr = w.drewN q)) (fun x _ => n - (intOf x).toNat)
      case atStart => exact ⟨0, Nat.zero_le _, rfl, 0, rfl⟩
      case round =>
        obtain ⟨i, hi, rfl, hdr⟩ := hrel
        by_cases hlt : i < n
        · have hbel : Below w.heap.size w wr := by obtain ⟨q, rfl⟩ := hdr.out; exact below_drewN _ _ _
          obtain ⟨b, off, rfl, hc⟩ := (HA.out.below hbel) (by omega)
          obtain ⟨b', off', rfl, hc'⟩ := (HB.out.below hbel) (by omega)
          have ck := hc i hlt
          have ck' := hc' i hlt
          rw [← HS.out i hlt] at ck'
          clear hc hc' hbel
          have hb : (A i != A i) = false := by simp
          have i1 : (0 : Int) ≤ (i : Int) := by omega
          have i2 : (i : Int) < (n : Int) := by omega
          go_wp2
          go_quiet (fail)
          go_wp2
          go_roundw
          case rel =>
            obtain ⟨q, hq⟩ := hdr.out
            exact ⟨i + 1, by omega, by go_num, q + nq, by rw [hq]; simp [World.drewN, Nat.add_assoc]⟩
          case measure => simp [intOf]; omega
        · go_wp2
          go_ret
          exact ⟨rfl, hdr.out⟩
    · rw [show sameB n n A B = false from decide_eq_false fun h => hall h.2]
      obtain ⟨p, hp, hne, heq⟩ := first_not hall
      have HE : Hid (∀ i, i < p → A i = B i) := heq
      have HN : Hid (¬ A p = B p) := hne
      clear hall hne heq
      go_enter Try.func16, Try.ntmps16
      go_wp2
      go_loopw [5] (fun x wr => ∃ i : Nat, i ≤ p ∧ x = .int .i64 i ∧ Hid (∃ q, wr = w.drewN q)) (fun x _ => n - (intOf x).toNat)
      case atStart => exact ⟨0, Nat.zero_le _, rfl, 0, rfl⟩
      case round =>
        obtain ⟨i, hi, rfl, hdr⟩ := hrel
        have hlt : i < n := by omega
        have hbel : Below w.heap.size w wr := by obtain ⟨q, rfl⟩ := hdr.out; exact below_drewN _ _ _
        obtain ⟨b, off, rfl, hc⟩ := (HA.out.below hbel) (by omega)
        obtain ⟨b', off', rfl, hc'⟩ := (HB.out.below hbel) (by omega)
        have ck := hc i hlt
        have ck' := hc' i hlt
        clear hc hc' hbel
        have i1 : (0 : Int) ≤ (i : Int) := by omega
        have i2 : (i : Int) < (n : Int) := by omega
        by_cases hiq : i < p
        · rw [← HE.out i hiq] at ck'
          have hb : (A i != A i) = false := by simp
          go_wp2
          go_quiet (fail)
          go_wp2
          go_roundw
          case rel =>
            obtain ⟨q, hq⟩ := hdr.out
            exact ⟨i + 1, by omega, by go_num, q + nq, by rw [hq]; simp [World.drewN, Nat.add_assoc]⟩
          case measure => simp [intOf]; omega
        · obtain rfl : i = p := by omega
          have hb : (A i != B i) = true := by have := HN.out; simpa using this
          have HQ : Hid (∃ q, wr = w.drewN q) := hdr
          go_wp2
          go_quiet (fail)
          go_wp2
          go_ret
          obtain ⟨q, hq⟩ := HQ.out
          exact ⟨rfl, q + nq, by rw [hq]; simp [World.drewN, Nat.add_assoc]⟩
  · rw [show sameB n m A B = false from decide_eq_false fun h => hnm h.1]
    have hb : ((n : Int) != (m : Int)) = true := by simp; omega
    go_enter Try.func16, Try.ntmps16
    go_wp2
    go_ret
    exact ⟨rfl, 0, rfl⟩
theorem eq_nil_no (w : World) (a : Addr) (l c : Nat) : (binOp .eql 26 (.slice (some a) l c) (.slice none 0 0)).run Try.prog w = .ok (.bool false) w := by
  have h : (Op.equal 26 (.slice (some a) l c) (.slice none 0 0)).run Try.prog w = .ok false w := run_equalIn_slice_nil w 9999 26 3 (some a) l c Try.underlying26
  simp only [binOp]
  simp [h]
/-- Integers appended to nothing: a list of the call's own. -/
theorem wpList_append_first {w : World} {ops : Array Oper} {rest : List Oper} {o : Oper} {a : Act} {Q : Exit → Act → World → Prop} (hgd : o.guard = none) (s x : Operand)
    (ho : o.op = .call { callee := .builtin .append, args := #[s, x], argTypes := #[26, 26] }) (B n cb : Nat) (ao bo : Option Addr) (R : Nat → Int)
    (hs : a.eval s = .slice ao 0 0) (hx : a.eval x = .slice bo n cb) (h : w.ownsRow B 3 1 (.slice ao 0 0) 0 []) (hv : Vec w bo n cb R) (hn : n ≤ 200000) (hB : B ≤ w.heap.size)
    (cont : ∀ ao' c' w', Hid (Own B w' ao' n c' R) → Hid (Below B w w') → wpList Try.prog ops Q rest (a.put o.dst (.slice ao' n c')) w') : wpList Try.prog ops Q (o :: rest) a w := by
  refine wpList_append_ints hgd s x ho B 0 n 0 cb ao bo [] R hs hx h hv (by omega) hn hB ?_
  intro ao' c' w' h1 h2
  rw [Nat.zero_add, List.nil_append] at h1
  rw [Nat.zero_add]
  exact cont ao' c' w' h1 ((Below.refl _ _).grown h2 hB (fun q hq => (h.lt q hq).1))
set_option maxHeartbeats 1000000 in
set_option maxRecDepth 100000 in
theorem clone_any (w : World) (ao : Option Addr) (n ca : Nat) (R : Nat → Int) (hv : Vec w ao n ca R) (h1 : 1 ≤ n) (hn : n ≤ 200000) :
    Calls Try.prog 24 #[.slice ao n ca] w fun e w' => ∃ g cap, e = .returned (.slice (some ⟨g, 0, none⟩) n cap) ∧ Own w.heap.size w' (some ⟨g, 0, none⟩) n cap R ∧ Below w.heap.size w w' := by
  obtain ⟨ad, rfl⟩ : ∃ ad, ao = some ad := by
    cases ao with
    | none => have := (hv.nil rfl).1; omega
    | some ad => exact ⟨ad, rfl⟩
  have HV : Hid (∀ o, Vec (w.alloc o) (some ad) n ca R) := fun o => hv.below (below_alloc _ _)
  have HO : Hid ((w.alloc (.cells #[] 3)).ownsRow w.heap.size 3 1 (.slice (some ⟨w.heap.size, 0, none⟩) 0 0) 0 []) := World.ownsRow_lit w #[] 0 (Nat.le_refl _) (Nat.zero_le _) rfl
  clear hv
  go_enter Try.func24, Try.ntmps24
  have hnil := fun w => eq_nil_no w ad n ca
  have HB0 : Hid (∀ o, Below w.heap.size w (w.alloc o)) := fun o => below_alloc w o
  go_wp2_with (at_builtin; refine wpList_append_first (by rfl) (.tmp 5) (.tmp 6) (by rfl) w.heap.size n ca (some ⟨w.heap.size, 0, none⟩) (some ad) R (by rfl) (by rfl) HO.out (HV.out _) hn (by simp) ?_; intro ro cap w5 HO5 B5)
  go_ret
  obtain ⟨g, rfl, _⟩ := HO5.out.at_ (by omega)
  exact ⟨_, _, rfl, HO5.out, (HB0.out _).trans B5.out⟩
/-- A copy with a mark behind its end. -/
def Lent (B : Nat) (w : World) (g n cap : Nat) (R : Nat → Int) : Prop := Own B w (some ⟨g, 0, none⟩) (n + 1) cap (put n 77 R)
theorem Lent.vec {B : Nat} {w : World} {g n cap : Nat} {R : Nat → Int} (h : Lent B w g n cap R) : Vec w (some ⟨g, 0, none⟩) n cap R := by
  refine ⟨fun hp => ⟨g, 0, rfl, fun i hi => ?_⟩, (fun e => by cases e), by have := (Own.vec h).room; omega⟩
  have := h.cell (show i < n + 1 by omega)
  rw [put_ne _ _ (show i ≠ n by omega)] at this
  rw [Nat.zero_add]; exact this
theorem Lent.below {B : Nat} {w w' : World} {g n cap : Nat} {R : Nat → Int} (h : Lent B w g n cap R) (hb : Below w.heap.size w w') : Lent B w' g n cap R := Own.below h hb
theorem Lent.lt {B : Nat} {w : World} {g n cap : Nat} {R : Nat → Int} (h : Lent B w g n cap R) : B ≤ g ∧ g < w.heap.size := by
  obtain ⟨g', e, h1⟩ := Own.at_ h (by omega)
  cases e; exact h1
set_option maxHeartbeats 1000000 in
set_option maxRecDepth 100000 in
theorem lent_any (w : World) (ao : Option Addr) (n ca : Nat) (R : Nat → Int) (hv : Vec w ao n ca R) (hn : n ≤ 100000) :
    Calls Try.prog 12 #[.slice ao n ca] w fun e w' => ∃ g cap, e = .returned (.slice (some ⟨g, 0, none⟩) n cap) ∧ Lent w.heap.size w' g n cap R ∧ Below w.heap.size w w' := by
  have HV : Hid (Vec w ao n ca R) := hv
  have HO : Hid (w.ownsRow w.heap.size 3 1 (.slice none 0 0) 0 []) := World.ownsRow_nil _ _ _ _
  obtain ⟨i0, hi, hi0, hi1, hi2⟩ := info_parts info3
  clear hv
  go_enter Try.func12, Try.ntmps12
  go_wp2_with (at_builtin; first
    | (refine wpList_append_first (by rfl) (.tmp 4) (.tmp 5) (by rfl) w.heap.size n ca none ao R (by rfl) (by rfl) HO.out HV.out (by omega) (Nat.le_refl _) ?_; intro ro cap w5 HO5 B5
       have hsz := B5.out.size
       obtain ⟨XS, hXS⟩ : ∃ XS, XS = zOf n R := ⟨_, rfl⟩
       have HOW : Hid (∀ o, (w5.alloc o).ownsRow w.heap.size 3 1 (.slice ro n cap) n XS) := fun o => (by rw [hXS]; exact World.ownsRow.alloc HO5.out o)
       have HXS : Hid (XS ++ [.int .i64 77] = zOf (n + 1) (put n 77 R)) := (by show _ = _; rw [zOf_put, hXS])
       clear hXS)
    | (refine wpList_append_lies _ (by rfl) (.tmp 7) (.tmp 8) 26 (by rfl) w.heap.size 3 i0 (.int .i64 0) 1 8 Try.underlying26 hi hi0 hi1 hi2 (by rfl) (by decide) (.slice ro n cap) n XS (by rfl) (HOW.out _) ⟨w5.heap.size, 0, none⟩ 1 1 [.int .i64 77] (by rfl) (by rfl) (World.news_of_block (heap_alloc_new w5 _)) (by simp [Value.oneCell']) (by decide) (by unfold maxLen; omega) (by omega) (by simp; omega) (w5.heap.size + 1) (by simp) ?_; intro g6 cap6 w6 hown6 hgrow6 _ _
       have HO6 : Hid (Lent w.heap.size w6 g6 n cap6 R) := (by show World.ownsRow _ _ _ _ _ _ _; rw [← HXS.out]; exact hown6)
       have B6 : Hid (Below w.heap.size w w6) := (B5.out.alloc hsz _).grown hgrow6 (by simp; omega) (fun q hq => ((HOW.out (.cells #[] 3)).lt q hq).1)
       have hc6 : n + 1 ≤ cap6 := (Own.vec HO6.out).room
       have j1 : (n : Int) ≤ (cap6 : Int) := (by omega)
       have j2 : n ≤ cap6 := (by omega)
       clear hown6 hgrow6))
  go_ret
  exact ⟨_, _, rfl, HO6.out, B6.out⟩
theorem same_refl {n : Nat} {R : Nat → Int} : sameB n n R R = true := decide_eq_true ⟨rfl, fun _ _ => rfl⟩
set_option maxHeartbeats 1000000 in
set_option maxRecDepth 100000 in
theorem kept_any (w : World) (g n cap : Nat) (ao : Option Addr) (ca B : Nat) (R : Nat → Int) (hl : Lent B w g n cap R) (hv : Vec w ao n ca R) (hn : n ≤ 100000) :
    Calls Try.prog 18 #[.slice (some ⟨g, 0, none⟩) n cap, .slice ao n ca] w fun e w' => e = .returned (.bool true) ∧ ∃ q, w' = w.drewN q := by
  have HS := Same_any w (some ⟨g, 0, none⟩) ao n cap n ca R R hl.vec.rd hv.rd (by omega) (by omega)
  rw [same_refl] at HS
  have hc := Own.cell hl (show n < n + 1 by omega)
  rw [put_at] at hc
  have HC : Hid (∀ q, (w.drewN q).cell? ⟨g, n, none⟩ = some (.int .i64 77)) := fun _ => hc
  have hroom := Own.vec hl |>.room
  clear hl hv hc
  have j1 : (n : Int) + 1 ≤ (cap : Int) := by omega
  have j2 : (0 : Int) ≤ (n : Int) + 1 := by omega
  have j3 : n + 1 ≤ cap := hroom
  have j4 : (n : Int) < (n : Int) + 1 := by omega
  go_enter Try.func18, Try.ntmps18
  go_wp2_with fail
  refine HS.mono ?_
  rintro e w' ⟨rfl, hq⟩
  have hc : w'.cell? ⟨g, n, none⟩ = some (.int .i64 77) := by obtain ⟨q, rfl⟩ := hq; exact HC.out q
  have HQ : Hid (∃ q, w' = w.drewN q) := hq
  clear hq HC HS
  go_wp2_with fail
  go_ret
  exact ⟨rfl, HQ.out⟩
end Go.Proofs.Ytmncbeabhicbhaa
