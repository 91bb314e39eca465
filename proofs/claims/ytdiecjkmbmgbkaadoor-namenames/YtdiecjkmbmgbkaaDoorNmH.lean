/- A quoted name read, by the document; a name quoted, by the program. -/
import Derived.Test.YtdiecjkmbmgbkaaDoorNmG
import Derived.Test.YtdiecjkmbmgbkaaDoorShW
namespace Go.Proofs.YtdiecjkmbmgbkaaDoor
open Go.RowKit

def plS (l : Nm) : Nm := if (unq l).1 = true ∧ may (unq l).2.1 = true then (unq l).2.1 else []
def plP (l : Nm) : Nat := if (unq l).1 = true then 0 else (unq l).2.2
def plE (l : Nm) : Int := if (unq l).1 = true ∧ may (unq l).2.1 = true then 0 else 6
/-- What Plain tells of a text. -/
def AnsL (w : World) (l : Nm) (r : Ending) (w' : World) : Prop := r = .returned (.tuple #[.string ⟨(plS l).toArray⟩, .int .i64 ((plP l : Nat) : Int), .int .i64 (plE l)]) ∧ Below w.heap.size w w'
theorem pl_no {l : Nm} {p : Nat} (h : unq l = (false, [], p)) : plS l = [] ∧ plP l = p ∧ plE l = 6 := by simp [plS, plP, plE, h]
theorem pl_bad {l n : Nm} {p : Nat} (h : unq l = (true, n, p)) (hm : may n = false) : plS l = [] ∧ plP l = 0 ∧ plE l = 6 := by simp [plS, plP, plE, h, hm]
theorem pl_yes {l n : Nm} {p : Nat} (h : unq l = (true, n, p)) (hm : may n = true) : plS l = n ∧ plP l = 0 ∧ plE l = 0 := by simp [plS, plP, plE, h, hm]
set_option maxHeartbeats 1000000 in
set_option maxRecDepth 100000 in
theorem RPlain_any (l : Nm) (hl : l.length ≤ 100000) (w : World) : Calls Tryd.prog 17 #[.string ⟨l.toArray⟩] w fun r w' => AnsL w l r w' := by
  have hs := str_size l
  have HB := begin_any l hl w
  go_enter Tryd.func17, Tryd.ntmps17
  go_wp2_with (fail)
  refine HB.mono ?_
  rintro _ w1 ⟨⟨n, p, b, rfl, hp, h⟩, hb⟩
  clear HB
  rcases h with ⟨rfl, hu⟩ | ⟨rfl, hlt, hu⟩ | ⟨rfl, rfl, hu⟩
  · obtain ⟨h1, h2, h3⟩ := pl_no hu
    clear hu
    go_wp2_with (fail)
    go_ret3
    exact ⟨by rw [h1, h2, h3]; rfl, hb⟩
  · obtain ⟨h1, h2, h3⟩ := pl_no hu
    clear hu
    go_wp2_with (fail)
    go_ret3
    exact ⟨by rw [h1, h2, h3]; rfl, hb⟩
  · have HM := May_any n
    cases hm : may n
    · obtain ⟨h1, h2, h3⟩ := pl_bad hu hm
      rw [hm] at HM
      clear hu
      go_wp2_with (fail)
      refine (HM _).mono ?_
      rintro _ w2 ⟨rfl, rfl⟩
      go_wp2_with (fail)
      go_ret3
      exact ⟨by rw [h1, h2, h3]; rfl, hb⟩
    · obtain ⟨h1, h2, h3⟩ := pl_yes hu hm
      rw [hm] at HM
      clear hu
      go_wp2_with (fail)
      refine (HM _).mono ?_
      rintro _ w2 ⟨rfl, rfl⟩
      go_wp2_with (fail)
      go_ret3
      exact ⟨by rw [h1, h2, h3]; rfl, hb⟩
/-! ### The program's quoted text -/
theorem bc_str (l : Nm) : Lib.strCells ⟨l.toArray⟩ = Lib.byteCells l := by simp [Lib.strCells, Lib.byteCells]
theorem bd_below {B b : Nat} {bs : List Value} {w w' : World} (h : Lib.IsBuilderF 42 5 B b bs w) (hb : Below w.heap.size w w') : Lib.IsBuilderF 42 5 B b bs w' := by
  have key : ∀ p, Lib.BuilderAtF 42 5 B b p bs w → Lib.BuilderAtF 42 5 B b p bs w' := fun p h => by
    have hlt := h.lt
    obtain ⟨hB, v, hbk, ⟨ho1, ho⟩, hne⟩ := h
    refine ⟨hB, v, by rw [hb.block b hlt]; exact hbk, ⟨ho1, ?_⟩, hne⟩
    rcases ho with e | ⟨g, cap, cur, fz, e1, e2, e3, e4⟩
    · exact .inl e
    · refine .inr ⟨g, cap, cur, fz, e1, e2, ?_, e4⟩
      have : g < w.heap.size := by
        rcases Nat.lt_or_ge g w.heap.size with h' | h'
        · exact h'
        · rw [Array.getElem?_eq_none h'] at e3; cases e3
      rw [hb.block g this]; exact e3
  rcases h with h | h
  · exact .inl (key _ h)
  · exact .inr (key _ h)
set_option maxHeartbeats 2000000 in
set_option maxRecDepth 100000 in
theorem Quote_any (l : Nm) (w : World) : Calls Tryd.prog 10 #[.string ⟨l.toArray⟩] w fun e w' => e = .returned (.tuple #[.string ⟨(quoA l).toArray⟩, .int .i64 (erN l)]) ∧ Below w.heap.size w w' := by
  have hs := str_size l
  have HC := Check_any l
  cases hm : may l
  · rw [erN_bad hm] at HC ⊢
    rw [show quoA l = [] from if_neg (by rw [hm]; decide)]
    go_enter Tryd.func10, Tryd.ntmps10
    go_wp2_with (fail)
    refine (HC _).mono ?_
    rintro e w1 ⟨rfl, rfl⟩
    go_wp2
    go_ret2
    exact ⟨rfl, Below.refl _ _⟩
  · rw [erN_good hm] at HC ⊢
    have h2 := ((may_iff l).1 hm).2
    rw [show quoA l = quo l from if_pos hm]
    go_enter Tryd.func10, Tryd.ntmps10
    go_wp2_with (fail)
    refine (HC _).mono ?_
    rintro e w1 ⟨rfl, rfl⟩
    go_wp2_with (fail)
    have hI := Lib.IsBuilderF.of (Lib.fresh_isBuilder 42 5 w1)
    refine (WriteByte_k w1.heap.size w1.heap.size [] 34 _ hI (by simp) (by simp)).mono ?_
    rintro e w2 ⟨rfl, h1, b1, _⟩
    have HI : Hid (Lib.IsBuilderF 42 5 w1.heap.size w1.heap.size (Lib.byteCells [34]) w2) := .inr h1
    have HB : Hid (Below w1.heap.size w1 w2) := (below_alloc _ _).trans b1
    clear h1 b1 hI
    go_wp2_with (fail)
    go_loopw [15] (fun x wr => ∃ i : Nat, i ≤ l.length ∧ x = .int .i64 (i : Int) ∧ Hid (Lib.IsBuilderF 42 5 w1.heap.size w1.heap.size (Lib.byteCells (34 :: (l.take i).flatMap shw)) wr) ∧ Hid (Below w1.heap.size w1 wr)) (fun x _ => l.length - (intOf x).toNat)
    case atStart => exact ⟨0, Nat.zero_le _, rfl, HI, HB⟩
    case round =>
      obtain ⟨i, hi, rfl, ho, hb⟩ := hrel
      by_cases hlt : i < l.length
      · have i1 : (0 : Int) ≤ (i : Int) := by omega
        have i2 : (i : Int) < ((ByteArray.mk l.toArray).size : Int) := by omega
        have hfl := flat_le (l.take i)
        have hsl := shw_len (l[i]'hlt)
        rw [List.length_take] at hfl
        go_wp2_with (fail)
        refine (shows_any (l[i]'hlt) wr).mono ?_
        rintro _ w3 ⟨rfl, hb3⟩
        have HO : Hid (Lib.IsBuilderF 42 5 w1.heap.size w1.heap.size (Lib.byteCells (34 :: (l.take i).flatMap shw)) w3) := bd_below ho.out hb3
        have HB3 : Hid (Below w1.heap.size w1 w3) := below_then hb.out hb3
        go_wp2_with (fail)
        refine (WriteString_k w1.heap.size w1.heap.size _ ⟨(shw (l[i]'hlt)).toArray⟩ w3 HO.out (by rw [Lib.byteCells_length, str_size]; simp only [List.length_cons]; omega) HB3.out.size).mono ?_
        rintro _ w4 ⟨rfl, h4, b4, _⟩
        have HO4 : Hid (Lib.IsBuilderF 42 5 w1.heap.size w1.heap.size (Lib.byteCells (34 :: (l.take (i + 1)).flatMap shw)) w4) := by
          refine .inr ?_
          rw [flat_take l i hlt, ← List.cons_append, Lib.byteCells_append, ← bc_str (shw l[i])]
          exact h4
        have HB4 : Hid (Below w1.heap.size w1 w4) := HB3.out.trans b4
        clear h4 b4
        go_wp2_with (fail)
        go_roundw
        case rel => exact ⟨i + 1, by omega, by go_num, HO4, HB4⟩
        case measure => simp [intOf]; omega
      · obtain rfl : i = l.length := by omega
        rw [List.take_length] at ho
        have hfl := flat_le l
        go_wp2_with (fail)
        refine (WriteByte_k w1.heap.size w1.heap.size _ 34 wr ho.out (by rw [Lib.byteCells_length]; simp only [List.length_cons]; omega) hb.out.size).mono ?_
        rintro _ w3 ⟨rfl, h3, b3, _⟩
        have HO3 : Hid (Lib.IsBuilderF 42 5 w1.heap.size w1.heap.size (Lib.byteCells (quo l)) w3) := by
          refine .inr ?_
          rw [quo, ← List.cons_append, Lib.byteCells_append]
          exact h3
        have HB3 : Hid (Below w1.heap.size w1 w3) := hb.out.trans b3
        clear h3 b3
        go_wp2_with (fail)
        refine (Builder_String_any_k w1.heap.size w1.heap.size (quo l) w3 HO3.out HB3.out.size).mono ?_
        rintro _ w4 ⟨rfl, _, b4, _⟩
        go_wp2_with (fail)
        go_ret2
        exact ⟨rfl, HB3.out.trans b4⟩
end Go.Proofs.YtdiecjkmbmgbkaaDoor
