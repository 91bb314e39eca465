/- NameOrder's walk. -/
import Derived.Test.YtdiecjkmbmgbkaaDoorNmN
namespace Go.Proofs.YtdiecjkmbmgbkaaDoor
open Go.RowKit

/-- A byte behind so many swaps. -/
def rv (l : Nm) (i j : Nat) : UInt8 := if j < i ∨ l.length ≤ j + i then l.getD (l.length - 1 - j) 0 else l.getD j 0
/-- A row of bytes that may be written. -/
def Rv (w : World) (g : Nat) (l : Nm) (i : Nat) : Prop := ∀ j, j < l.length → w.cell? ⟨g, j, none⟩ = some (.int .u8 ((rv l i j).toNat : Int)) ∧ w.frozen? ⟨g, j, none⟩ = false
theorem rv_new (w : World) (l : Nm) (cap : Nat) (hc : l.length ≤ cap) : Rv (w.drew.alloc (.cells (bytesRow ⟨l.toArray⟩ cap) 5 ((bytesRow ⟨l.toArray⟩ cap).size, (bytesRow ⟨l.toArray⟩ cap).size + 1))) w.heap.size l 0 := fun j hj => by
  refine ⟨?_, ?_⟩
  · rw [bytes_cell w l cap 5 _ j hj]
    have : rv l 0 j = l[j] := by
      unfold rv
      rw [if_neg (by omega), List.getD_eq_getElem?_getD, List.getElem?_eq_getElem hj]
      rfl
    rw [this]
  · have h : (w.drew.alloc (.cells (bytesRow ⟨l.toArray⟩ cap) 5 ((bytesRow ⟨l.toArray⟩ cap).size, (bytesRow ⟨l.toArray⟩ cap).size + 1))).heap[w.heap.size]? = some (.cells (bytesRow ⟨l.toArray⟩ cap) 5 ((bytesRow ⟨l.toArray⟩ cap).size, (bytesRow ⟨l.toArray⟩ cap).size + 1)) := by
      show (w.heap.push _)[w.heap.size]? = _
      simp
    have hs : (bytesRow ⟨l.toArray⟩ cap).size = cap := by simp [bytesRow, ByteArray.size]; omega
    unfold World.frozen?
    rw [h]
    simp [hs]
    omega
theorem rv_step {w : World} {g : Nat} {l : Nm} {i : Nat} (hi : i < l.length / 2) (h : Rv w g l i) :
    Rv ((w.setCell ⟨g, i, none⟩ (.int .u8 ((l.getD (l.length - 1 - i) 0).toNat : Int))).setCell ⟨g, l.length - 1 - i, none⟩ (.int .u8 ((l.getD i 0).toNat : Int))) g l (i + 1) := fun j hj => by
  refine ⟨?_, by rw [World.frozen?_setCell, World.frozen?_setCell]; exact (h j hj).2⟩
  by_cases e1 : j = l.length - 1 - i
  · subst e1
    rw [World.cell?_setCell_same _ _ _ (u := .int .u8 ((rv l i (l.length - 1 - i)).toNat : Int)) (by rw [World.cell?_setCell_other _ _ _ _ (by simp <;> omega)]; exact (h _ hj).1)]
    rw [show rv l (i + 1) (l.length - 1 - i) = l.getD i 0 by unfold rv; rw [if_pos (by omega), show l.length - 1 - (l.length - 1 - i) = i by omega]]
  · rw [World.cell?_setCell_other _ _ _ _ (by simp <;> omega)]
    by_cases e2 : j = i
    · subst e2
      rw [World.cell?_setCell_same _ _ _ (h _ hj).1]
      rw [show rv l (j + 1) j = l.getD (l.length - 1 - j) 0 by unfold rv; rw [if_pos (by omega)]]
    · rw [World.cell?_setCell_other _ _ _ _ (by simp <;> omega), (h j hj).1]
      congr 3
      unfold rv
      by_cases e3 : j < i ∨ l.length ≤ j + i
      · rw [if_pos e3, if_pos (by omega)]
      · rw [if_neg e3, if_neg (by omega)]
theorem rv_end {w : World} {g : Nat} {l : Nm} {i : Nat} (hi : i = l.length / 2) (h : Rv w g l i) : Bts w g l.reverse := fun j hj => by
  have hj' : j < l.length := by simpa using hj
  rw [(h j hj').1]
  have e : rv l i j = l.reverse[j] := by
    rw [List.getElem_reverse]
    unfold rv
    by_cases e3 : j < i ∨ l.length ≤ j + i
    · rw [if_pos e3, List.getD_eq_getElem?_getD, List.getElem?_eq_getElem (by omega)]
      rfl
    · rw [if_neg e3, List.getD_eq_getElem?_getD, List.getElem?_eq_getElem hj']
      have : l.length - 1 - j = j := by omega
      simp [this]
  rw [e]
theorem bkt_rev (l : Nm) : bkt l.reverse = bkt l ∧ erN l.reverse = erN l := by simp [bkt, erN, may, sumB_rev]
theorem bkt_range (l : Nm) : 0 ≤ bkt l ∧ bkt l < 4 := by
  unfold bkt
  split <;> omega
set_option maxHeartbeats 4000000 in
set_option maxRecDepth 100000 in
theorem order_law (w : World) (hsy : Syn w) (a b c : Nm) : Calls Tryd.prog 7 #[.string ⟨a.toArray⟩, .string ⟨b.toArray⟩, .string ⟨c.toArray⟩] w fun e w' => e = .returned (.bool true) ∧ Below w.heap.size w w' := by
  have hsa := str_size a
  have hsb := str_size b
  have hsc := str_size c
  have HA := alive_any w hsy
  have hab := Less_any a b
  have hba := Less_any b a
  have hbc := Less_any b c
  have hac := Less_any a c
  by_cases hbig : a.length ≤ 5000 ∧ b.length ≤ 5000 ∧ c.length ≤ 5000
  · obtain ⟨la, lb, lc⟩ := hbig
    have la' : (a.length : Int) ≤ 5000 := by omega
    have lb' : (b.length : Int) ≤ 5000 := by omega
    have lc' : (c.length : Int) ≤ 5000 := by omega
    go_enter Tryd.func7, Tryd.ntmps7
    go_wp2_with (fail)
    refine HA.mono ?_
    rintro _ w1 ⟨rfl, hb1⟩
    clear HA hsy
    have HB1 : Hid (Below w.heap.size w w1) := hb1
    clear hb1
    go_wp2_with (fail)
    refine (hab _).mono ?_
    rintro _ w2 ⟨rfl, rfl⟩
    go_wp2_with (fail)
    refine (hba _).mono ?_
    rintro _ w3 ⟨rfl, rfl⟩
    go_wp2_with (fail)
    refine (hbc _).mono ?_
    rintro _ w4 ⟨rfl, rfl⟩
    go_wp2_with (fail)
    refine (hac _).mono ?_
    rintro _ w5 ⟨rfl, rfl⟩
    clear hab hba hbc hac
    have hcond : ∃ p q r s t : Bool, decide (a < b) = p ∧ decide (b < a) = q ∧ decide (b < c) = r ∧ decide (a < c) = s ∧ (a == b) = t ∧ ((p = true ∧ q = false ∧ t = false ∧ (r = true → s = true)) ∨ (p = false ∧ q = true ∧ t = false) ∨ (p = false ∧ q = false ∧ t = true)) := by
      refine ⟨_, _, _, _, _, rfl, rfl, rfl, rfl, rfl, ?_⟩
      by_cases h1 : a < b
      · have h2 : ¬ b < a := fun h => nlt_irrefl _ (nlt_trans h1 h)
        have h3 : a ≠ b := fun e => by rw [e] at h1; exact nlt_irrefl _ h1
        refine .inl ⟨decide_eq_true h1, decide_eq_false h2, beq_eq_false_iff_ne.2 h3, fun h => decide_eq_true (nlt_trans h1 (of_decide_eq_true h))⟩
      · by_cases h3 : a = b
        · subst h3
          exact .inr (.inr ⟨decide_eq_false h1, decide_eq_false h1, by simp⟩)
        · have h2 := nlt_total _ _ h1 h3
          exact .inr (.inl ⟨decide_eq_false h1, decide_eq_true h2, beq_eq_false_iff_ne.2 h3⟩)
    obtain ⟨p, q, r, s, t, hp, hq, hr, hs, ht, hcs⟩ := hcond
    rw [hp, hq, hr, hs]
    clear hp hq hr hs
    have HC := conv_bytes a
    have HN0 : Hid (∀ (w : World), Rv (w.drew.alloc (.cells (bytesRow ⟨a.toArray⟩ (grownCap w a.length 0 5)) 5 ((bytesRow ⟨a.toArray⟩ (grownCap w a.length 0 5)).size, (bytesRow ⟨a.toArray⟩ (grownCap w a.length 0 5)).size + 1))) w.heap.size a 0) := fun w => rv_new w a _ (grownCap_ge _ _ _ _)
    have HB2 : Hid (∀ o, Below w5.heap.size w5 (w5.drew.alloc o)) := fun o => (below_drew _ _).alloc (Nat.le_refl _) _
    rcases hcs with ⟨rfl, rfl, rfl, hrs⟩ | ⟨rfl, rfl, rfl⟩ | ⟨rfl, rfl, rfl⟩
    all_goals (cases r <;> cases s)
    all_goals first | (exfalso; exact absurd (hrs rfl) (by decide)) | skip
    all_goals (
      go_wp2_with (fail)
      go_loopw [13] (fun x wr => ∃ i : Nat, i ≤ a.length / 2 ∧ x = .int .i64 (i : Int) ∧ Hid (Rv wr w5.heap.size a i) ∧ Hid (Below w5.heap.size w5 wr)) (fun x _ => a.length - (intOf x).toNat)
      case atStart => exact ⟨0, Nat.zero_le _, rfl, HN0.out w5, HB2.out _⟩
      case round =>
        obtain ⟨i, hi, rfl, hrv, hb⟩ := hrel
        have i0 : (0 : Int) ≤ (i : Int) := by omega
        by_cases hlt : i < a.length / 2
        · obtain ⟨m, hm⟩ : ∃ m, m = a.length - 1 - i := ⟨_, rfl⟩
          have i1 : (i : Int) < (a.length : Int) / 2 := by omega
          have i2 : (i : Int) < (a.length : Int) := by omega
          have m0 : (0 : Int) ≤ (m : Int) := by omega
          have m1 : (m : Int) < (a.length : Int) := by omega
          have hmi : (a.length : Int) - 1 - (i : Int) = (m : Int) := by omega
          obtain ⟨c1, f1⟩ := hrv.out i (by omega)
          obtain ⟨c2, f2⟩ := hrv.out m (by omega)
          rw [show rv a i i = a.getD i 0 by unfold rv; rw [if_neg (by omega)]] at c1
          rw [show rv a i m = a.getD m 0 by unfold rv; rw [if_neg (by omega)]] at c2
          have HST : Hid (Rv ((wr.setCell ⟨w5.heap.size, i, none⟩ (.int .u8 ((a.getD m 0).toNat : Int))).setCell ⟨w5.heap.size, m, none⟩ (.int .u8 ((a.getD i 0).toNat : Int))) w5.heap.size a (i + 1)) := by
            have := rv_step hlt hrv.out
            rw [← hm] at this
            exact this
          have c3 : ∀ v, (wr.setCell ⟨w5.heap.size, i, none⟩ v).cell? ⟨w5.heap.size, m, none⟩ = some (.int .u8 ((a.getD m 0).toNat : Int)) := fun v => by
            rw [World.cell?_setCell_other _ _ _ _ (by simp <;> omega)]; exact c2
          obtain ⟨x1, hx1⟩ : ∃ x1 : Int, x1 = ((a.getD i 0).toNat : Int) := ⟨_, rfl⟩
          obtain ⟨x2, hx2⟩ : ∃ x2 : Int, x2 = ((a.getD m 0).toNat : Int) := ⟨_, rfl⟩
          rw [← hx1] at c1 HST
          rw [← hx2] at c2 HST c3
          clear hm hx1 hx2
          go_wp2_with (fail)
          go_roundw
          case rel => exact ⟨i + 1, by omega, by go_num, HST, (hb.out.setCell (p := ⟨w5.heap.size, i, none⟩) (Nat.le_refl _) _).setCell (p := ⟨w5.heap.size, m, none⟩) (Nat.le_refl _) _⟩
          case measure => simp [intOf]; omega
        · have hie : i = a.length / 2 := by omega
          have hcv := conv_back a.reverse wr w5.heap.size (grownCap w5 a.length 0 5) (rv_end hie hrv.out)
          rw [List.length_reverse] at hcv
          have i1 : (a.length : Int) / 2 ≤ (i : Int) := by omega
          have HB1' := Bucket_any a wr
          have HB2' := Bucket_any a.reverse wr
          rw [(bkt_rev a).1, (bkt_rev a).2] at HB2'
          obtain ⟨g0, g1⟩ := bkt_range a
          have HBE : Hid (Below w.heap.size w wr) := below_then HB1.out hb.out
          clear hie hrv hb HN0 HB2
          go_wp2_with (fail)
          refine HB1'.mono ?_
          rintro _ w6 ⟨rfl, rfl⟩
          go_wp2_with (fail)
          refine HB2'.mono ?_
          rintro _ w6 ⟨rfl, rfl⟩
          go_wp2_with (fail)
          go_ret
          exact ⟨rfl, HBE.out⟩)
  · have hbig' : 5000 < (a.length : Int) ∨ 5000 < (b.length : Int) ∨ 5000 < (c.length : Int) := by omega
    go_enter Tryd.func7, Tryd.ntmps7
    go_wp2_with (fail)
    refine HA.mono ?_
    rintro _ w1 ⟨rfl, hb1⟩
    go_wp2_with (fail)
    all_goals (
      go_ret
      exact ⟨rfl, hb1⟩)
end Go.Proofs.YtdiecjkmbmgbkaaDoor
