/- The row of some names, by the program. -/
import Derived.Test.YtdiecjkmbmgbkaaDoorNmA
import Derived.Test.YtdiecjkmbmgbkaaDoorShB
import Derived.Test.YtdiecjkmbmgbkaaDoorShC
import Derived.Lib.OwnBridge
import Derived.Sort.OwnSorted
namespace Go.Proofs.YtdiecjkmbmgbkaaDoor
open Go.RowKit Go.Sort

/-- Names that are read at an address. -/
def RdS (w : World) (ao : Option Addr) (L : List Nm) : Prop :=
  L ≠ [] → ∃ b off, ao = some ⟨b, off, none⟩ ∧ ∀ j (hj : j < L.length), w.cell? ⟨b, off + j, none⟩ = some (.string ⟨(L[j]'hj).toArray⟩)
theorem RdS.below {w w' : World} {ao : Option Addr} {L : List Nm} (h : RdS w ao L) (hb : Below w.heap.size w w') : RdS w' ao L := fun hL => by
  obtain ⟨b, off, e, hc⟩ := h hL
  exact ⟨b, off, e, fun j hj => held (hc j hj) hb⟩
/-- Names in a row of the call's own. -/
def OwN (B : Nat) (w : World) (ao : Option Addr) (L : List Nm) : Prop :=
  L ≠ [] → ∃ g, ao = some ⟨g, 0, none⟩ ∧ B ≤ g ∧ g < w.heap.size ∧ ∀ j (hj : j < L.length), w.cell? ⟨g, j, none⟩ = some (.string ⟨(L[j]'hj).toArray⟩) ∧ w.frozen? ⟨g, j, none⟩ = false
theorem OwN.rd {B : Nat} {w : World} {ao : Option Addr} {L : List Nm} (h : OwN B w ao L) : RdS w ao L := fun hL => by
  obtain ⟨g, e, _, _, hc⟩ := h hL
  exact ⟨g, 0, e, fun j hj => by rw [Nat.zero_add]; exact (hc j hj).1⟩
theorem OwN.below {B : Nat} {w w' : World} {ao : Option Addr} {L : List Nm} (h : OwN B w ao L) (hb : Below w.heap.size w w') : OwN B w' ao L := fun hL => by
  obtain ⟨g, e, h1, h2, hc⟩ := h hL
  exact ⟨g, e, h1, Nat.lt_of_lt_of_le h2 hb.size, fun j hj => ⟨held (hc j hj).1 hb, by rw [World.frozen?_of_block (hb.block g h2)]; exact (hc j hj).2⟩⟩
theorem OwN.mono {B B' : Nat} {w : World} {ao : Option Addr} {L : List Nm} (h : OwN B w ao L) (hB : B' ≤ B) : OwN B' w ao L := fun hL => by
  obtain ⟨g, e, h1, h2, hc⟩ := h hL
  exact ⟨g, e, Nat.le_trans hB h1, h2, hc⟩
def erS (L : List Nm) : Int := if 65536 < L.length then 20 else if L.all may = true then 0 else 6
def rowS (L : List Nm) : List Nm := if L.length ≤ 65536 ∧ L.all may = true then srt L else []
theorem rowS_le (L : List Nm) : (rowS L).length ≤ L.length := by
  unfold rowS
  split
  · exact srt_length L
  · simp
/-- Behind the sort and the cut. -/
theorem nm_end {B g q nn : Nat} {w1 : World} {os : Array Obj} {zs : List Nm} (hH : Holds encStr w1 g 0 zs.toArray) (hg : g < w1.heap.size) (hB : B ≤ g) :
    OwN B (putRow encStr (Sort.ahead (grow (putRow encStr (Sort.ahead w1 nn) g 0 (zs.mergeSort fun x y => decide (x ≤ y)).toArray) os) q) g 0 (Lib.compact (zs.mergeSort fun x y => decide (x ≤ y)) ++ List.replicate ((zs.mergeSort fun x y => decide (x ≤ y)).length - (Lib.compact (zs.mergeSort fun x y => decide (x ≤ y))).length) []).toArray) (some ⟨g, 0, none⟩) (srt zs) ∧
    Below B w1 (putRow encStr (Sort.ahead (grow (putRow encStr (Sort.ahead w1 nn) g 0 (zs.mergeSort fun x y => decide (x ≤ y)).toArray) os) q) g 0 (Lib.compact (zs.mergeSort fun x y => decide (x ≤ y)) ++ List.replicate ((zs.mergeSort fun x y => decide (x ≤ y)).length - (Lib.compact (zs.mergeSort fun x y => decide (x ≤ y))).length) []).toArray) := by
  rw [← compact_sort]
  have hsl : (zs.mergeSort fun x y => decide (x ≤ y)).length = zs.length := by rw [List.length_mergeSort]
  have hle := Lib.compact_length_le (zs.mergeSort fun x y => decide (x ≤ y))
  generalize zs.mergeSort (fun x y => decide (x ≤ y)) = ss at *
  have hH2 : Holds encStr (grow (putRow encStr (Sort.ahead w1 nn) g 0 ss.toArray) os) g 0 ss.toArray :=
    holds_grow _ _ os _ 0 _ (by simpa [putRow, mapBlock, Sort.ahead] using hg) (holds_putRow _ _ _ 0 _ _ (holds_ahead _ w1 nn _ 0 _ hH) (by simp; omega))
  have hH3 := holds_putRow encStr _ g 0 _ (Lib.compact ss ++ List.replicate (ss.length - (Lib.compact ss).length) []).toArray (holds_ahead _ _ q _ 0 _ hH2) (by simp; omega)
  constructor
  · intro _
    refine ⟨g, rfl, hB, ?_, fun j hj => ?_⟩
    · simp [putRow, mapBlock, Sort.ahead, grow]; omega
    · have h := hH3 j (by simp; omega)
      rw [Nat.zero_add] at h
      refine ⟨?_, h.2⟩
      rw [h.1, getElem!_pos _ j (by simp; omega)]
      simp [List.getElem_append_left hj, encStr]
  · exact Lib.below_putRow ((Below.refl B w1).grown (grownBy_sorted _) (by omega) (fun j hj => by cases hj; exact hB)) hB
/-- The row that Clone makes, as the sort wants it. -/
theorem clone_holds {B : Nat} {w : World} {v : Value} {L : List Nm} (hL : L ≠ []) (h : w.ownsRow B 9 1 v L.length (L.map fun l => Value.string ⟨l.toArray⟩)) : ∃ g cap, v = .slice (some ⟨g, 0, none⟩) L.length cap ∧ B ≤ g ∧ g < w.heap.size ∧ L.length ≤ cap ∧ Holds encStr w g 0 L.toArray := by
  rcases h.2 with ⟨_, e⟩ | ⟨g, cap, cur, e1, e2, e3, e4, _, _, e5⟩
  · exact absurd (List.length_eq_zero_iff.1 e) hL
  · exact ⟨g, cap, e1, e2, (Array.getElem?_eq_some_iff.1 e3).1, e4, holds_of_block e3 (by rw [Nat.mul_one] at e5; exact e5)⟩
theorem erS_big {L : List Nm} (h : 65536 < L.length) : erS L = 20 ∧ rowS L = [] := ⟨if_pos h, if_neg (by omega)⟩
theorem erS_bad {L : List Nm} (h : L.length ≤ 65536) {j : Nat} (hj : j < L.length) (hm : may (L[j]'hj) = false) : erS L = 6 ∧ rowS L = [] := by
  have : L.all may ≠ true := fun e => by
    have := List.all_eq_true.1 e _ (List.getElem_mem hj)
    rw [hm] at this; cases this
  exact ⟨by rw [erS, if_neg (by omega), if_neg this], if_neg fun e => this e.2⟩
theorem erS_good {L : List Nm} (h : L.length ≤ 65536) (hm : ∀ j (hj : j < L.length), may (L[j]'hj) = true) : erS L = 0 ∧ rowS L = srt L := by
  have : L.all may = true := List.all_eq_true.2 fun x hx => by
    obtain ⟨j, hj, rfl⟩ := List.mem_iff_getElem.1 hx
    exact hm j hj
  exact ⟨by rw [erS, if_neg (by omega), if_pos this], if_pos ⟨h, this⟩⟩
/-- What Sort tells of a list. -/
def AnsS (w : World) (L : List Nm) (r : Ending) (w' : World) : Prop := ∃ ao cap, r = .returned (.tuple #[.slice ao (rowS L).length cap, .int .i64 (erS L)]) ∧ (rowS L).length ≤ cap ∧ OwN w.heap.size w' ao (rowS L) ∧ Below w.heap.size w w'
theorem ansS_no {w w' : World} {L : List Nm} {e : Int} (h : erS L = e ∧ rowS L = []) (hb : Below w.heap.size w w') : AnsS w L (.returned (.tuple #[.slice none 0 0, .int .i64 e])) w' := by
  refine ⟨none, 0, ?_, ?_, ?_, hb⟩
  · rw [h.1, h.2]; rfl
  · rw [h.2]; exact Nat.le_refl _
  · rw [h.2]; exact fun g => absurd rfl g
set_option maxHeartbeats 2000000 in
set_option maxRecDepth 100000 in
theorem Sort_any (L : List Nm) (hn : L.length ≤ 1000000) (ao : Option Addr) (cap : Nat) (w : World) (hr : RdS w ao L) : Calls Tryd.prog 15 #[.slice ao L.length cap] w fun r w' => AnsS w L r w' := by
  by_cases hbig : 65536 < L.length
  · have hE := erS_big hbig
    go_enter Tryd.func15, Tryd.ntmps15
    go_wp2_with (fail)
    go_ret2
    exact ansS_no hE (Below.refl _ _)
  · have hle : L.length ≤ 65536 := by omega
    have HR : Hid (RdS w ao L) := hr
    clear hr hbig
    go_enter Tryd.func15, Tryd.ntmps15
    go_wp2_with (fail)
    go_loopw [13] (fun x wr => ∃ i : Nat, i ≤ L.length ∧ x = .int .i64 (i : Int) ∧ Hid (∀ j (hj : j < L.length), j < i → may (L[j]'hj) = true) ∧ wr = w) (fun x _ => L.length - (intOf x).toNat)
    case atStart => exact ⟨0, Nat.zero_le _, rfl, fun j hj h => by omega, rfl⟩
    case round =>
      obtain ⟨i, hi, rfl, hm, rfl⟩ := hrel
      have i0 : (0 : Int) ≤ (i : Int) := by omega
      by_cases hlt : i < L.length
      · have i1 : (i : Int) < (L.length : Int) := by omega
        obtain ⟨b, off, rfl, hc⟩ := HR.out (by intro e; rw [e] at hlt; simp at hlt)
        have ck := hc i hlt
        have HC := Check_any (L[i]'hlt) wr
        clear hc
        cases hmi : may (L[i]'hlt)
        · have hE := erS_bad hle hlt hmi
          rw [erN_bad hmi] at HC
          go_wp2_with (fail)
          refine HC.mono ?_
          rintro _ w1 ⟨rfl, rfl⟩
          go_wp2_with (fail)
          go_ret2
          exact ansS_no hE (Below.refl _ _)
        · have hm2 : Hid (∀ j (hj : j < L.length), j < i + 1 → may (L[j]'hj) = true) := fun j hj h => by
            by_cases e : j = i
            · subst e; exact hmi
            · exact hm.out j hj (by omega)
          rw [erN_good hmi] at HC
          go_wp2_with (fail)
          refine HC.mono ?_
          rintro _ w1 ⟨rfl, rfl⟩
          go_wp2_with (fail)
          go_roundw
          case rel => exact ⟨i + 1, by omega, by go_num, hm2, trivial⟩
          case measure => simp [intOf]; omega
      · obtain rfl : i = L.length := by omega
        have hE := erS_good hle (fun j hj => hm.out j hj hj)
        clear hm
        by_cases hL : L = []
        · subst hL
          cases ao with
          | none =>
            go_wp2_with (fail)
            refine (slices_Clone_string_nil _ _ wr).mono ?_
            rintro _ w1 ⟨rfl, rfl⟩
            go_wp2_with (fail)
            refine (slices_Sort_string_none _ _ w1).mono ?_
            rintro _ w2 ⟨rfl, rfl⟩
            go_wp2_with (fail)
            refine (slices_Compact_string_empty _ _ w2).mono ?_
            rintro _ w3 ⟨rfl, rfl⟩
            go_wp2_with (fail)
            go_ret2
            exact ansS_no hE (Below.refl _ _)
          | some a =>
            go_wp2_with (fail)
            refine (slices_Clone_string_zero a _ wr).mono ?_
            rintro _ w1 ⟨v', rfl, ho, hne, hb⟩
            obtain ⟨g, cp, rfl⟩ : ∃ g cp, v' = .slice (some ⟨g, 0, none⟩) 0 cp := by
              rcases ho.2 with ⟨e, _⟩ | ⟨g, cp, _, e, _⟩
              · exact absurd e hne
              · exact ⟨g, cp, e⟩
            clear ho hne
            go_wp2_with (fail)
            refine (slices_Sort_string_none _ _ w1).mono ?_
            rintro _ w2 ⟨rfl, rfl⟩
            go_wp2_with (fail)
            refine (slices_Compact_string_empty _ _ w2).mono ?_
            rintro _ w3 ⟨rfl, rfl⟩
            go_wp2_with (fail)
            go_ret2
            exact ⟨_, _, by rw [hE.1, hE.2]; rfl, by rw [hE.2]; exact Nat.zero_le _, fun h => absurd hE.2 h, hb⟩
        · obtain ⟨b, off, rfl, hc⟩ := HR.out hL
          have HCL := slices_Clone_string b off L.length cap (L.map fun l => (⟨l.toArray⟩ : ByteArray)) wr (by simp) (by omega) (fun j hj => by
            have hj' : j < L.length := by simpa using hj
            rw [hc j hj']
            simp [List.getD_eq_getElem?_getD, hj'])
          have hl0 : L.length ≠ 0 := fun e => hL (List.length_eq_zero_iff.1 e)
          clear hc
          go_wp2_with (fail)
          refine HCL.mono ?_
          rintro _ w1 ⟨v', rfl, ho, _, hb⟩
          rw [List.take_of_length_le (by simp), List.map_map] at ho
          obtain ⟨g, cp, rfl, hg1, hg2, hcp, hH⟩ := clone_holds hL ho
          have HSO := slices_Sort_string g 0 cp L w1 hH hg2 (by omega)
          have hsl : (L.mergeSort fun x y => decide (x ≤ y)).length = L.length := by rw [List.length_mergeSort]
          have HB1 : Hid (Below wr.heap.size wr w1) := hb
          have HEN : Hid (∀ nn os q, _ ∧ _) := fun nn os q => nm_end (B := wr.heap.size) (q := q) (nn := nn) (os := os) hH hg2 hg1
          have HH2 : Hid (∀ nn os, Holds encStr (grow (putRow encStr (Sort.ahead w1 nn) g 0 (L.mergeSort fun x y => decide (x ≤ y)).toArray) os) g 0 (L.mergeSort fun x y => decide (x ≤ y)).toArray) := fun nn os =>
            holds_grow _ _ os _ 0 _ (by simpa [putRow, mapBlock, Sort.ahead] using hg2) (holds_putRow _ _ _ 0 _ _ (holds_ahead _ w1 nn _ 0 _ hH) (by simp))
          clear ho hb hH HCL
          go_wp2_with (fail)
          refine HSO.mono ?_
          rintro _ w2 ⟨rfl, nn, os, hw2⟩
          have HCO := slices_Compact_string g 0 cp (L.mergeSort fun x y => decide (x ≤ y)) w2 (by rw [hw2]; exact HH2.out nn os) (by omega) (by omega)
          have HE2 : Hid (∀ q, _ ∧ _) := fun q => HEN.out nn os q
          rw [← hw2] at HE2
          rw [hsl] at HCO HE2
          rw [compact_sort] at HCO HE2
          obtain ⟨M, hM⟩ : ∃ M, M = srt L := ⟨_, rfl⟩
          rw [← hM] at HCO HE2 hE
          clear hw2 HSO HEN HH2 hM
          go_wp2_with (fail)
          refine HCO.mono ?_
          rintro _ w3 ⟨rfl, q, hw3⟩
          have HE := HE2.out q
          rw [← hw3] at HE
          clear hw3 HCO
          go_wp2_with (fail)
          go_ret2
          have hMl : M.length ≤ L.length := by rw [← hE.2]; exact rowS_le L
          exact ⟨_, _, by rw [hE.1, hE.2]; rfl, by rw [hE.2]; omega, by rw [hE.2]; exact HE.1, HB1.out.trans HE.2⟩
end Go.Proofs.YtdiecjkmbmgbkaaDoor
