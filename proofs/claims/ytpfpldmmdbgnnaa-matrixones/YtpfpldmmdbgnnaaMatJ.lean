/- The answers that the document fixes: the program gives them. -/
import Derived.Test.YtpfpldmmdbgnnaaMatI
namespace Go.Proofs.Ytpfpldmmdbgnnaa
open Go.RowKit

/-- The cells of n bytes. -/
def cellsOf (n : Nat) (f : Nat → K) : List Value := (List.range n).map fun i => .int .u8 ((f i).n : Int)
theorem cellsOf_length (n : Nat) (f : Nat → K) : (cellsOf n f).length = n := by simp [cellsOf]
theorem cellsOf_get (n : Nat) (f : Nat → K) (i : Nat) (h : i < n) : (cellsOf n f)[i]? = some (.int .u8 ((f i).n : Int)) := by simp [cellsOf, h]
theorem cellsOf_one (n : Nat) (f : Nat → K) : ∀ v ∈ cellsOf n f, v.oneCell' = true := by
  intro v hv
  simp only [cellsOf, List.mem_map] at hv
  obtain ⟨i, _, rfl⟩ := hv
  rfl
def lit (l : List Nat) (i : Nat) : K := K.of (l.getD i 0)
def two {α : Type} (a b : α) (i : Nat) : α := if i = 0 then a else b
def three {α : Type} (a b c : α) (i : Nat) : α := if i = 0 then a else if i = 1 then b else c
theorem rd_lit {w : World} {g : Nat} (hg : w.heap.size = g) (l : List Nat) (cs : Array Value) (hcs : cs = (cellsOf l.length (lit l)).toArray) :
    Rd (w.alloc (.cells cs 5)) (some ⟨g, 0, none⟩) l.length (lit l) := by
  subst hg; subst hcs
  refine fun _ => ⟨_, _, rfl, fun i hi => ?_⟩
  rw [Nat.zero_add, cell_of_row _ _ _ _ _ _ (heap_alloc_new w _), List.getElem?_toArray, cellsOf_get _ _ _ hi]
theorem below_alloc (w : World) (o : Obj) : Below w.heap.size w (w.alloc o) := (Below.refl _ w).alloc (Nat.le_refl _) o
theorem Rd.alloc {w : World} {ao : Option Addr} {n : Nat} {f : Nat → K} (h : Rd w ao n f) (o : Obj) : Rd (w.alloc o) ao n f := h.below (below_alloc w o)
theorem Lst.alloc {w : World} {lo : Option Addr} {ll : Nat} {A : Nat → Option Addr} {C L : Nat → Nat} {H : M} (h : Lst w lo ll A C L H) (o : Obj) : Lst (w.alloc o) lo ll A C L H := h.below (below_alloc w o)
theorem more {w w' : World} (h : Below w.heap.size w w') (o : Obj) : Below w.heap.size w (w'.alloc o) := h.alloc h.size o
theorem lst1 {w : World} {g : Nat} (hg : w.heap.size = g) (ao : Option Addr) (la ca : Nat) (f : Nat → K) (ha : Rd w ao la f) :
    Lst (w.alloc (.cells #[.slice ao la ca] 34)) (some ⟨g, 0, none⟩) 1 (fun _ => ao) (fun _ => ca) (fun _ => la) (fun _ => f) := by
  subst hg
  refine ⟨fun i hi => ha.alloc _, fun _ => ⟨_, _, rfl, fun i hi => ?_⟩⟩
  obtain rfl : i = 0 := by omega
  rw [cell_of_row _ _ _ _ _ _ (heap_alloc_new w _)]; rfl
theorem lst2 {w : World} {g : Nat} (hg : w.heap.size = g) (ao bo : Option Addr) (la ca lb cb : Nat) (f h : Nat → K) (ha : Rd w ao la f) (hb : Rd w bo lb h) :
    Lst (w.alloc (.cells #[.slice ao la ca, .slice bo lb cb] 34)) (some ⟨g, 0, none⟩) 2 (two ao bo) (two ca cb) (two la lb) (two f h) := by
  subst hg
  refine ⟨fun i hi => ?_, fun _ => ⟨_, _, rfl, fun i hi => ?_⟩⟩
  all_goals (obtain rfl | rfl : i = 0 ∨ i = 1 := by omega)
  · exact ha.alloc _
  · exact hb.alloc _
  all_goals (rw [cell_of_row _ _ _ _ _ _ (heap_alloc_new w _)]; rfl)
theorem lst3 {w : World} {g : Nat} (hg : w.heap.size = g) (ao bo co : Option Addr) (la ca lb cb lc cc : Nat) (f h k : Nat → K) (ha : Rd w ao la f) (hb : Rd w bo lb h) (hc : Rd w co lc k) :
    Lst (w.alloc (.cells #[.slice ao la ca, .slice bo lb cb, .slice co lc cc] 34)) (some ⟨g, 0, none⟩) 3 (three ao bo co) (three ca cb cc) (three la lb lc) (three f h k) := by
  subst hg
  refine ⟨fun i hi => ?_, fun _ => ⟨_, _, rfl, fun i hi => ?_⟩⟩
  all_goals (obtain rfl | rfl | rfl : i = 0 ∨ i = 1 ∨ i = 2 := by omega)
  · exact ha.alloc _
  · exact hb.alloc _
  · exact hc.alloc _
  all_goals (rw [cell_of_row _ _ _ _ _ _ (heap_alloc_new w _)]; rfl)
def lit2I (a b : Int) (i : Nat) : Int := if i = 0 then a else b
theorem rdI2 {w : World} {g : Nat} (hg : w.heap.size = g) (a b : Int) : RdI (w.alloc (.cells #[.int .i64 a, .int .i64 b] 3)) (some ⟨g, 0, none⟩) 2 (lit2I a b) := by
  subst hg
  refine fun _ => ⟨_, _, rfl, fun i hi => ?_⟩
  obtain rfl | rfl : i = 0 ∨ i = 1 := by omega
  all_goals (rw [cell_of_row _ _ _ _ _ _ (heap_alloc_new w _)]; rfl)

theorem rank_12_24 : rankOf 2 2 (two (lit [1, 2]) (lit [2, 4])) = 1 := by
  refine rankOf_eq ⟨⟨fun i _ => lit [1, 2] i, fun _ j => lit [1, 2] j, fun i j hi hj => ?_⟩, fun r hr => ?_⟩
  · obtain rfl | rfl : i = 0 ∨ i = 1 := by omega
    all_goals (obtain rfl | rfl : j = 0 ∨ j = 1 := by omega)
    all_goals exact K.ext (by decide +kernel)
  · obtain ⟨X, Y, h⟩ := hr
    by_cases e : r = 0
    · subst e
      have := congrArg K.n (h 0 0 (by decide) (by decide))
      exact absurd (show (1 : Nat) = 0 from this) (by decide)
    · omega
theorem inv_2 : IsInv 1 (fun _ => lit [2]) (fun _ _ => K.of 142) := by
  intro i j hi hj
  obtain rfl : i = 0 := by omega
  obtain rfl : j = 0 := by omega
  exact ⟨K.ext (by decide +kernel), K.ext (by decide +kernel)⟩
theorem lost_11_11 : invB 2 (two (lit [1, 1]) (lit [1, 1])) = false := by
  rw [invB_rk]
  refine decide_eq_false fun e => ?_
  have h := rankOf_rk 2 2 (two (lit [1, 1]) (lit [1, 1]))
  rw [e] at h
  have := h.2 1 ⟨fun _ _ => 1, fun _ _ => 1, fun i j hi hj => by
    obtain rfl | rfl : i = 0 ∨ i = 1 := by omega
    all_goals (obtain rfl | rfl : j = 0 ∨ j = 1 := by omega)
    all_goals exact K.ext (by decide +kernel)⟩
  omega
/-- A call that makes a matrix, and may. -/
theorem good_of {w : World} {n cols : Nat} {H : M} {err : Int} {e : Ending} {w' : World} (h : Made w true err n cols H e w') :
    ∃ ao cap A C, e = .returned (.tuple #[.slice ao n cap, .int .i64 0]) ∧ Lst w' ao n A C (fun _ => cols) H ∧ Below w.heap.size w w' := by
  obtain ⟨ao, cap, rfl, ha, hb⟩ := h
  obtain ⟨A, C, hl⟩ := ha.lst
  exact ⟨ao, cap, A, C, rfl, hl, hb⟩

/-- All the cells of a list of rows that are not empty. -/
theorem Lst.grid {w : World} {lo : Option Addr} {ll : Nat} {A : Nat → Option Addr} {C L : Nat → Nat} {H : M} (h : Lst w lo ll A C L H) (hn : 0 < ll) (hL : ∀ i, i < ll → 0 < L i) :
    ∃ b off, ∃ X Y : Nat → Nat, lo = some ⟨b, off, none⟩ ∧ (∀ i, i < ll → w.cell? ⟨b, off + i, none⟩ = some (.slice (some ⟨X i, Y i, none⟩) (L i) (C i))) ∧ ∀ i j, i < ll → j < L i → w.cell? ⟨X i, Y i + j, none⟩ = some (.int .u8 ((H i j).n : Int)) := by
  obtain ⟨b, off, rfl, hc⟩ := h.at_ hn
  refine ⟨b, off, fun i => ((A i).getD ⟨0, 0, none⟩).block, fun i => ((A i).getD ⟨0, 0, none⟩).off, rfl, fun i hi => ?_, fun i j hi hj => ?_⟩
  · obtain ⟨x, y, e, _⟩ := h.rd i hi (hL i hi)
    simp only [e]; rw [hc i hi, e]; rfl
  · obtain ⟨x, y, e, hx⟩ := h.rd i hi (hL i hi)
    simp only [e]; exact hx j hj
theorem val_of {w : World} {a : Addr} {x : K} {n : Nat} (h : w.cell? a = some (.int .u8 (x.n : Int))) (e : x.n = n) : w.cell? a = some (.int .u8 (n : Int)) := by rw [← e]; exact h

set_option maxHeartbeats 4000000 in
set_option maxRecDepth 100000 in
theorem alive_any (w : World) : Calls Try.prog 9 #[] w fun e w' => e = .returned (.bool true) ∧ Below w.heap.size w w' := by
  have hE : ∀ e, errB true e = 0 := fun _ => rfl
  have hL : ∀ n, lenB true n = n := fun _ => rfl
  go_enter Try.func9, Try.ntmps9
  go_wp2_with fail
  refine (mulm_any _ _ _ 2 2 2 2 _ _ _ _ _ _ _ _ ((((lst2 (by simp) _ _ 2 2 2 2 _ _ ((rd_lit rfl [1, 2] _ rfl).alloc _) (rd_lit (by simp) [0, 1] _ rfl)).alloc _).alloc _).alloc _) (lst2 (by simp) _ _ 1 1 1 1 _ _ ((rd_lit (by simp) [3] _ rfl).alloc _) (rd_lit (by simp) [4] _ rfl))).mono ?_
  intro e w1 h1
  rw [show okMul 2 (two 2 2) 2 (two 1 1) = true by decide] at h1
  obtain ⟨mo, mc, A1, C1, rfl, o1, b1⟩ := good_of h1
  replace b1 : Below w.heap.size w w1 := below_step (more (more (more (more (more (below_alloc w _) _) _) _) _) _) b1 (by simp; omega)
  have O1 : Hid (Lst w1 mo 2 A1 C1 (fun _ => 1) (mm 2 (two (lit [1, 2]) (lit [0, 1])) (two (lit [3]) (lit [4])))) := o1
  clear h1 o1
  go_wp2_with fail
  refine (cauchy_any w1 2 2).mono ?_
  intro e w2 h2
  rw [show (okN 2 12 && okN 2 4) = true by decide] at h2
  obtain ⟨co, cc, A2, C2, rfl, o2, b2⟩ := good_of h2
  replace O1 : Hid (Lst w2 mo 2 A1 C1 (fun _ => 1) (mm 2 (two (lit [1, 2]) (lit [0, 1])) (two (lit [3]) (lit [4])))) := O1.out.below b2
  have O2 : Hid (Lst w2 co 2 A2 C2 (fun _ => 2) (cau 2)) := o2
  replace b1 := below_step b1 b2 b1.size
  clear h2 o2 b2
  go_wp2_with fail
  refine (rank_any _ _ 2 2 _ _ _ _ (lst2 (by simp) _ _ 2 2 2 2 _ _ ((rd_lit rfl [1, 2] _ rfl).alloc _) (rd_lit (by simp) [2, 4] _ rfl))).mono ?_
  intro e w3 h3
  rw [show rankV 2 (two 2 2) (two (lit [1, 2]) (lit [2, 4])) = 1 by unfold rankV; rw [show okM 2 (two 2 2) = true by decide]; exact rank_12_24, show okM 2 (two 2 2) = true by decide] at h3
  obtain ⟨rfl, b3⟩ := h3
  replace b3 : Below w2.heap.size w2 w3 := below_step (more (more (below_alloc w2 _) _) _) b3 (by simp; omega)
  replace O1 : Hid (Lst w3 mo 2 A1 C1 (fun _ => 1) (mm 2 (two (lit [1, 2]) (lit [0, 1])) (two (lit [3]) (lit [4])))) := O1.out.below b3
  replace O2 : Hid (Lst w3 co 2 A2 C2 (fun _ => 2) (cau 2)) := O2.out.below b3
  replace b1 := below_step b1 b3 b1.size
  clear b3
  go_wp2_with fail
  refine (inverse_any _ _ 1 1 _ _ _ _ (lst1 (by simp) _ 1 1 _ (rd_lit rfl [2] _ rfl))).mono ?_
  intro e w4 h4
  rw [show okInv 1 (fun _ => 1) (fun _ => lit [2]) = true by unfold okInv; rw [invB_of inv_2]; decide] at h4
  obtain ⟨vo, vc, A4, C4, rfl, o4, b4⟩ := good_of h4
  replace b4 : Below w3.heap.size w3 w4 := below_step (more (below_alloc w3 _) _) b4 (by simp; omega)
  replace O1 : Hid (Lst w4 mo 2 A1 C1 (fun _ => 1) (mm 2 (two (lit [1, 2]) (lit [0, 1])) (two (lit [3]) (lit [4])))) := O1.out.below b4
  replace O2 : Hid (Lst w4 co 2 A2 C2 (fun _ => 2) (cau 2)) := O2.out.below b4
  have O4 : Hid (Lst w4 vo 1 A4 C4 (fun _ => 1) (fun _ _ => K.of 142)) := o4.congr fun i j hi hj => (invOf_eq inv_2 i j hi hj).symm
  replace b1 := below_step b1 b4 b1.size
  clear h4 o4 b4
  go_wp2_with fail
  refine (inverse_any _ _ 2 2 _ _ _ _ (lst2 (by simp) _ _ 2 2 2 2 _ _ ((rd_lit rfl [1, 1] _ rfl).alloc _) (rd_lit (by simp) [1, 1] _ rfl))).mono ?_
  intro e w5 h5
  rw [show okInv 2 (two 2 2) (two (lit [1, 1]) (lit [1, 1])) = false by unfold okInv; rw [lost_11_11]; decide, show errM (okSq 2 (two 2 2)) 5 = 5 by decide] at h5
  obtain ⟨lo, lc, rfl, _, b5⟩ := h5
  replace b5 : Below w4.heap.size w4 w5 := below_step (more (more (below_alloc w4 _) _) _) b5 (by simp; omega)
  replace O1 : Hid (Lst w5 mo 2 A1 C1 (fun _ => 1) (mm 2 (two (lit [1, 2]) (lit [0, 1])) (two (lit [3]) (lit [4])))) := O1.out.below b5
  replace O2 : Hid (Lst w5 co 2 A2 C2 (fun _ => 2) (cau 2)) := O2.out.below b5
  replace O4 : Hid (Lst w5 vo 1 A4 C4 (fun _ => 1) (fun _ _ => K.of 142)) := O4.out.below b5
  replace b1 := below_step b1 b5 b1.size
  clear b5
  go_wp2_with fail
  refine (mulm_any _ _ _ 1 1 1 1 _ _ _ _ _ _ _ _ (((lst1 (by simp) _ 2 2 _ (rd_lit rfl [1, 2] _ rfl)).alloc _).alloc _) (lst1 (by simp) _ 2 2 _ (rd_lit (by simp) [1, 2] _ rfl))).mono ?_
  intro e w6 h6
  rw [show okMul 1 (fun _ => 2) 1 (fun _ => 2) = false by decide] at h6
  obtain ⟨no, nc, rfl, _, b6⟩ := h6
  replace b6 : Below w5.heap.size w5 w6 := below_step (more (more (more (below_alloc w5 _) _) _) _) b6 (by simp; omega)
  replace O1 : Hid (Lst w6 mo 2 A1 C1 (fun _ => 1) (mm 2 (two (lit [1, 2]) (lit [0, 1])) (two (lit [3]) (lit [4])))) := O1.out.below b6
  replace O2 : Hid (Lst w6 co 2 A2 C2 (fun _ => 2) (cau 2)) := O2.out.below b6
  replace O4 : Hid (Lst w6 vo 1 A4 C4 (fun _ => 1) (fun _ _ => K.of 142)) := O4.out.below b6
  replace b1 := below_step b1 b6 b1.size
  clear b6
  go_wp2_with fail
  refine (pick_any _ _ _ 3 3 2 2 _ _ _ _ _ ((lst3 (by simp) _ _ _ 1 1 1 1 1 1 _ _ _ (((rd_lit rfl [1] _ rfl).alloc _).alloc _) ((rd_lit (by simp) [2] _ rfl).alloc _) (rd_lit (by simp) [3] _ rfl)).alloc _) (rdI2 (by simp) 2 0)).mono ?_
  intro e w7 h7
  rw [show okPick 3 (three 1 1 1) 2 (lit2I 2 0) = true by decide] at h7
  obtain ⟨po, pc, A7, C7, rfl, o7, b7⟩ := good_of h7
  replace b7 : Below w6.heap.size w6 w7 := below_step (more (more (more (more (below_alloc w6 _) _) _) _) _) b7 (by simp; omega)
  replace O1 : Hid (Lst w7 mo 2 A1 C1 (fun _ => 1) (mm 2 (two (lit [1, 2]) (lit [0, 1])) (two (lit [3]) (lit [4])))) := O1.out.below b7
  replace O2 : Hid (Lst w7 co 2 A2 C2 (fun _ => 2) (cau 2)) := O2.out.below b7
  replace O4 : Hid (Lst w7 vo 1 A4 C4 (fun _ => 1) (fun _ _ => K.of 142)) := O4.out.below b7
  have O7 : Hid (Lst w7 po 2 A7 C7 (fun _ => 1) (picked (three (lit [1]) (lit [2]) (lit [3])) (lit2I 2 0))) := o7
  replace b1 := below_step b1 b7 b1.size
  clear h7 o7 b7
  have CN := check_any w7 none 0 0 (fun _ => none) (fun _ => 0) (fun _ => 0) (fun _ _ => 0) ⟨fun i hi => absurd hi (Nat.not_lt_zero i), fun hp => absurd hp (Nat.lt_irrefl 0)⟩
  rw [show errB (okM 0 fun _ => 0) 30 = 30 by decide] at CN
  obtain ⟨b1', f1, X1, Y1, rfl, p1, q1⟩ := O1.out.grid (by decide) (fun _ _ => by decide)
  obtain ⟨b2', f2, X2, Y2, rfl, p2, q2⟩ := O2.out.grid (by decide) (fun _ _ => by decide)
  obtain ⟨b4', f4, X4, Y4, rfl, p4, q4⟩ := O4.out.grid (by decide) (fun _ _ => by decide)
  obtain ⟨b7', f7, X7, Y7, rfl, p7, q7⟩ := O7.out.grid (by decide) (fun _ _ => by decide)
  have s1 := p1 0 (by decide)
  have s2 := val_of (n := 11) (q1 0 0 (by decide) (by decide)) (by decide +kernel)
  have s3 := p2 0 (by decide)
  have s4 := p2 1 (by decide)
  have s5 := val_of (n := 142) (q2 0 0 (by decide) (by decide)) (by decide +kernel)
  have s6 := val_of (n := 244) (q2 0 1 (by decide) (by decide)) (by decide +kernel)
  have s7 := val_of (n := 142) (q2 1 1 (by decide) (by decide)) (by decide +kernel)
  have s8 := p4 0 (by decide)
  have s9 := val_of (n := 142) (q4 0 0 (by decide) (by decide)) (by decide +kernel)
  have s10 := p7 0 (by decide)
  have s11 := val_of (n := 3) (q7 0 0 (by decide) (by decide)) (by decide +kernel)
  rw [Nat.add_zero] at s1 s2 s3 s5 s8 s9 s10 s11
  clear O1 O2 O4 O7 p1 p2 p4 p7 q1 q2 q4 q7
  go_wp2_with fail
  refine CN.mono ?_
  rintro e w' ⟨rfl, hw'⟩
  obtain rfl := hw'.symm
  go_wp2_with fail
  go_ret
  exact ⟨rfl, b1⟩
end Go.Proofs.Ytpfpldmmdbgnnaa
