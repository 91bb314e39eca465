/- The document's answer: the errors of a row; its tallies. -/
import Derived.Test.YtmlnbnbgkpbjeaaCrB
import Derived.Test.YtmlnbnbgkpbjeaaDoA
import Derived.Test.YtmlnbnbgkpbjeaaCnI
namespace Go.Proofs.Ytmlnbnbgkpbjeaa
open Go.RowKit Go.Maps Go.ChangeShapes

theorem par_may {k r c q : Int} {N W : Nat} {x : Int} (h : Par k r c q N W x) : may k r c q = decide (x = 0) := by
  rcases h with ⟨h, _, _, e⟩ | ⟨h, _, _, e⟩
  · rw [h, e]; rfl
  · rw [h, e]; rfl
set_option maxHeartbeats 4000000 in
set_option maxRecDepth 100000 in
theorem RCheck_any {k r c q : Int} {N W : Nat} {x : Int} (h : Par k r c q N W x) (w : World) (ro : Option Addr) (rn rc : Nat) (A : Nat → Option Addr) (L C : Nat → Nat) (F : Nat → Nat → UInt8) (hr : Rw w ro rn A L C F) (E : Int) (hE : erR x N c rn L = E) :
    Calls Try.prog 25 #[.agg #[.int .i64 k, .int .i64 r, .int .i64 c, .int .i64 q], .slice ro rn rc] w fun e w' => e = .returned (.int .i64 E) ∧ Below w.heap.size w w' := by
  obtain ⟨w0, hw0⟩ : ∃ w0, w0 = w.alloc (.cells #[.int .i64 k, .int .i64 r, .int .i64 c, .int .i64 q] 23) := ⟨_, rfl⟩
  have B0 : Hid (Below w.heap.size w w0) := by show Below _ _ _; rw [hw0]; exact below_alloc _ _
  have L0 : Hid (∀ v, Below w0.heap.size w0 v → At w v w.heap.size #[.int .i64 k, .int .i64 r, .int .i64 c, .int .i64 q] 23) := fun v hv => (at_made (Below.refl _ _) hw0).below hv
  have HM := May_any k r c q w0
  rw [par_may h] at HM
  by_cases hx : x = 0
  · subst hx
    rw [show decide ((0 : Int) = 0) = true from rfl] at HM
    obtain ⟨y, hy⟩ : ∃ y, decide (rn = N ∧ ∀ j, j < 2 * rn → L j = 0 ∨ L j = sz N c) = y := ⟨_, rfl⟩
    have HRW : Hid (∀ u, Below w.heap.size w u → Calls Try.prog 41 #[.agg #[.int .i64 k, .int .i64 r, .int .i64 c, .int .i64 q], .slice ro rn rc] u fun e w' => e = .returned (.bool y) ∧ Below u.heap.size u w') := fun u hu => RRow_any h u ro rn rc A L C F (hr.below hu) y hy
    have hEy : E = if y = true then 0 else 120 := by
      rw [← hE]
      unfold erR
      rw [if_pos rfl]
      by_cases g : rn = N ∧ ∀ j, j < 2 * rn → L j = 0 ∨ L j = sz N c
      · rw [if_pos g, ← hy, decide_eq_true g]; rfl
      · rw [if_neg g, ← hy, decide_eq_false g]; rfl
    clear hr hE hy h
    cases y
    · rw [if_neg (by decide)] at hEy
      subst hEy
      go_enter Try.func25, Try.ntmps25
      go_wp2_with fail
      rw [← hw0]
      refine HM.mono ?_
      rintro e wa ⟨rfl, ha⟩
      have BA : Hid (Below w0.heap.size w0 wa) := ha
      have pq := L0.out wa BA.out
      have s0 := pq.cell (i := 0) rfl
      have s1 := pq.cell (i := 1) rfl
      have s2 := pq.cell (i := 2) rfl
      have s3 := pq.cell (i := 3) rfl
      clear pq ha hw0 HM
      go_wp2_with fail
      refine (HRW.out _ (below_then B0.out BA.out)).mono ?_
      rintro e wb ⟨rfl, hb⟩
      have BB : Hid (Below wa.heap.size wa wb) := hb
      clear hb s0 s1 s2 s3
      go_wp2_with fail
      go_ret
      exact ⟨rfl, below_then (below_then B0.out BA.out) BB.out⟩
    · rw [if_pos rfl] at hEy
      subst hEy
      go_enter Try.func25, Try.ntmps25
      go_wp2_with fail
      rw [← hw0]
      refine HM.mono ?_
      rintro e wa ⟨rfl, ha⟩
      have BA : Hid (Below w0.heap.size w0 wa) := ha
      have pq := L0.out wa BA.out
      have s0 := pq.cell (i := 0) rfl
      have s1 := pq.cell (i := 1) rfl
      have s2 := pq.cell (i := 2) rfl
      have s3 := pq.cell (i := 3) rfl
      clear pq ha hw0 HM
      go_wp2_with fail
      refine (HRW.out _ (below_then B0.out BA.out)).mono ?_
      rintro e wb ⟨rfl, hb⟩
      have BB : Hid (Below wa.heap.size wa wb) := hb
      clear hb s0 s1 s2 s3
      go_wp2_with fail
      go_ret
      exact ⟨rfl, below_then (below_then B0.out BA.out) BB.out⟩
  · obtain rfl : E = 2 := by
      rw [← hE]; unfold erR; rw [if_neg hx]
      rcases h.err with e | e
      · exact absurd e hx
      · exact e
    rw [decide_eq_false hx] at HM
    clear hr hE h
    go_enter Try.func25, Try.ntmps25
    go_wp2_with fail
    rw [← hw0]
    refine HM.mono ?_
    rintro e wa ⟨rfl, ha⟩
    have BA : Hid (Below w0.heap.size w0 wa) := ha
    clear ha hw0 HM
    go_wp2_with fail
    go_ret
    exact ⟨rfl, below_then B0.out BA.out⟩
/-- The best version below a bound, of the first m slots. -/
structure Bst (hj : Nat → Int) (top : Int) (m : Nat) (best : Int) : Prop where
  nn : 0 ≤ best
  at_ : best = 0 ∨ (best < top ∧ ∃ j, j < m ∧ hj j = best)
  max : ∀ j, j < m → hj j < top → hj j ≤ best
theorem bst_0 (hj : Nat → Int) (top : Int) : Bst hj top 0 0 := ⟨Int.le_refl _, .inl rfl, fun j h => absurd h (by omega)⟩
theorem Bst.take {hj : Nat → Int} {top : Int} {m : Nat} {best : Int} (h : Bst hj top m best) (h1 : hj m < top) (h2 : best < hj m) : Bst hj top (m + 1) (hj m) :=
  ⟨by have := h.nn; omega, .inr ⟨h1, m, by omega, rfl⟩, fun j hj' ht => by
    by_cases e : j = m
    · rw [e]; exact Int.le_refl _
    · have := h.max j (by omega) ht; omega⟩
theorem Bst.pass {hj : Nat → Int} {top : Int} {m : Nat} {best : Int} (h : Bst hj top m best) (h1 : hj m < top → hj m ≤ best) : Bst hj top (m + 1) best :=
  ⟨h.nn, h.at_.imp id (fun ⟨a, j, b, c⟩ => ⟨a, j, by omega, c⟩), fun j hj' ht => by
    by_cases e : j = m
    · rw [e] at ht ⊢; exact h1 ht
    · exact h.max j (by omega) ht⟩
/-- A bound below which just those from the m-th on lie. -/
def Top (tv : List Int) (m : Nat) (top : Int) : Prop := ∀ i v, tv[i]? = some v → (v < top ↔ m ≤ i)
theorem top_next {tv : List Int} (hf : tv.Pairwise (fun a b => b < a)) {m : Nat} {v : Int} (h : tv[m]? = some v) : Top tv (m + 1) v := fun i u hu => by
  obtain ⟨a1, rfl⟩ := List.getElem?_eq_some_iff.1 h
  obtain ⟨b1, rfl⟩ := List.getElem?_eq_some_iff.1 hu
  rcases Nat.lt_trichotomy i m with e | e | e
  · have := List.pairwise_iff_getElem.1 hf i m b1 a1 e; omega
  · subst e; omega
  · have := List.pairwise_iff_getElem.1 hf m i a1 b1 e; omega
/-- What the best one is. -/
theorem best_is {tv : List Int} {hj : Nat → Int} {n m : Nat} {top best : Int} (hf : tv.Pairwise (fun a b => b < a)) (hm : ∀ v, v ∈ tv ↔ v ≠ 0 ∧ ∃ j, j < n ∧ hj j = v) (hp : ∀ v, v ∈ tv → 1 ≤ v) (ht : Top tv m top) (hb : Bst hj top n best) : (best = 0 → tv.length ≤ m) ∧ (best ≠ 0 → tv[m]? = some best) := by
  constructor
  · intro e
    rcases Nat.lt_or_ge m tv.length with hl | hl
    · exfalso
      have hv := List.getElem?_eq_getElem hl
      have h1 := (ht m _ hv).2 (Nat.le_refl _)
      obtain ⟨_, j, h2, h3⟩ := (hm _).1 (List.mem_of_getElem? hv)
      have h4 := hb.max j h2 (by rw [h3]; exact h1)
      have := hp _ (List.mem_of_getElem? hv)
      omega
    · exact hl
  · intro e
    rcases hb.at_ with h0 | ⟨h1, j, h2, h3⟩
    · exact absurd h0 e
    · obtain ⟨i, hi, he⟩ := List.getElem_of_mem ((hm best).2 ⟨e, j, h2, h3⟩)
      have hv : tv[i]? = some best := by rw [List.getElem?_eq_getElem hi, he]
      have h4 := (ht i best hv).1 h1
      by_cases e2 : i = m
      · rw [← e2]; exact hv
      · exfalso
        have hml : m < tv.length := by omega
        have hv2 := List.getElem?_eq_getElem hml
        have h5 := (ht m _ hv2).2 (Nat.le_refl _)
        obtain ⟨_, j2, h6, h7⟩ := (hm _).1 (List.mem_of_getElem? hv2)
        have h8 := hb.max j2 h6 (by rw [h7]; exact h5)
        have h9 := List.pairwise_iff_getElem.1 hf m i hml hi (by omega)
        omega
def hjs (N : Nat) (c : Int) (L : Nat → Nat) (F : Nat → Nat → UInt8) (j : Nat) : Int := hs N c (j / 2) (L j) (F j)
theorem hjs_mem {N : Nat} {c : Int} {L : Nat → Nat} {F : Nat → Nat → UInt8} {n : Nat} {v : Int} : v ∈ tvL (hP N c L F) (hQ N c L F) n ↔ v ≠ 0 ∧ ∃ j, j < 2 * n ∧ hjs N c L F j = v := by
  rw [mem_tvL]
  refine and_congr_right fun hv => ?_
  constructor
  · rintro ⟨d, h1, h2⟩
    rcases (hQ_or N c L F d hv).1 h2 with e | e
    · exact ⟨2 * d, by omega, by unfold hjs; rw [show 2 * d / 2 = d by omega]; exact e⟩
    · exact ⟨2 * d + 1, by omega, by unfold hjs; rw [show (2 * d + 1) / 2 = d by omega]; exact e⟩
  · rintro ⟨j, h1, h2⟩
    refine ⟨j / 2, by omega, (hQ_or N c L F (j / 2) hv).2 ?_⟩
    unfold hjs at h2
    rcases (show j % 2 = 0 ∨ j % 2 = 1 by omega) with e | e
    · left; unfold hP; rw [show 2 * (j / 2) = j by omega]; exact h2
    · right; unfold hR; rw [show 2 * (j / 2) + 1 = j by omega]; exact h2
theorem rows_apart {w : World} {B B' n m : Nat} {u v : Value} {xs ys : List Value} (h : w.ownsRow B 40 2 u n xs) (g : w.ownsRow B' 3 1 v m ys) : v.ownBlock = none ∨ v.ownBlock ≠ u.ownBlock := by
  rcases g.2 with ⟨e, _⟩ | ⟨g1, c1, k1, e, _, h1, _⟩
  · left; rw [e]; rfl
  · right
    rcases h.2 with ⟨e2, _⟩ | ⟨g2, c2, k2, e2, _, h2, _⟩
    · rw [e, e2]; simp [Value.ownBlock]
    · rw [e, e2]
      simp only [Value.ownBlock, ne_eq, Option.some.injEq]
      intro e3
      rw [e3] at h1
      rw [h1] at h2
      simp only [Option.some.injEq, Obj.cells.injEq] at h2
      exact absurd h2.2.1 (by decide)
def slLen : Value → Nat
  | .slice _ n _ => n
  | _ => 0
end Go.Proofs.Ytmlnbnbgkpbjeaa
