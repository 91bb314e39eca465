/- Wiped drives: which versions still count; a row of the call's own. -/
import Derived.Test.YtmlnbnbgkpbjeaaCnK
import Derived.Test.YtmlnbnbgkpbjeaaRoO
namespace Go.Proofs.Ytmlnbnbgkpbjeaa
open Go.RowKit Go.Maps Go.ChangeShapes

/-- What is left where some are wiped. -/
def wpd (wi : Nat → Bool) (P : Nat → Int) (d : Nat) : Int := if wi d = true then 0 else P d
theorem hbv_wpd {wi : Nat → Bool} {P Q : Nat → Int} {v : Int} {d : Nat} (hv : v ≠ 0) (h : hbv (wpd wi P) (wpd wi Q) v d = true) : hbv P Q v d = true ∧ wi d = false := by
  unfold hbv wpd at *
  cases hw : wi d
  · rw [hw] at h
    exact ⟨by simpa using h, rfl⟩
  · rw [hw] at h
    have := of_decide_eq_true h
    simp at this
    exact absurd this hv.symm
theorem ct_wpd {wi : Nat → Bool} {P Q : Nat → Int} {v : Int} {n : Nat} (hv : v ≠ 0) : ct (wpd wi P) (wpd wi Q) n v ≤ ct P Q n v := dl_sub fun _ _ h => (hbv_wpd hv h).1
/-- Who counts among falling versions. -/
theorem mem_wins {k : Int} {P Q : Nat → Int} {n : Nat} {v : Int} (hk : 1 ≤ k) : v ∈ wins k P Q n ↔ v ≠ 0 ∧ k ≤ (ct P Q n v : Int) := by
  unfold wins
  rw [List.mem_filter, mem_tv]
  constructor
  · rintro ⟨⟨h1, _⟩, h3⟩
    exact ⟨h1, of_decide_eq_true h3⟩
  · rintro ⟨h1, h2⟩
    refine ⟨⟨h1, fun e => ?_⟩, decide_eq_true h2⟩
    unfold ct at h2
    rw [e] at h2
    simp at h2
    omega
theorem wins_fall (k : Int) (P Q : Nat → Int) (n : Nat) : (wins k P Q n).Pairwise (fun a b => b < a) := (tvL_fall P Q n).filter _
theorem head_max {l : List Int} (h : l.Pairwise (fun a b => b < a)) {v : Int} (hv : v ∈ l) : v ≤ l.getD 0 0 := by
  cases l with
  | nil => cases hv
  | cons a l =>
    rcases List.mem_cons.1 hv with e | e
    · rw [e]; exact Int.le_refl _
    · have := (List.pairwise_cons.1 h).1 v e
      show v ≤ a
      omega
theorem head_mem {l : List Int} (h : l ≠ []) : l.getD 0 0 ∈ l := by
  cases l with
  | nil => exact absurd rfl h
  | cons a l => simp
theorem wiped_less {k : Int} {wi : Nat → Bool} {P Q : Nat → Int} {n : Nat} (hk : 1 ≤ k) (h : wins k (wpd wi P) (wpd wi Q) n ≠ []) : wins k P Q n ≠ [] ∧ (wins k (wpd wi P) (wpd wi Q) n).getD 0 0 ≤ (wins k P Q n).getD 0 0 := by
  obtain ⟨h1, h2⟩ := (mem_wins hk).1 (head_mem h)
  have hm := (mem_wins (P := P) (Q := Q) (n := n) hk).2 ⟨h1, by have := ct_wpd (wi := wi) (P := P) (Q := Q) (n := n) h1; omega⟩
  exact ⟨(fun e => by rw [e] at hm; cases hm), head_max (wins_fall k P Q n) hm⟩
theorem wiped_all {k : Int} {wi : Nat → Bool} {P Q : Nat → Int} {n : Nat} (hk : 1 ≤ k) (h : (dl wi n).length = n) : wins k (wpd wi P) (wpd wi Q) n = [] := by
  apply List.eq_nil_iff_forall_not_mem.2
  intro v hv
  obtain ⟨h1, h2⟩ := (mem_wins hk).1 hv
  have : ct (wpd wi P) (wpd wi Q) n v = 0 := by
    unfold ct dv
    rw [dl_empty fun i hi => ?_]; rfl
    cases hb : hbv (wpd wi P) (wpd wi Q) v i
    · rfl
    · have h3 := (hbv_wpd h1 hb).2
      have h4 := dl_both wi n
      have h5 := dl_nil (p := fun i => !wi i) (n := n) (by omega) hi
      rw [h3] at h5; cases h5
  rw [this] at h2
  simp at h2
  omega
theorem wiped_few {k : Int} {wi : Nat → Bool} {P Q : Nat → Int} {n : Nat} (hk : 1 ≤ k) (hw : wins k P Q n ≠ []) (hall : (dl (fun d => !hbv P Q ((wins k P Q n).getD 0 0) d) n).length = 0) (hg : k + ((dl wi n).length : Int) ≤ (n : Int)) : wins k (wpd wi P) (wpd wi Q) n ≠ [] ∧ (wins k (wpd wi P) (wpd wi Q) n).getD 0 0 = (wins k P Q n).getD 0 0 := by
  obtain ⟨v, hv⟩ : ∃ v, (wins k P Q n).getD 0 0 = v := ⟨_, rfl⟩
  have hm := head_mem hw
  rw [hv] at hall hm ⊢
  obtain ⟨h1, h2⟩ := (mem_wins hk).1 hm
  have hc : (dl (fun i => !wi i) n).length ≤ ct (wpd wi P) (wpd wi Q) n v := dl_sub fun i hi h => by
    have h3 := dl_nil hall hi
    have h4 : hbv P Q v i = true := by simpa using h3
    have h5 : wi i = false := by simpa using h
    unfold hbv wpd
    rw [h5]
    exact h4
  have hb := dl_both wi n
  have hin : v ∈ wins k (wpd wi P) (wpd wi Q) n := (mem_wins hk).2 ⟨h1, by omega⟩
  have hne : wins k (wpd wi P) (wpd wi Q) n ≠ [] := fun e => by rw [e] at hin; cases hin
  refine ⟨hne, ?_⟩
  have h6 := head_max (wins_fall k (wpd wi P) (wpd wi Q) n) hin
  have h7 := (wiped_less hk hne).2
  omega
/-- What a row holds whose drives below i are wiped. -/
def wpx {α : Type} (wi : Nat → Bool) (z : α) (i : Nat) (X : Nat → α) (j : Nat) : α := if j / 2 < i ∧ wi (j / 2) = true then z else X j
theorem wpx_0 {α : Type} (wi : Nat → Bool) (z : α) (X : Nat → α) : wpx wi z 0 X = X := by
  funext j; unfold wpx; rw [if_neg (by omega)]
theorem wpx_no {α : Type} {wi : Nat → Bool} (z : α) {i : Nat} (X : Nat → α) (h : wi i = false) : wpx wi z (i + 1) X = wpx wi z i X := by
  funext j
  unfold wpx
  by_cases e : j / 2 = i
  · rw [e, h, if_neg (by simp), if_neg (by simp)]
  · by_cases g : j / 2 < i ∧ wi (j / 2) = true
    · rw [if_pos g, if_pos ⟨by omega, g.2⟩]
    · rw [if_neg g, if_neg (fun a => g ⟨by omega, a.2⟩)]
theorem wpx_yes {α : Type} {wi : Nat → Bool} (z : α) {i : Nat} (X : Nat → α) (h : wi i = true) : put (i * 2 + 1) z (put (i * 2) z (wpx wi z i X)) = wpx wi z (i + 1) X := by
  funext j
  by_cases e1 : j = i * 2 + 1
  · rw [e1, put_at]; unfold wpx; rw [show (i * 2 + 1) / 2 = i by omega, if_pos ⟨by omega, h⟩]
  · rw [put_ne _ _ e1]
    by_cases e0 : j = i * 2
    · rw [e0, put_at]; unfold wpx; rw [show i * 2 / 2 = i by omega, if_pos ⟨by omega, h⟩]
    · rw [put_ne _ _ e0]
      unfold wpx
      by_cases g : j / 2 < i ∧ wi (j / 2) = true
      · rw [if_pos g, if_pos ⟨by omega, g.2⟩]
      · rw [if_neg g, if_neg (fun a => g ⟨by omega, a.2⟩)]
theorem wpx_end {α : Type} {wi : Nat → Bool} (z : α) {i n : Nat} (X : Nat → α) (hin : i ≤ n) (h : ∀ d, i ≤ d → d < n → wi d = false) : wpx wi z i X = wpx wi z n X := by
  funext j
  unfold wpx
  by_cases g : j / 2 < i ∧ wi (j / 2) = true
  · rw [if_pos g, if_pos ⟨by omega, g.2⟩]
  · rw [if_neg g, if_neg (fun a => g ⟨by
      by_cases e : j / 2 < i
      · exact e
      · have := h (j / 2) (by omega) a.1
        rw [this] at a; exact absurd a.2 (by simp), a.2⟩)]
theorem dl_end {wi : Nat → Bool} {i : Nat} : ∀ {n : Nat}, i ≤ n → (∀ d, i ≤ d → d < n → wi d = false) → dl wi i = dl wi n
  | 0, h, _ => by rw [show i = 0 by omega]
  | n + 1, h, hd => by
    by_cases e : i = n + 1
    · rw [e]
    · rw [dl_end (n := n) (by omega) (fun d h1 h2 => hd d h1 (by omega)), dl, hd n (by omega) (by omega)]; rfl
theorem hP_wpx (N : Nat) (c : Int) (wi : Nat → Bool) (L : Nat → Nat) (F : Nat → Nat → UInt8) {i : Nat} (hi : i < N) : hP N c (wpx wi 0 N L) F i = wpd wi (hP N c L F) i ∧ hR N c (wpx wi 0 N L) F i = wpd wi (hR N c L F) i := by
  have e0 : wpx wi 0 N L (2 * i) = if wi i = true then 0 else L (2 * i) := by
    unfold wpx; rw [show 2 * i / 2 = i by omega]
    cases wi i <;> simp [hi]
  have e1 : wpx wi 0 N L (2 * i + 1) = if wi i = true then 0 else L (2 * i + 1) := by
    unfold wpx; rw [show (2 * i + 1) / 2 = i by omega]
    cases wi i <;> simp [hi]
  unfold hP hR wpd
  rw [e0, e1]
  cases h : wi i
  · exact ⟨rfl, rfl⟩
  · exact ⟨hs_none _ _ _ _, hs_none _ _ _ _⟩
theorem hQ_wpx (N : Nat) (c : Int) (wi : Nat → Bool) (L : Nat → Nat) (F : Nat → Nat → UInt8) {i : Nat} (hi : i < N) : hQ N c (wpx wi 0 N L) F i = wpd wi (hQ N c L F) i := by
  show onc (hP N c (wpx wi 0 N L) F i) (hR N c (wpx wi 0 N L) F i) = if wi i = true then 0 else onc (hP N c L F i) (hR N c L F i)
  rw [(hP_wpx N c wi L F hi).1, (hP_wpx N c wi L F hi).2]
  unfold wpd
  cases h : wi i
  · rfl
  · rfl
theorem tvL_congr {P Q P' Q' : Nat → Int} : ∀ {n : Nat}, (∀ i, i < n → P i = P' i ∧ Q i = Q' i) → tvL P Q n = tvL P' Q' n
  | 0, _ => rfl
  | n + 1, h => by rw [tvL, tvL, tvL_congr (n := n) (fun i hi => h i (by omega)), (h n (by omega)).1, (h n (by omega)).2]
theorem wins_congr {k : Int} {P Q P' Q' : Nat → Int} {n : Nat} (h : ∀ i, i < n → P i = P' i ∧ Q i = Q' i) : wins k P Q n = wins k P' Q' n := by
  unfold wins
  rw [tvL_congr h]
  congr 1
  funext v
  unfold enB ct dv
  rw [dl_congr fun i hi => ?_]
  unfold hbv
  rw [(h i hi).1, (h i hi).2]
/-- Slices one behind the other. -/
def prs (m : Nat) (A : Nat → Option Addr) (L C : Nat → Nat) : List Value := (List.range m).map fun j => .slice (A j) (L j) (C j)
theorem prs_length (m : Nat) (A : Nat → Option Addr) (L C : Nat → Nat) : (prs m A L C).length = m := by simp [prs]
theorem prs_get {m j : Nat} (A : Nat → Option Addr) (L C : Nat → Nat) (h : j < m) : (prs m A L C)[j]? = some (.slice (A j) (L j) (C j)) := by simp [prs, h]
theorem prs_set {m j : Nat} (A : Nat → Option Addr) (L C : Nat → Nat) : (prs m A L C).set j (.slice none 0 0) = prs m (put j none A) (put j 0 L) (put j 0 C) := by
  apply List.ext_getElem?
  intro i
  by_cases hi : i < m
  · rw [prs_get _ _ _ hi, List.getElem?_set]
    by_cases e : j = i
    · rw [if_pos e, if_pos (by rw [prs_length]; omega), e, put_at, put_at, put_at]
    · rw [if_neg e, prs_get _ _ _ hi, put_ne _ _ (fun a => e a.symm), put_ne _ _ (fun a => e a.symm), put_ne _ _ (fun a => e a.symm)]
  · rw [List.getElem?_eq_none (by rw [List.length_set, prs_length]; omega), List.getElem?_eq_none (by rw [prs_length]; omega)]
theorem prs_one {m : Nat} {A : Nat → Option Addr} {L C : Nat → Nat} : ∀ v ∈ prs m A L C, v.oneCell' = true := by
  intro v hv
  obtain ⟨j, _, rfl⟩ := List.mem_map.1 hv
  rfl
theorem prs_news {w : World} {b off rn : Nat} {A : Nat → Option Addr} {L C : Nat → Nat} (h : ∀ i, i < rn → w.cell? ⟨b, off + i * 2, none⟩ = some (.slice (A (2 * i)) (L (2 * i)) (C (2 * i))) ∧ w.cell? ⟨b, off + i * 2 + 1, none⟩ = some (.slice (A (2 * i + 1)) (L (2 * i + 1)) (C (2 * i + 1)))) : ∀ j u, (prs (rn * 2) A L C)[j]? = some u → w.cell? ((⟨b, off, none⟩ : Addr).add j) = some u := by
  intro j u hj
  have hl := (List.getElem?_eq_some_iff.1 hj).1
  rw [prs_length] at hl
  rw [prs_get _ _ _ hl] at hj
  rw [← hj]
  have ea : (⟨b, off, none⟩ : Addr).add j = ⟨b, off + j, none⟩ := by simp [Addr.add]
  rw [ea]
  rcases (show j % 2 = 0 ∨ j % 2 = 1 by omega) with e | e
  · have := (h (j / 2) (by omega)).1
    rw [show off + j / 2 * 2 = off + j by omega, show 2 * (j / 2) = j by omega] at this
    exact this
  · have := (h (j / 2) (by omega)).2
    rw [show off + j / 2 * 2 + 1 = off + j by omega, show 2 * (j / 2) + 1 = j by omega] at this
    exact this
end Go.Proofs.Ytmlnbnbgkpbjeaa
