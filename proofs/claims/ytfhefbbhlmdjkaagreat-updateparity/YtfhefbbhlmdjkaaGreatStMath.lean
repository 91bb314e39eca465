/- A stripe in a row without memory: which slot tells a version, which cells are there, what raw writes make of them. -/
import Derived.Test.YtfhefbbhlmdjkaaGreatCeF
import Derived.Test.YtfhefbbhlmdjkaaGreatCCod
namespace Go.Proofs.YtfhefbbhlmdjkaaGreat

/-- Does a slot tell a version? -/
def tB (y : Sl) (kd : UInt8) (v : Int) : Bool := decide (y.kd = kd ∧ y.st = v)
/-- The first of m slots that tells a version. -/
def tS (Y : Nat → Sl) (kd : UInt8) (v : Int) : Nat → Sl
  | 0 => zSl
  | m + 1 => if (tS Y kd v m).ce = 0 then (if tB (Y m) kd v = true then Y m else zSl) else tS Y kd v m
/-- What a drive holds of the version that a slot tells. -/
def zz (Y : Nat → Sl) (kd : UInt8) (t : Sl) (i : Nat) : Sl := if t.ce = 0 then zSl else fZ (Y (2 * i)) (Y (2 * i + 1)) kd (t.V i)
/-- The slots of a row, as they are held. -/
def yy (N : Nat) (c : Int) (L : Nat → Nat) (F : Nat → Nat → UInt8) (j : Nat) : Sl := he 0 N c ((j / 2 : Nat) : Int) (L j) (F j)
def Is (N : Nat) (c : Int) (y : Sl) (i : Nat) : Prop := okS N c y = true ∧ y.ix = (i : Int)
def OkY (N : Nat) (c : Int) (Y : Nat → Sl) : Prop := ∀ j, j < 2 * N → Y j = zSl ∨ Is N c (Y j) (j / 2)
theorem he_is (N : Nat) (c ix : Int) (n : Nat) (F : Nat → UInt8) : he 0 N c ix n F = zSl ∨ (okS N c (he 0 N c ix n F) = true ∧ (he 0 N c ix n F).ix = ix ∧ isS N c n F = true ∧ he 0 N c ix n F = dec N c F) := by
  unfold he ofI slQ
  rw [if_pos rfl]
  cases e : isS N c n F
  · rw [if_neg Bool.false_ne_true]
    by_cases h : zSl.ix = ix
    · rw [if_pos h]; exact .inl rfl
    · rw [if_neg h]; exact .inl rfl
  · rw [if_pos rfl]
    by_cases h : (dec N c F).ix = ix
    · rw [if_pos h]; exact .inr ⟨(is_true e).2.2.2, h, rfl, rfl⟩
    · rw [if_neg h]; exact .inl rfl
theorem yy_ok (N : Nat) (c : Int) (L : Nat → Nat) (F : Nat → Nat → UInt8) : OkY N c (yy N c L F) := fun j _ => by
  rcases he_is N c ((j / 2 : Nat) : Int) (L j) (F j) with h | ⟨h1, h2, _⟩
  · exact .inl h
  · exact .inr ⟨h1, h2⟩
theorem yy_none {N : Nat} {c : Int} {L : Nat → Nat} {F : Nat → Nat → UInt8} {j : Nat} (h : L j = 0) : yy N c L F j = zSl := by
  rcases he_is N c ((j / 2 : Nat) : Int) (L j) (F j) with e | ⟨_, _, e, _⟩
  · exact e
  · have := (is_true e).1
    unfold sz at this
    omega
theorem mx_leq {R : Nat → Int} : ∀ {n i : Nat}, i < n → R i ≤ mx R n
  | 0, _, h => absurd h (Nat.not_lt_zero _)
  | n + 1, i, h => by
    rw [mx, gr]
    by_cases e : i = n
    · subst e; split <;> omega
    · have := mx_leq (R := R) (n := n) (i := i) (by omega)
      split <;> omega
structure Ok (N : Nat) (c : Int) (s : Sl) : Prop where
  vn : s.vn = N
  V : ∀ i, i < N → 1 ≤ s.V i ∧ s.V i ≤ 1073741824
  kd : s.kd = 1 ∨ s.kd = 2
  ix : 0 ≤ s.ix ∧ s.ix < (N : Int)
  dn : (s.dn : Int) = c
  st : s.st = mx s.V N
  ce : s.ce = s.V s.ix.toNat
theorem ok_of {N : Nat} {c : Int} {s : Sl} (h : okS N c s = true) : Ok N c s := by
  obtain ⟨⟨k1, k2⟩, k3, k4, k5, k6, k7, k8⟩ := okS_true h
  subst k1
  exact ⟨rfl, k2, k3, ⟨k4, k5⟩, k6, k7, k8⟩
theorem Ok.ok {N : Nat} {c : Int} {s : Sl} (h : Ok N c s) : okS N c s = true := by
  have h1 := h.vn
  refine decide_eq_true ⟨⟨h1, fun i hi => h.V i (by omega)⟩, h.kd, h.ix.1, by have := h.ix.2; omega, h.dn, by rw [h1]; exact h.st, h.ce⟩
theorem Ok.ne {N : Nat} {c : Int} {s : Sl} (h : Ok N c s) : s.ce ≠ 0 := by
  have := h.V s.ix.toNat (by have := h.ix; omega)
  have := h.ce
  omega
theorem Ok.le {N : Nat} {c : Int} {s : Sl} (h : Ok N c s) : s.ce ≤ s.st := by
  rw [h.ce, h.st]
  exact mx_leq (by have := h.ix; omega)
theorem Is.ce {N : Nat} {c : Int} {y : Sl} {i : Nat} (h : Is N c y i) : y.ce = y.V i := by
  have := (ok_of h.1).ce
  rw [h.2, Int.toNat_natCast] at this
  exact this
theorem tB_ne {N : Nat} {c : Int} {y : Sl} {i : Nat} {kd : UInt8} {v : Int} (hk : kd = 1 ∨ kd = 2) (h : y = zSl ∨ Is N c y i) (ht : tB y kd v = true) : Is N c y i := by
  rcases h with rfl | h
  · have := (of_decide_eq_true ht).1
    rcases hk with rfl | rfl <;> exact absurd this (by decide)
  · exact h
theorem tS_stay {Y : Nat → Sl} {kd : UInt8} {v : Int} {m n : Nat} (h : (tS Y kd v m).ce ≠ 0) (hm : m ≤ n) : tS Y kd v n = tS Y kd v m := by
  induction n with
  | zero => rw [show m = 0 by omega]
  | succ n ih =>
    by_cases e : m = n + 1
    · rw [e]
    · have := ih (by omega)
      rw [tS, this, if_neg h]
theorem tS_is {N : Nat} {c : Int} {Y : Nat → Sl} {kd : UInt8} {v : Int} (hk : kd = 1 ∨ kd = 2) (hY : OkY N c Y) : ∀ m, m ≤ 2 * N → (tS Y kd v m = zSl ∧ ∀ j, j < m → tB (Y j) kd v = false) ∨ ∃ j, j < m ∧ tS Y kd v m = Y j ∧ tB (Y j) kd v = true ∧ Is N c (Y j) (j / 2) ∧ ∀ j', j' < j → tB (Y j') kd v = false
  | 0, _ => .inl ⟨rfl, fun j h => absurd h (Nat.not_lt_zero j)⟩
  | m + 1, hm => by
    rcases tS_is hk hY m (by omega) with ⟨h1, h2⟩ | ⟨j, h1, h2, h3, h4, h5⟩
    · rw [tS, h1, if_pos (show zSl.ce = 0 from rfl)]
      cases e : tB (Y m) kd v
      · rw [if_neg Bool.false_ne_true]
        refine .inl ⟨rfl, fun j hj => ?_⟩
        by_cases g : j = m
        · rw [g]; exact e
        · exact h2 j (by omega)
      · rw [if_pos rfl]
        exact .inr ⟨m, by omega, rfl, e, tB_ne hk (hY m (by omega)) e, h2⟩
    · rw [tS, h2, if_neg (ok_of h4.1).ne]
      exact .inr ⟨j, by omega, rfl, h3, h4, h5⟩
theorem hB_true {y : Sl} {kd : UInt8} {v : Int} (h : hB y kd v = true) : v ≠ 0 ∧ y.kd = kd ∧ y.ce = v := of_decide_eq_true h
theorem hB_of {y : Sl} {kd : UInt8} {v : Int} (h1 : v ≠ 0) (h2 : y.kd = kd) (h3 : y.ce = v) : hB y kd v = true := decide_eq_true ⟨h1, h2, h3⟩
theorem hB_no {y : Sl} {kd : UInt8} {v : Int} (h : y.ce ≠ v) : hB y kd v = false := decide_eq_false fun e => h e.2.2
theorem fZ_is {N : Nat} {c : Int} {y0 y1 : Sl} {i : Nat} {kd : UInt8} {v : Int} (h0 : y0 = zSl ∨ Is N c y0 i) (h1 : y1 = zSl ∨ Is N c y1 i) : (fZ y0 y1 kd v = zSl ∧ hB y0 kd v = false ∧ hB y1 kd v = false) ∨ (Is N c (fZ y0 y1 kd v) i ∧ (fZ y0 y1 kd v).kd = kd ∧ (fZ y0 y1 kd v).ce = v ∧ v ≠ 0) := by
  unfold fZ
  cases e0 : hB y0 kd v
  · rw [if_neg Bool.false_ne_true]
    cases e1 : hB y1 kd v
    · rw [if_neg Bool.false_ne_true]; exact .inl ⟨rfl, rfl, rfl⟩
    · rw [if_pos rfl]
      obtain ⟨a, b, d⟩ := hB_true e1
      refine .inr ⟨?_, b, d, a⟩
      rcases h1 with rfl | h
      · exact absurd d.symm a
      · exact h
  · rw [if_pos rfl]
    obtain ⟨a, b, d⟩ := hB_true e0
    refine .inr ⟨?_, b, d, a⟩
    rcases h0 with rfl | h
    · exact absurd d.symm a
    · exact h
theorem pair_of {N : Nat} {c : Int} {Y : Nat → Sl} (hY : OkY N c Y) {i : Nat} (hi : i < N) : (Y (2 * i) = zSl ∨ Is N c (Y (2 * i)) i) ∧ (Y (2 * i + 1) = zSl ∨ Is N c (Y (2 * i + 1)) i) := by
  have h0 := hY (2 * i) (by omega)
  have h1 := hY (2 * i + 1) (by omega)
  rw [show 2 * i / 2 = i by omega] at h0
  rw [show (2 * i + 1) / 2 = i by omega] at h1
  exact ⟨h0, h1⟩
theorem zz_is {N : Nat} {c : Int} {Y : Nat → Sl} {kd : UInt8} (hY : OkY N c Y) (t : Sl) {i : Nat} (hi : i < N) : zz Y kd t i = zSl ∨ (Is N c (zz Y kd t i) i ∧ (zz Y kd t i).kd = kd ∧ (zz Y kd t i).ce = t.V i ∧ t.ce ≠ 0) := by
  unfold zz
  by_cases e : t.ce = 0
  · rw [if_pos e]; exact .inl rfl
  · rw [if_neg e]
    obtain ⟨h0, h1⟩ := pair_of hY hi
    rcases fZ_is (kd := kd) (v := t.V i) h0 h1 with ⟨h, _⟩ | ⟨h, g, f, _⟩
    · exact .inl h
    · exact .inr ⟨h, g, f, e⟩

/-- No pair holds one version of a kind twice. -/
def Once (N : Nat) (kd : UInt8) (Y : Nat → Sl) : Prop := ∀ i, i < N → (Y (2 * i)).kd = kd → (Y (2 * i + 1)).kd = kd → (Y (2 * i)).ce ≠ (Y (2 * i + 1)).ce
/-- What is written goes around what is kept. -/
structure Chg (N : Nat) (kd : UInt8) (Y Y' : Nat → Sl) (t : Sl) (v : Int) : Prop where
  pair : ∀ i, i < N → (Y' (2 * i) = Y (2 * i) ∧ Y' (2 * i + 1) = Y (2 * i + 1)) ∨ ∃ s, (s = 0 ∨ s = 1) ∧ s = oN (Y (2 * i)) (Y (2 * i + 1)) kd (zz Y kd t i).ce ∧ Y' (2 * i + (1 - s)) = Y (2 * i + (1 - s)) ∧ tB (Y' (2 * i + s)) kd v = false ∧ (Y' (2 * i + s)).ce ≠ t.V i
theorem around {N : Nat} {kd : UInt8} {Y : Nat → Sl} {t : Sl} (ho : Once N kd Y) (ht : t.ce ≠ 0) {i s : Nat} (hi : i < N) (hs : s = 0 ∨ s = 1) (h : s = oN (Y (2 * i)) (Y (2 * i + 1)) kd (zz Y kd t i).ce) : hB (Y (2 * i + s)) kd (t.V i) = false := by
  cases e : hB (Y (2 * i + s)) kd (t.V i)
  · rfl
  · exfalso
    obtain ⟨a, b, d⟩ := hB_true e
    rcases hs with rfl | rfl
    · rw [Nat.add_zero] at b d e
      have hz : zz Y kd t i = Y (2 * i) := by unfold zz fZ; rw [if_neg ht, e, if_pos rfl]
      rw [hz, d] at h
      unfold oN at h
      rw [e, if_pos rfl] at h
      omega
    · have h0 : hB (Y (2 * i)) kd (t.V i) = false := by
        cases g : hB (Y (2 * i)) kd (t.V i)
        · rfl
        · obtain ⟨_, b', d'⟩ := hB_true g
          exact absurd (d'.trans d.symm) (ho i hi b' b)
      have hz : zz Y kd t i = Y (2 * i + 1) := by unfold zz fZ; rw [if_neg ht, h0, if_neg Bool.false_ne_true, e, if_pos rfl]
      rw [hz, d] at h
      unfold oN at h
      rw [h0, if_neg Bool.false_ne_true, e, if_pos rfl] at h
      omega
/-- The version that is kept stays: it is told as before, and the same cells of it are there. -/
theorem kept {N : Nat} {c : Int} {kd : UInt8} {v : Int} {Y Y' : Nat → Sl} (hk : kd = 1 ∨ kd = 2) (hY : OkY N c Y) (ho : Once N kd Y) {t : Sl} (ht : tS Y kd v (2 * N) = t) (hc : Chg N kd Y Y' t v) : tS Y' kd v (2 * N) = t ∧ ∀ i, i < N → zz Y' kd t i = zz Y kd t i := by
  have key : ∀ m, m ≤ 2 * N → tS Y' kd v m = tS Y kd v m := by
    intro m
    induction m with
    | zero => intro _; rfl
    | succ m ih =>
      intro hm
      rw [tS, tS, ih (by omega)]
      by_cases e : (tS Y kd v m).ce = 0
      · rw [if_pos e, if_pos e]
        have h2 : m = 2 * (m / 2) + m % 2 := by omega
        rcases hc.pair (m / 2) (by omega) with ⟨g0, g1⟩ | ⟨s, hs, hso, g0, g1, g2⟩
        · have : Y' m = Y m := by
            rcases Nat.mod_two_eq_zero_or_one m with z | z
            · rw [h2, z]; exact g0
            · rw [h2, z]; exact g1
          rw [this]
        · by_cases es : m % 2 = s
          · have hYm : tB (Y' m) kd v = false := by rw [h2, es]; exact g1
            have hYo : tB (Y m) kd v = false := by
              cases q : tB (Y m) kd v
              · rfl
              · exfalso
                have hI := tB_ne hk (hY m (by omega)) q
                have h3 : tS Y kd v (m + 1) = Y m := by rw [tS, if_pos e, q, if_pos rfl]
                have h4 : t = Y m := by rw [← ht, ← h3]; exact tS_stay (by rw [h3]; exact (ok_of hI.1).ne) hm
                have h5 : t.ce ≠ 0 := by rw [h4]; exact (ok_of hI.1).ne
                have h6 := around ho h5 (by omega) hs hso
                rw [← es, ← h2, h4, ← hI.ce] at h6
                rw [hB_of (ok_of hI.1).ne (of_decide_eq_true q).1 rfl] at h6
                cases h6
            rw [hYm, hYo, if_neg Bool.false_ne_true, if_neg Bool.false_ne_true]
          · have : Y' m = Y m := by
              rw [h2, show m % 2 = 1 - s by omega]; exact g0
            rw [this]
      · rw [if_neg e, if_neg e]
  refine ⟨(key _ (Nat.le_refl _)).trans ht, fun i hi => ?_⟩
  unfold zz
  by_cases e : t.ce = 0
  · rw [if_pos e, if_pos e]
  · rw [if_neg e, if_neg e]
    rcases hc.pair i hi with ⟨g0, g1⟩ | ⟨s, hs, hso, g0, g1, g2⟩
    · rw [g0, g1]
    · have h1 := around ho e hi hs hso
      have h2 := hB_no (kd := kd) g2
      unfold fZ
      rcases hs with rfl | rfl
      · rw [Nat.add_zero] at h1 h2
        rw [show 1 - 0 = 1 from rfl] at g0
        rw [h1, h2, g0]; rfl
      · rw [show 1 - 1 = 0 from rfl, Nat.add_zero] at g0
        rw [h1, h2, g0]; rfl

/-- A slot of a whole stripe's version. -/
structure New (N : Nat) (c : Int) (kd : UInt8) (v : Int) (X : Nat → Int) (G : Nat → Nat → UInt8) (i : Nat) (y : Sl) : Prop where
  is : Is N c y i
  kd : y.kd = kd
  st : y.st = v
  V : ∀ l, l < N → y.V l = X l
  D : ∀ b, b < c.toNat → y.D b = G i b
theorem New.ce {N : Nat} {c : Int} {kd : UInt8} {v : Int} {X : Nat → Int} {G : Nat → Nat → UInt8} {i : Nat} {y : Sl} (h : New N c kd v X G i y) : y.ce = X i := by
  rw [h.is.ce]; exact h.V i (by have := (ok_of h.is.1).ix; have := h.is.2; omega)
/-- A version that no other slot has, in some drives. -/
structure Fresh (N : Nat) (c : Int) (kd : UInt8) (v : Int) (G : Nat → Nat → UInt8) (P : Nat → Bool) (Y : Nat → Sl) : Prop where
  yes : ∀ i, i < N → P i = true → ∃ s, (s = 0 ∨ s = 1) ∧ New N c kd v (fun _ => v) G i (Y (2 * i + s)) ∧ (Y (2 * i + (1 - s))).st < v
  no : ∀ i, i < N → P i = false → (Y (2 * i)).st < v ∧ (Y (2 * i + 1)).st < v
theorem ce_lt {N : Nat} {c : Int} {y : Sl} {i : Nat} {v : Int} (hv : 1 ≤ v) (h : y = zSl ∨ Is N c y i) (hs : y.st < v) : y.ce ≠ v := by
  rcases h with rfl | h
  · show (0 : Int) ≠ v; omega
  · have := (ok_of h.1).le; omega
theorem fresh {N : Nat} {c : Int} {kd : UInt8} {v : Int} {G : Nat → Nat → UInt8} {P : Nat → Bool} {Y : Nat → Sl} (hk : kd = 1 ∨ kd = 2) (hv : 1 ≤ v) (hY : OkY N c Y) (hf : Fresh N c kd v G P Y) :
    ∀ i, i < N → (P i = true → New N c kd v (fun _ => v) G i (zz Y kd (tS Y kd v (2 * N)) i)) ∧ (P i = false → zz Y kd (tS Y kd v (2 * N)) i = zSl) := by
  have hV : (tS Y kd v (2 * N) = zSl ∧ ∀ i, i < N → P i = false) ∨ ((tS Y kd v (2 * N)).ce ≠ 0 ∧ ∀ l, l < N → (tS Y kd v (2 * N)).V l = v) := by
    rcases tS_is (v := v) hk hY (2 * N) (Nat.le_refl _) with ⟨h1, h2⟩ | ⟨j, h1, h2, h3, h4, h5⟩
    · refine .inl ⟨h1, fun i hi => ?_⟩
      cases e : P i
      · rfl
      · obtain ⟨s, hs, hn, _⟩ := hf.yes i hi e
        have := h2 (2 * i + s) (by omega)
        rw [show tB (Y (2 * i + s)) kd v = true from decide_eq_true ⟨hn.kd, hn.st⟩] at this
        cases this
    · refine .inr ⟨by rw [h2]; exact (ok_of h4.1).ne, ?_⟩
      rw [h2]
      have hst : (Y j).st = v := (of_decide_eq_true h3).2
      have hj : j = 2 * (j / 2) + j % 2 := by omega
      cases e : P (j / 2)
      · obtain ⟨g0, g1⟩ := hf.no (j / 2) (by omega) e
        rcases Nat.mod_two_eq_zero_or_one j with z | z
        · rw [z, Nat.add_zero] at hj; rw [← hj] at g0; omega
        · rw [z] at hj; rw [← hj] at g1; omega
      · obtain ⟨s, hs, hn, ho⟩ := hf.yes (j / 2) (by omega) e
        by_cases es : j % 2 = s
        · rw [← es, ← hj] at hn; exact hn.V
        · rw [show 1 - s = j % 2 by omega, ← hj] at ho; omega
  intro i hi
  obtain ⟨p0, p1⟩ := pair_of hY hi
  refine ⟨fun e => ?_, fun e => ?_⟩
  · rcases hV with ⟨_, h⟩ | ⟨h1, h2⟩
    · rw [h i hi] at e; cases e
    · obtain ⟨s, hs, hn, ho⟩ := hf.yes i hi e
      have hz : zz Y kd (tS Y kd v (2 * N)) i = Y (2 * i + s) := by
        unfold zz fZ
        rw [if_neg h1, h2 i hi]
        have hh : hB (Y (2 * i + s)) kd v = true := hB_of (by omega) hn.kd hn.ce
        rcases hs with rfl | rfl
        · rw [Nat.add_zero] at hh ⊢; rw [hh, if_pos rfl]; rfl
        · rw [show 1 - 1 = 0 from rfl, Nat.add_zero] at ho
          rw [hB_no (ce_lt hv p0 ho), if_neg Bool.false_ne_true, hh, if_pos rfl]
      rw [hz]; exact hn
  · rcases hV with ⟨h, _⟩ | ⟨h1, h2⟩
    · unfold zz; rw [h]; exact if_pos rfl
    · obtain ⟨g0, g1⟩ := hf.no i hi e
      unfold zz fZ
      rw [if_neg h1, h2 i hi, hB_no (ce_lt hv p0 g0), hB_no (ce_lt hv p1 g1), if_neg Bool.false_ne_true, if_neg Bool.false_ne_true]

/-- Missing cells are written anew. -/
structure Mnd (N : Nat) (c : Int) (kd : UInt8) (v : Int) (G : Nat → Nat → UInt8) (Y Y' : Nat → Sl) (t : Sl) : Prop where
  yes : ∀ i, i < N → (zz Y kd t i).ce ≠ 0 → Y' (2 * i) = Y (2 * i) ∧ Y' (2 * i + 1) = Y (2 * i + 1)
  no : ∀ i, i < N → (zz Y kd t i).ce = 0 → ∃ s, (s = 0 ∨ s = 1) ∧ Y' (2 * i + (1 - s)) = Y (2 * i + (1 - s)) ∧ New N c kd v t.V G i (Y' (2 * i + s))
theorem mended {N : Nat} {c : Int} {kd : UInt8} {v : Int} {G : Nat → Nat → UInt8} {Y Y' : Nat → Sl} {t : Sl} (hk : kd = 1 ∨ kd = 2) (hY : OkY N c Y) (hY' : OkY N c Y') (ht : tS Y kd v (2 * N) = t) (h0 : t.ce ≠ 0) (hm : Mnd N c kd v G Y Y' t) :
    ∀ i, i < N → ((zz Y kd t i).ce ≠ 0 → zz Y' kd (tS Y' kd v (2 * N)) i = zz Y kd t i) ∧ ((zz Y kd t i).ce = 0 → New N c kd v t.V G i (zz Y' kd (tS Y' kd v (2 * N)) i)) := by
  have hV : (tS Y' kd v (2 * N)).ce ≠ 0 ∧ ∀ l, l < N → (tS Y' kd v (2 * N)).V l = t.V l := by
    rcases tS_is (v := v) hk hY (2 * N) (Nat.le_refl _) with ⟨h1, _⟩ | ⟨j, h1, h2, h3, h4, h5⟩
    · rw [ht] at h1; rw [h1] at h0; exact absurd rfl h0
    · rw [ht] at h2
      have hj : j = 2 * (j / 2) + j % 2 := by omega
      have hz : (zz Y kd t (j / 2)).ce ≠ 0 := by
        obtain ⟨p0, p1⟩ := pair_of hY (show j / 2 < N by omega)
        have hb : hB (Y j) kd (t.V (j / 2)) = true := by rw [h2, ← h4.ce]; exact hB_of (ok_of h4.1).ne (of_decide_eq_true h3).1 rfl
        unfold zz
        rw [if_neg h0]
        rcases fZ_is (kd := kd) (v := t.V (j / 2)) p0 p1 with ⟨_, g0, g1⟩ | ⟨_, _, g, g'⟩
        · rcases Nat.mod_two_eq_zero_or_one j with z | z
          · rw [z, Nat.add_zero] at hj; rw [← hj, hb] at g0; cases g0
          · rw [z] at hj; rw [← hj, hb] at g1; cases g1
        · rw [g]; exact g'
      have hY'j : Y' j = Y j := by
        obtain ⟨g0, g1⟩ := hm.yes (j / 2) (by omega) hz
        rcases Nat.mod_two_eq_zero_or_one j with z | z
        · rw [hj, z]; exact g0
        · rw [hj, z]; exact g1
      rcases tS_is (v := v) hk hY' (2 * N) (Nat.le_refl _) with ⟨_, k2⟩ | ⟨j', k1, k2, k3, k4, k5⟩
      · have := k2 j h1; rw [hY'j, h3] at this; cases this
      · refine ⟨by rw [k2]; exact (ok_of k4.1).ne, ?_⟩
        rw [k2]
        have hle : j' ≤ j := by
          rcases Nat.lt_or_ge j j' with g | g
          · have := k5 j g; rw [hY'j, h3] at this; cases this
          · exact g
        by_cases e : j' = j
        · rw [e, hY'j, h2]; exact fun _ _ => rfl
        · have hno := h5 j' (by omega)
          have hj' : j' = 2 * (j' / 2) + j' % 2 := by omega
          have hne : Y' j' ≠ Y j' := fun g => by rw [g, hno] at k3; cases k3
          by_cases q : (zz Y kd t (j' / 2)).ce = 0
          · obtain ⟨s, hs, g0, g1⟩ := hm.no (j' / 2) (by omega) q
            by_cases es : j' % 2 = s
            · rw [← es, ← hj'] at g1; exact g1.V
            · rw [show 1 - s = j' % 2 by omega, ← hj'] at g0; exact absurd g0 hne
          · obtain ⟨g0, g1⟩ := hm.yes (j' / 2) (by omega) q
            rcases Nat.mod_two_eq_zero_or_one j' with z | z
            · rw [z, Nat.add_zero] at hj'; rw [← hj'] at g0; exact absurd g0 hne
            · rw [z] at hj'; rw [← hj'] at g1; exact absurd g1 hne
  obtain ⟨hV1, hV2⟩ := hV
  intro i hi
  refine ⟨fun e => ?_, fun e => ?_⟩
  · obtain ⟨g0, g1⟩ := hm.yes i hi e
    unfold zz
    rw [if_neg hV1, if_neg h0, g0, g1, hV2 i hi]
  · obtain ⟨s, hs, g0, g1⟩ := hm.no i hi e
    obtain ⟨p0, p1⟩ := pair_of hY hi
    have hne : t.V i ≠ 0 := by rw [← g1.ce]; exact (ok_of g1.is.1).ne
    have hnone : hB (Y (2 * i)) kd (t.V i) = false ∧ hB (Y (2 * i + 1)) kd (t.V i) = false := by
      unfold zz at e
      rw [if_neg h0] at e
      rcases fZ_is (kd := kd) (v := t.V i) p0 p1 with ⟨_, g⟩ | ⟨_, _, g, g'⟩
      · exact g
      · rw [g] at e; exact absurd e g'
    have hh : hB (Y' (2 * i + s)) kd (t.V i) = true := hB_of hne g1.kd g1.ce
    have hz : zz Y' kd (tS Y' kd v (2 * N)) i = Y' (2 * i + s) := by
      unfold zz fZ
      rw [if_neg hV1, hV2 i hi]
      rcases hs with rfl | rfl
      · rw [Nat.add_zero] at hh ⊢; rw [hh, if_pos rfl]; rfl
      · rw [show 1 - 1 = 0 from rfl, Nat.add_zero] at g0
        rw [g0, hnone.1, if_neg Bool.false_ne_true, hh, if_pos rfl]
    rw [hz]; exact g1
end Go.Proofs.YtfhefbbhlmdjkaaGreat
