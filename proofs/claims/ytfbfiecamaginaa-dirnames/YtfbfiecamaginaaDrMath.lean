/- Entries without memory: which may be, their bytes, what bytes tell, where a name stands, added, removed. -/
import Derived.WalkKit
namespace Go.Proofs.Ytfbfiecamaginaa

abbrev Nm := List UInt8
abbrev En := Nm × Int
theorem nlt_irrefl (a : Nm) : ¬ a < a := List.lt_irrefl a
theorem nlt_trans {a b c : Nm} (h : a < b) (g : b < c) : a < c := List.lt_trans h g
theorem nlt_total (a b : Nm) (h : ¬ a < b) (g : a ≠ b) : b < a := by
  have h1 : b ≤ a := h
  rcases List.le_iff_lt_or_eq.1 h1 with e | e
  · exact e
  · exact absurd e.symm g
def mayN (l : Nm) : Bool := decide (1 ≤ l.length ∧ l.length ≤ 24)
def gN (l : List En) (i : Nat) : Nm := (l.getD i ([], 0)).1
def gR (l : List En) (i : Nat) : Int := (l.getD i ([], 0)).2
theorem gN_eq {l : List En} {i : Nat} (h : i < l.length) : gN l i = (l[i]'h).1 := by unfold gN; rw [List.getD_eq_getElem?_getD, List.getElem?_eq_getElem h]; rfl
theorem gR_eq {l : List En} {i : Nat} (h : i < l.length) : gR l i = (l[i]'h).2 := by unfold gR; rw [List.getD_eq_getElem?_getD, List.getElem?_eq_getElem h]; rfl
def inR (q r : Int) : Bool := decide (0 ≤ r ∧ r < q)
def oneE (q : Int) (x : En) : Bool := mayN x.1 && inR q x.2
def okI (q : Int) (l : List En) (i : Nat) : Bool := oneE q (gN l i, gR l i) && (decide (i = 0) || decide (gN l (i - 1) < gN l i))
def mayE (q : Int) (l : List En) : Bool := (List.range l.length).all (okI q l)
theorem mayE_iff (q : Int) (l : List En) : mayE q l = true ↔ ∀ i, i < l.length → okI q l i = true := by simp [mayE]
theorem mayE_no {q : Int} {l : List En} {i : Nat} (h : i < l.length) (g : okI q l i = false) : mayE q l = false := by
  rw [Bool.eq_false_iff]; intro e
  rw [(mayE_iff q l).1 e i h] at g; cases g
/-- In their row. -/
def Ri (l : List En) : Prop := l.Pairwise fun a b => a.1 < b.1
theorem ri_of {q : Int} {l : List En} (h : mayE q l = true) : Ri l := by
  have h0 := (mayE_iff q l).1 h
  have stp1 : ∀ i, i + 1 < l.length → gN l i < gN l (i + 1) := fun i hi => by
    have := h0 (i + 1) hi
    unfold okI at this
    rw [Bool.and_eq_true] at this
    have h2 := this.2
    rw [show i + 1 - 1 = i from rfl] at h2
    simpa using h2
  have far : ∀ d i, i + d + 1 < l.length → gN l i < gN l (i + d + 1) := fun d => by
    induction d with
    | zero => exact fun i hi => stp1 i hi
    | succ d ih => exact fun i hi => nlt_trans (ih i (by omega)) (stp1 (i + d + 1) hi)
  unfold Ri
  rw [List.pairwise_iff_getElem]
  intro i j hi hj hij
  have := far (j - i - 1) i (by omega)
  rw [show i + (j - i - 1) + 1 = j by omega, gN_eq hi, gN_eq hj] at this
  exact this
theorem one_of {q : Int} {l : List En} (h : mayE q l = true) : ∀ x ∈ l, oneE q x = true := fun x hx => by
  obtain ⟨i, hi, rfl⟩ := List.mem_iff_getElem.1 hx
  have := (mayE_iff q l).1 h i hi
  unfold okI at this
  rw [Bool.and_eq_true] at this
  rw [gN_eq hi, gR_eq hi] at this
  exact this.1
theorem mayE_of {q : Int} {l : List En} (h : ∀ x ∈ l, oneE q x = true) (g : Ri l) : mayE q l = true := by
  rw [mayE_iff]
  intro i hi
  unfold okI
  rw [Bool.and_eq_true, gR_eq hi, gN_eq hi]
  refine ⟨h _ (List.getElem_mem hi), ?_⟩
  by_cases e : i = 0
  · simp [e]
  · have := List.pairwise_iff_getElem.1 g (i - 1) i (by omega) hi (by omega)
    rw [gN_eq (show i - 1 < l.length by omega)]
    simp [e, this]
theorem ri_unique : ∀ (a b : List En), Ri a → Ri b → (∀ x, x ∈ a ↔ x ∈ b) → a = b
  | [], [], _, _, _ => rfl
  | [], y :: b, _, _, h => absurd ((h y).2 (List.mem_cons_self ..)) (by simp)
  | x :: a, [], _, _, h => absurd ((h x).1 (List.mem_cons_self ..)) (by simp)
  | x :: a, y :: b, ha, hb, h => by
    obtain ⟨ha1, ha2⟩ := List.pairwise_cons.1 ha
    obtain ⟨hb1, hb2⟩ := List.pairwise_cons.1 hb
    have hxy : x = y := by
      have h1 := (h x).1 (List.mem_cons_self ..)
      have h2 := (h y).2 (List.mem_cons_self ..)
      rcases List.mem_cons.1 h1 with e | e
      · exact e
      · rcases List.mem_cons.1 h2 with e2 | e2
        · exact e2.symm
        · exact absurd (nlt_trans (ha1 y e2) (hb1 x e)) (nlt_irrefl _)
    subst hxy
    rw [ri_unique a b ha2 hb2 fun z => ?_]
    constructor
    · intro hz
      rcases List.mem_cons.1 ((h z).1 (List.mem_cons_of_mem _ hz)) with e | e
      · subst e; exact absurd (ha1 z hz) (nlt_irrefl _)
      · exact e
    · intro hz
      rcases List.mem_cons.1 ((h z).2 (List.mem_cons_of_mem _ hz)) with e | e
      · subst e; exact absurd (hb1 z hz) (nlt_irrefl _)
      · exact e

/-! ### Where a name stands -/
def tw (l : List En) (s : Nm) : List En := l.takeWhile fun y => decide (y.1 < s)
def dw (l : List En) (s : Nm) : List En := l.dropWhile fun y => decide (y.1 < s)
def posE (l : List En) (s : Nm) : Nat := (tw l s).length
def isE (l : List En) (s : Nm) : Bool := decide (posE l s < l.length) && (gN l (posE l s) == s)
theorem tw_dw (l : List En) (s : Nm) : tw l s ++ dw l s = l := List.takeWhile_append_dropWhile
theorem posE_le (l : List En) (s : Nm) : posE l s ≤ l.length := by
  have := congrArg List.length (tw_dw l s)
  rw [List.length_append] at this
  unfold posE; omega
theorem take_pos (l : List En) (s : Nm) : l.take (posE l s) = tw l s := by
  have h := tw_dw l s
  unfold posE
  generalize tw l s = a at h ⊢
  generalize dw l s = b at h ⊢
  subst h
  simp
theorem drop_pos (l : List En) (s : Nm) : l.drop (posE l s) = dw l s := by
  have h := tw_dw l s
  unfold posE
  generalize tw l s = a at h ⊢
  generalize dw l s = b at h ⊢
  subst h
  simp
theorem tw_mem {l : List En} {s : Nm} {y : En} (h : y ∈ tw l s) : y.1 < s := by
  unfold tw at h
  have := List.all_takeWhile (p := fun y : En => decide (y.1 < s)) (l := l)
  rw [List.all_eq_true] at this
  simpa using this y h
theorem pos_lt {l : List En} {s : Nm} {j : Nat} (h : j < posE l s) : gN l j < s := by
  have hl := posE_le l s
  have hj : j < (tw l s).length := h
  rw [gN_eq (show j < l.length by omega)]
  have e : l[j]'(by omega) = (tw l s)[j]'hj := by
    have := take_pos l s
    have h2 : (l.take (posE l s))[j]? = (tw l s)[j]? := by rw [this]
    rw [List.getElem?_take_of_lt h, List.getElem?_eq_getElem (show j < l.length by omega), List.getElem?_eq_getElem hj] at h2
    exact Option.some.inj h2
  rw [e]
  exact tw_mem (List.getElem_mem hj)
theorem pos_not {l : List En} {s : Nm} (h : posE l s < l.length) : ¬ gN l (posE l s) < s := by
  intro g
  rw [gN_eq h] at g
  have hd := drop_pos l s
  have : dw l s = l[posE l s] :: l.drop (posE l s + 1) := by rw [← hd]; exact List.drop_eq_getElem_cons h
  have h2 := List.head?_dropWhile_not (fun y : En => decide (y.1 < s)) l
  have h3 : (l.dropWhile fun y : En => decide (y.1 < s)) = dw l s := rfl
  rw [h3, this, List.head?_cons] at h2
  exact absurd g (by simpa using h2)
/-- So many stand ahead. -/
theorem pos_of {l : List En} {s : Nm} {i : Nat} (hi : i ≤ l.length) (h1 : ∀ j, j < i → gN l j < s) (h2 : i < l.length → ¬ gN l i < s) : posE l s = i := by
  have hl := posE_le l s
  rcases Nat.lt_trichotomy (posE l s) i with h | h | h
  · exact absurd (h1 _ h) (pos_not (by omega))
  · exact h
  · exact absurd (pos_lt h) (h2 (by omega))
theorem ri_lt {l : List En} (h : Ri l) {i j : Nat} (hij : i < j) (hj : j < l.length) : gN l i < gN l j := by
  rw [gN_eq hj, gN_eq (show i < l.length by omega)]
  exact List.pairwise_iff_getElem.1 h i j (by omega) hj hij
theorem ri_mid {l : List En} (h : Ri l) {A B : List En} {y : En} (e : l = A ++ y :: B) : tw l y.1 = A ∧ dw l y.1 = y :: B ∧ isE l y.1 = true := by
  subst e
  obtain ⟨h1, h2, h3⟩ := List.pairwise_append.1 h
  have ht : tw (A ++ y :: B) y.1 = A := by
    unfold tw
    rw [List.takeWhile_append_of_pos (fun a ha => by simpa using h3 a ha y (List.mem_cons_self ..))]
    simp [nlt_irrefl]
  have hd : dw (A ++ y :: B) y.1 = y :: B := by
    have := tw_dw (A ++ y :: B) y.1
    rw [ht] at this
    exact List.append_cancel_left this
  refine ⟨ht, hd, ?_⟩
  unfold isE posE
  rw [ht]
  simp [gN, List.getD_eq_getElem?_getD]
theorem is_iff {l : List En} (h : Ri l) (s : Nm) : isE l s = true ↔ ∃ y ∈ l, y.1 = s := by
  constructor
  · intro g
    unfold isE at g
    rw [Bool.and_eq_true] at g
    have h1 : posE l s < l.length := by simpa using g.1
    have h2 : gN l (posE l s) = s := by simpa using g.2
    rw [gN_eq h1] at h2
    exact ⟨_, List.getElem_mem h1, h2⟩
  · rintro ⟨y, hy, rfl⟩
    obtain ⟨A, B, e⟩ := List.append_of_mem hy
    exact (ri_mid h e).2.2
def insE (l : List En) (x : En) : List En := tw l x.1 ++ x :: dw l x.1
def remE (l : List En) (s : Nm) : List En := tw l s ++ (dw l s).tail
theorem insE_eq (l : List En) (x : En) : insE l x = l.take (posE l x.1) ++ ([x] ++ l.drop (posE l x.1)) := by rw [take_pos, drop_pos]; rfl
theorem remE_eq (l : List En) (s : Nm) : remE l s = l.take (posE l s) ++ l.drop (posE l s + 1) := by
  rw [take_pos, ← List.tail_drop, drop_pos]; rfl
theorem ins_length (l : List En) (x : En) : (insE l x).length = l.length + 1 := by
  have := congrArg List.length (tw_dw l x.1)
  rw [List.length_append] at this
  unfold insE
  rw [List.length_append, List.length_cons]; omega
theorem ins_mem (l : List En) (x z : En) : z ∈ insE l x ↔ z = x ∨ z ∈ l := by
  conv => rhs; rw [← tw_dw l x.1]
  unfold insE
  rw [List.mem_append, List.mem_append, List.mem_cons]
  constructor
  · rintro (h | h | h)
    · exact .inr (.inl h)
    · exact .inl h
    · exact .inr (.inr h)
  · rintro (h | h | h)
    · exact .inr (.inl h)
    · exact .inl h
    · exact .inr (.inr h)
theorem ri_ins {l : List En} (h : Ri l) {x : En} (g : isE l x.1 = false) : Ri (insE l x) := by
  have h0 := h
  unfold Ri at h0
  rw [← tw_dw l x.1] at h0
  obtain ⟨h1, h2, h3⟩ := List.pairwise_append.1 h0
  have hd : ∀ b ∈ dw l x.1, x.1 < b.1 := by
    cases hdd : dw l x.1 with
    | nil => intro b hb; cases hb
    | cons y B =>
      have hl : posE l x.1 < l.length := by
        have := congrArg List.length (tw_dw l x.1)
        rw [List.length_append, hdd, List.length_cons] at this
        unfold posE; omega
      have hy : l[posE l x.1] = y := by
        have := List.drop_eq_getElem_cons hl
        rw [drop_pos, hdd] at this
        exact (List.cons.inj this).1.symm
      have hn := pos_not hl
      have hne : gN l (posE l x.1) ≠ x.1 := fun e => by
        have : isE l x.1 = true := by unfold isE; rw [e]; simp [hl]
        rw [this] at g; cases g
      rw [gN_eq hl, hy] at hn hne
      have hxy := nlt_total _ _ hn hne
      rw [hdd] at h2
      intro b hb
      rcases List.mem_cons.1 hb with rfl | hb
      · exact hxy
      · exact nlt_trans hxy ((List.pairwise_cons.1 h2).1 b hb)
  unfold Ri insE
  refine List.pairwise_append.2 ⟨h1, List.pairwise_cons.2 ⟨hd, h2⟩, fun a ha b hb => ?_⟩
  rcases List.mem_cons.1 hb with rfl | hb
  · exact tw_mem ha
  · exact h3 a ha b hb
theorem mayE_ins {q : Int} {l : List En} (h : mayE q l = true) {x : En} (hx : oneE q x = true) (g : isE l x.1 = false) : mayE q (insE l x) = true :=
  mayE_of (fun z hz => by rcases (ins_mem l x z).1 hz with rfl | hz; exact hx; exact one_of h z hz) (ri_ins (ri_of h) g)
theorem mayE_rem {q : Int} {l : List En} (h : mayE q l = true) (s : Nm) : mayE q (remE l s) = true := by
  have hs : (remE l s).Sublist l := by
    conv => rhs; rw [← tw_dw l s]
    exact List.Sublist.append (List.Sublist.refl _) (List.tail_sublist _)
  exact mayE_of (fun z hz => one_of h z (hs.subset hz)) (List.Pairwise.sublist hs (ri_of h))
theorem ins_mid (l : List En) (x : En) (h : Ri (insE l x)) : posE (insE l x) x.1 = posE l x.1 ∧ isE (insE l x) x.1 = true ∧ remE (insE l x) x.1 = l ∧ gR (insE l x) (posE (insE l x) x.1) = x.2 := by
  obtain ⟨h1, h2, h3⟩ := ri_mid h (A := tw l x.1) (B := dw l x.1) (y := x) rfl
  refine ⟨by unfold posE; rw [h1], h3, by unfold remE; rw [h1, h2]; exact tw_dw l x.1, ?_⟩
  unfold posE; rw [h1]
  simp [gR, insE, List.getD_eq_getElem?_getD]
/-- What stands in a row is found there. -/
theorem found {l : List En} (h : Ri l) {i : Nat} (hi : i < l.length) : posE l (gN l i) = i ∧ isE l (gN l i) = true := by
  have hp : posE l (gN l i) = i := pos_of (by omega) (fun j hj => ri_lt h hj hi) (fun _ => nlt_irrefl _)
  refine ⟨hp, ?_⟩
  unfold isE
  rw [hp]
  simp [hi]
theorem found_mem {l : List En} (h : Ri l) {y : En} (hy : y ∈ l) : isE l y.1 = true ∧ posE l y.1 < l.length ∧ gR l (posE l y.1) = y.2 := by
  obtain ⟨i, hi, rfl⟩ := List.mem_iff_getElem.1 hy
  have := found h hi
  rw [gN_eq hi] at this
  rw [this.1, gR_eq hi]
  exact ⟨this.2, hi, rfl⟩
theorem ins_comm {l : List En} (h : Ri l) {x y : En} (h1 : isE l x.1 = false) (h2 : isE (insE l x) y.1 = false) :
    isE l y.1 = false ∧ isE (insE l y) x.1 = false ∧ insE (insE l y) x = insE (insE l x) y := by
  have hr := ri_ins h h1
  have n2 : ¬ ∃ z ∈ insE l x, z.1 = y.1 := fun e => by rw [(is_iff hr y.1).2 e] at h2; cases h2
  have g1 : isE l y.1 = false := by
    rw [Bool.eq_false_iff, Ne, is_iff h]
    rintro ⟨z, hz, e⟩
    exact n2 ⟨z, (ins_mem l x z).2 (.inr hz), e⟩
  have hq := ri_ins h g1
  have g2 : isE (insE l y) x.1 = false := by
    rw [Bool.eq_false_iff, Ne, is_iff hq]
    rintro ⟨z, hz, e⟩
    rcases (ins_mem l y z).1 hz with rfl | hz
    · exact n2 ⟨x, (ins_mem l x x).2 (.inl rfl), e.symm⟩
    · have : isE l x.1 = true := (is_iff h x.1).2 ⟨z, hz, e⟩
      rw [this] at h1; cases h1
  refine ⟨g1, g2, ri_unique _ _ (ri_ins hq g2) (ri_ins hr h2) fun z => ?_⟩
  rw [ins_mem, ins_mem, ins_mem, ins_mem]
  constructor
  · rintro (e | e | e)
    · exact .inr (.inl e)
    · exact .inl e
    · exact .inr (.inr e)
  · rintro (e | e | e)
    · exact .inr (.inl e)
    · exact .inl e
    · exact .inr (.inr e)

/-! ### Bytes -/
def szE (l : List En) : Nat := (l.map fun x => x.1.length + 3).sum
theorem sz_nil : szE [] = 0 := rfl
theorem sz_cons (x : En) (l : List En) : szE (x :: l) = x.1.length + 3 + szE l := by simp [szE]
theorem sz_append (a b : List En) : szE (a ++ b) = szE a + szE b := by simp [szE, List.sum_append]
theorem sz_ins (l : List En) (x : En) : szE (insE l x) = szE l + (x.1.length + 3) := by
  have := congrArg szE (tw_dw l x.1)
  rw [sz_append] at this
  unfold insE
  rw [sz_append, sz_cons]; omega
theorem sz_take {l : List En} {i : Nat} (h : i < l.length) : szE (l.take (i + 1)) = szE (l.take i) + ((gN l i).length + 3) := by
  rw [List.take_succ_eq_append_getElem h, sz_append, sz_cons, sz_nil, gN_eq h]
theorem sz_bound {l : List En} {m : Nat} (h : ∀ x ∈ l, x.1.length ≤ m) : szE l ≤ l.length * (m + 3) := by
  induction l with
  | nil => simp [szE]
  | cons x l ih =>
    have h1 := h x (List.mem_cons_self ..)
    have h2 := ih fun y hy => h y (List.mem_cons_of_mem _ hy)
    rw [sz_cons, List.length_cons, Nat.succ_mul]; omega
theorem sz_take_le (l : List En) (i : Nat) : szE (l.take i) ≤ szE l := by
  conv => rhs; rw [← List.take_append_drop i l]
  rw [sz_append]; omega
def rb (r : Int) : List UInt8 := [UInt8.ofNat (r / 256).toNat, UInt8.ofNat (r % 256).toNat]
def byE (x : En) : List UInt8 := UInt8.ofNat x.1.length :: (x.1 ++ rb x.2)
def bys (l : List En) : List UInt8 := l.flatMap byE
theorem by_length (x : En) : (byE x).length = x.1.length + 3 := by simp [byE, rb]
theorem bys_length (l : List En) : (bys l).length = szE l := by
  induction l with
  | nil => rfl
  | cons x l ih => rw [sz_cons, ← ih]; simp [bys, by_length]
theorem bys_append (a b : List En) : bys (a ++ b) = bys a ++ bys b := by simp [bys]
theorem bys_cons (x : En) (b : List En) : bys (x :: b) = byE x ++ bys b := by simp [bys]
theorem bys_nil : bys [] = [] := rfl
theorem bys_take {l : List En} {i : Nat} (h : i < l.length) : bys (l.take (i + 1)) = bys (l.take i) ++ (([UInt8.ofNat (gN l i).length] ++ gN l i) ++ rb (gR l i)) := by
  rw [List.take_succ_eq_append_getElem h, bys_append, bys_cons, bys_nil, List.append_nil, gN_eq h, gR_eq h]
  rfl
/-- An entry that bytes can tell. -/
def Wf (x : En) : Prop := x.1.length ≤ 255 ∧ 0 ≤ x.2 ∧ x.2 < 65536
/-- Bytes at whose beginning an entry is cut short. -/
def Cut (b : List UInt8) : Prop := b ≠ [] ∧ b.length < (b.getD 0 0).toNat + 3
/-- What bytes tell: entries, and what is left. -/
def Prs (b : List UInt8) (l : List En) (rest : List UInt8) : Prop := b = bys l ++ rest ∧ (∀ x ∈ l, Wf x) ∧ (rest = [] ∨ Cut rest)
theorem rb_row (a b : UInt8) : rb ((a.toNat : Int) * 256 + (b.toNat : Int)) = [a, b] := by
  have ha := a.toNat_lt
  have hb := b.toNat_lt
  unfold rb
  rw [show ((a.toNat : Int) * 256 + (b.toNat : Int)) / 256 = (a.toNat : Int) by omega, show ((a.toNat : Int) * 256 + (b.toNat : Int)) % 256 = (b.toNat : Int) by omega]
  simp
theorem prs_ex : ∀ (n : Nat) (b : List UInt8), b.length ≤ n → ∃ l rest, Prs b l rest
  | 0, b, h => ⟨[], [], by rw [List.eq_nil_of_length_eq_zero (by omega : b.length = 0)]; rfl, by simp, .inl rfl⟩
  | n + 1, [], _ => ⟨[], [], rfl, by simp, .inl rfl⟩
  | n + 1, c :: t, h => by
    have hc := c.toNat_lt
    by_cases hs : t.length < c.toNat + 2
    · exact ⟨[], c :: t, rfl, by simp, .inr ⟨by simp, by simp; omega⟩⟩
    · rw [List.length_cons] at h
      obtain ⟨l, rest, h1, h2, h3⟩ := prs_ex n (t.drop (c.toNat + 2)) (by rw [List.length_drop]; omega)
      have ht : t = t.take c.toNat ++ ([t[c.toNat]'(by omega), t[c.toNat + 1]'(by omega)] ++ t.drop (c.toNat + 2)) := by
        conv => lhs; rw [← List.take_append_drop c.toNat t]
        rw [List.drop_eq_getElem_cons (show c.toNat < t.length by omega), List.drop_eq_getElem_cons (show c.toNat + 1 < t.length by omega)]
        rfl
      obtain ⟨u, hu⟩ : ∃ u, u = t[c.toNat]'(by omega) := ⟨_, rfl⟩
      obtain ⟨v, hv⟩ : ∃ v, v = t[c.toNat + 1]'(by omega) := ⟨_, rfl⟩
      have hul := u.toNat_lt
      have hvl := v.toNat_lt
      have hlen : (t.take c.toNat).length = c.toNat := by rw [List.length_take]; omega
      refine ⟨(t.take c.toNat, (u.toNat : Int) * 256 + (v.toNat : Int)) :: l, rest, ?_, ?_, h3⟩
      · rw [bys_cons, List.append_assoc, ← h1]
        unfold byE
        rw [rb_row, hlen, hu, hv]
        conv => lhs; rw [ht]
        simp
      · intro x hx
        rcases List.mem_cons.1 hx with rfl | hx
        · exact ⟨by simp only [hlen]; omega, by simp only; omega, by simp only; omega⟩
        · exact h2 x hx
theorem prs_of (b : List UInt8) : ∃ l rest, Prs b l rest := prs_ex b.length b (Nat.le_refl _)
theorem wf_one {q : Int} {x : En} (hq : q ≤ 256) (h : oneE q x = true) : Wf x := by
  unfold oneE mayN inR at h
  simp at h
  exact ⟨by omega, by omega, by omega⟩
theorem prs_bys {q : Int} {l : List En} (hq : q ≤ 256) (h : mayE q l = true) : Prs (bys l) l [] := ⟨by simp, fun x hx => wf_one hq (one_of h x hx), .inl rfl⟩
theorem prs_sz {b rest : List UInt8} {l : List En} (h : Prs b l rest) : b.length = szE l + rest.length := by
  rw [h.1, List.length_append, bys_length]

/-! ### Rows -/
def allR (q : Int) (L : List Int) : Bool := L.all (inR q)
def okT (q : Int) (L : List Int) : Bool := allR q L && decide (L.length = 4)
def rts (L : List Int) : List UInt8 := L.flatMap rb
theorem rts_length (L : List Int) : (rts L).length = 2 * L.length := by
  induction L with
  | nil => rfl
  | cons x L ih => simp [rts, rb] at ih ⊢; omega
def rwB (b : List UInt8) (i : Nat) : Int := ((b.getD (2 * i) 0).toNat : Int) * 256 + ((b.getD (2 * i + 1) 0).toNat : Int)
def rws (b : List UInt8) : List Int := [rwB b 0, rwB b 1, rwB b 2, rwB b 3]
theorem rts_rws {b : List UInt8} (h : b.length = 8) : rts (rws b) = b := by
  match b, h with
  | [a0, a1, a2, a3, a4, a5, a6, a7], _ =>
    have e : rws [a0, a1, a2, a3, a4, a5, a6, a7] = [(a0.toNat : Int) * 256 + (a1.toNat : Int), (a2.toNat : Int) * 256 + (a3.toNat : Int), (a4.toNat : Int) * 256 + (a5.toNat : Int), (a6.toNat : Int) * 256 + (a7.toNat : Int)] := rfl
    rw [e]
    simp only [rts, List.flatMap_cons, List.flatMap_nil, rb_row]
    rfl
theorem rb_get {r : Int} (h0 : 0 ≤ r) (h1 : r < 65536) : (((rb r).getD 0 0).toNat : Int) * 256 + (((rb r).getD 1 0).toNat : Int) = r := by
  unfold rb
  simp only [List.getD_eq_getElem?_getD, List.getElem?_cons_zero, List.getElem?_cons_succ, Option.getD_some]
  rw [UInt8.toNat_ofNat', UInt8.toNat_ofNat']
  omega
theorem rws_rts {q : Int} {L : List Int} (hq : q ≤ 256) (h : okT q L = true) : rws (rts L) = L := by
  unfold okT allR at h
  rw [Bool.and_eq_true] at h
  have hl : L.length = 4 := by simpa using h.2
  match L, hl with
  | [a, b, c, d], _ =>
    simp [inR] at h
    obtain ⟨ha, hb, hc, hd⟩ := h
    have g := @rb_get
    have e : rws (rts [a, b, c, d]) = [(((rb a).getD 0 0).toNat : Int) * 256 + (((rb a).getD 1 0).toNat : Int), (((rb b).getD 0 0).toNat : Int) * 256 + (((rb b).getD 1 0).toNat : Int), (((rb c).getD 0 0).toNat : Int) * 256 + (((rb c).getD 1 0).toNat : Int), (((rb d).getD 0 0).toNat : Int) * 256 + (((rb d).getD 1 0).toNat : Int)] := rfl
    rw [e, g ha.1 (by omega), g hb.1 (by omega), g hc.1 (by omega), g hd.1 (by omega)]

/-! ### Errors -/
def erC (e : Int) (M : Nat) (q : Int) (l : List En) : Int := if e = 0 then (if mayE q l = true then (if M < szE l then 3 else 0) else 220) else e
def erN (E : Int) (s : Nm) : Int := if E = 0 then (if mayN s = true then 0 else 6) else E
def erA (E : Int) (M : Nat) (q : Int) (l : List En) (x : En) : Int := if E = 0 then (if oneE q x = true then (if isE l x.1 = true then 7 else if M < szE (insE l x) then 3 else 0) else 220) else E
def erR (E : Int) (l : List En) (s : Nm) : Int := if E = 0 then (if isE l s = true then 0 else 8) else E
def erB (e : Int) (M : Nat) (q : Int) (n : Nat) (l : List En) (rest : List UInt8) : Int := if e = 0 then (if M < n then 3 else if rest = [] ∧ mayE q l = true then 0 else 220) else e
def erT (e : Int) (q : Int) (L : List Int) : Int := if e = 0 then (if okT q L = true then 0 else 220) else e
def erU (e : Int) (q : Int) (b : List UInt8) : Int := if e = 0 then (if b.length = 8 ∧ allR q (rws b) = true then 0 else 220) else e
theorem erC_zero {e : Int} {M : Nat} {q : Int} {l : List En} (h : erC e M q l = 0) : e = 0 ∧ mayE q l = true ∧ szE l ≤ M := by
  unfold erC at h
  split at h
  · next h0 =>
    split at h
    · next h1 =>
      split at h
      · cases h
      · next h2 => exact ⟨h0, h1, by omega⟩
    · cases h
  · next h0 => exact absurd h h0
theorem erC_good {e : Int} {M : Nat} {q : Int} {l : List En} (h0 : e = 0) (h1 : mayE q l = true) (h2 : szE l ≤ M) : erC e M q l = 0 := by
  unfold erC; rw [if_pos h0, if_pos h1, if_neg (by omega)]
end Go.Proofs.Ytfbfiecamaginaa
