/- Names without memory: what a byte shows, what is read, the row of names. -/
import Derived.Lib.SlicesCompact
import Derived.Sort.Walk0
namespace Go.Proofs.YtdiecjkmbmgbkaaDoor

/-! ### Rows -/
abbrev Nm := List UInt8
theorem nlt_irrefl (a : Nm) : ¬ a < a := List.lt_irrefl a
theorem nlt_trans {a b c : Nm} (h : a < b) (g : b < c) : a < c := List.lt_trans h g
theorem nlt_total (a b : Nm) (h : ¬ a < b) (g : a ≠ b) : b < a := by
  have h1 : b ≤ a := h
  rcases List.le_iff_lt_or_eq.1 h1 with e | e
  · exact e
  · exact absurd e.symm g
/-- Each ahead of the next. -/
def Inc (L : List Nm) : Prop := L.Pairwise (· < ·)
theorem inc_unique : ∀ (a b : List Nm), Inc a → Inc b → (∀ x, x ∈ a ↔ x ∈ b) → a = b
  | [], [], _, _, _ => rfl
  | [], y :: b, _, _, h => absurd ((h y).2 (List.mem_cons_self ..)) (by simp)
  | x :: a, [], _, _, h => absurd ((h x).1 (List.mem_cons_self ..)) (by simp)
  | x :: a, y :: b, ha, hb, h => by
    obtain ⟨ha1, ha2⟩ := List.pairwise_cons.1 ha
    obtain ⟨hb1, hb2⟩ := List.pairwise_cons.1 hb
    have hxy : x = y := by
      have h1 := (h x).1 (List.mem_cons_self ..)
      have h2 := (h y).2 (List.mem_cons_self ..)
      rcases List.mem_cons.1 h1 with e | e
      · exact e
      · rcases List.mem_cons.1 h2 with e2 | e2
        · exact e2.symm
        · exact absurd (nlt_trans (ha1 y e2) (hb1 x e)) (nlt_irrefl _)
    subst hxy
    rw [inc_unique a b ha2 hb2 fun z => ?_]
    constructor
    · intro hz
      rcases List.mem_cons.1 ((h z).1 (List.mem_cons_of_mem _ hz)) with e | e
      · subst e; exact absurd (ha1 z hz) (nlt_irrefl _)
      · exact e
    · intro hz
      rcases List.mem_cons.1 ((h z).2 (List.mem_cons_of_mem _ hz)) with e | e
      · subst e; exact absurd (hb1 z hz) (nlt_irrefl _)
      · exact e
theorem compact_inc (d : Array Nm) (hd : ∀ i j, i ≤ j → j < d.size → d[i]! ≤ d[j]!) : ∀ m, m ≤ d.size → Inc (Lib.compactUpTo d m) ∧ ∀ x, x ∈ Lib.compactUpTo d m ↔ ∃ j, j < m ∧ d[j]! = x
  | 0, _ => ⟨by simp [Inc, Lib.compactUpTo], fun x => by simp [Lib.compactUpTo]⟩
  | m + 1, hm => by
    obtain ⟨h1, h2⟩ := compact_inc d hd m (by omega)
    rw [Lib.compactUpTo_succ]
    by_cases hk : m = 0 ∨ d[m]! ≠ d[m - 1]!
    · have hkk : Lib.keeps d m = true := by
        rcases hk with e | e
        · subst e; exact Lib.keeps_lt_one d 0 (by omega)
        · exact Lib.keeps_pos e
      rw [if_pos hkk]
      refine ⟨List.pairwise_append.2 ⟨h1, by simp, fun x hx y hy => ?_⟩, fun x => ?_⟩
      · obtain ⟨j, hj, rfl⟩ := (h2 x).1 hx
        obtain rfl : y = d[m]! := by simpa using hy
        have ha := hd j (m - 1) (by omega) (by omega)
        have hb := hd (m - 1) m (by omega) (by omega)
        rcases hk with e | e
        · omega
        · have hb2 : d[m - 1]! < d[m]! := by
            rcases List.le_iff_lt_or_eq.1 hb with g | g
            · exact g
            · exact absurd g.symm e
          exact List.lt_of_le_of_lt ha hb2
      · rw [List.mem_append, h2]
        constructor
        · rintro (⟨j, hj, e⟩ | e)
          · exact ⟨j, by omega, e⟩
          · exact ⟨m, by omega, by simpa using Eq.symm (by simpa using e)⟩
        · rintro ⟨j, hj, e⟩
          rcases Nat.lt_succ_iff_lt_or_eq.1 hj with g | rfl
          · exact .inl ⟨j, g, e⟩
          · exact .inr (by simp [e])
    · have hm0 : 0 < m := by omega
      have he : d[m]! = d[m - 1]! := Classical.byContradiction fun h => hk (.inr h)
      rw [if_neg (by rw [Lib.keeps_neg hm0 he]; decide), List.append_nil]
      refine ⟨h1, fun x => ?_⟩
      rw [h2]
      constructor
      · rintro ⟨j, hj, e⟩; exact ⟨j, by omega, e⟩
      · rintro ⟨j, hj, e⟩
        rcases Nat.lt_succ_iff_lt_or_eq.1 hj with g | rfl
        · exact ⟨j, g, e⟩
        · exact ⟨j - 1, by omega, by rw [← he]; exact e⟩
/-- One name put into a row. -/
def ins (x : Nm) : List Nm → List Nm
  | [] => [x]
  | y :: r => if x = y then y :: r else if x < y then x :: y :: r else y :: ins x r
/-- The row of some names. -/
def srt : List Nm → List Nm := fun l => l.foldl (fun a x => ins x a) []
theorem mem_ins (x z : Nm) : ∀ l, z ∈ ins x l ↔ z = x ∨ z ∈ l
  | [] => by simp [ins]
  | y :: r => by
    unfold ins
    split
    · rename_i h; subst h; simp
    · split
      · simp
      · simp only [List.mem_cons, mem_ins x z r]
        constructor
        · rintro (h | h | h)
          · exact .inr (.inl h)
          · exact .inl h
          · exact .inr (.inr h)
        · rintro (h | h | h)
          · exact .inr (.inl h)
          · exact .inl h
          · exact .inr (.inr h)
theorem inc_ins (x : Nm) : ∀ l, Inc l → Inc (ins x l)
  | [], _ => by simp [ins, Inc]
  | y :: r, h => by
    obtain ⟨h1, h2⟩ := List.pairwise_cons.1 h
    unfold ins
    split
    · exact h
    · rename_i hne
      split
      · rename_i hlt
        exact List.pairwise_cons.2 ⟨fun z hz => by
          rcases List.mem_cons.1 hz with e | e
          · subst e; exact hlt
          · exact nlt_trans hlt (h1 z e), h⟩
      · rename_i hlt
        refine List.pairwise_cons.2 ⟨fun z hz => ?_, inc_ins x r h2⟩
        rcases (mem_ins x z r).1 hz with e | e
        · subst e; exact nlt_total _ _ hlt hne
        · exact h1 z e
theorem srt_go : ∀ (l a : List Nm), Inc a → Inc (l.foldl (fun a x => ins x a) a) ∧ ∀ z, z ∈ l.foldl (fun a x => ins x a) a ↔ z ∈ l ∨ z ∈ a
  | [], a, h => ⟨h, fun z => by simp⟩
  | x :: l, a, h => by
    obtain ⟨h1, h2⟩ := srt_go l (ins x a) (inc_ins x a h)
    refine ⟨h1, fun z => ?_⟩
    rw [List.foldl_cons, h2, mem_ins, List.mem_cons]
    constructor
    · rintro (h | h | h)
      · exact .inl (.inr h)
      · exact .inl (.inl h)
      · exact .inr h
    · rintro ((h | h) | h)
      · exact .inr (.inl h)
      · exact .inl h
      · exact .inr (.inr h)
theorem srt_inc (l : List Nm) : Inc (srt l) := (srt_go l [] (by simp [Inc])).1
theorem srt_mem (l : List Nm) (z : Nm) : z ∈ srt l ↔ z ∈ l := by rw [srt, (srt_go l [] (by simp [Inc])).2]; simp
theorem srt_unique (l a : List Nm) (h : Inc a) (g : ∀ x, x ∈ a ↔ x ∈ l) : a = srt l := inc_unique _ _ h (srt_inc l) fun x => by rw [g, srt_mem]
theorem srt_srt (l : List Nm) : srt (srt l) = srt l := (srt_unique _ _ (srt_inc l) fun _ => Iff.rfl).symm
theorem srt_snoc (l : List Nm) (x : Nm) : srt (l ++ [x]) = ins x (srt l) := by simp [srt, List.foldl_append]
theorem ins_length (x : Nm) : ∀ l, (ins x l).length ≤ l.length + 1
  | [] => by simp [ins]
  | y :: r => by
    have := ins_length x r
    unfold ins
    split
    · simp
    · split <;> simp <;> omega
theorem srt_length (l : List Nm) : (srt l).length ≤ l.length := by
  have : ∀ (l a : List Nm), (l.foldl (fun a x => ins x a) a).length ≤ a.length + l.length := fun l => by
    induction l with
    | nil => intro a; simp
    | cons x l ih => intro a; have h1 := ih (ins x a); have h2 := ins_length x a; simp only [List.foldl_cons, List.length_cons]; omega
  simpa [srt] using this l []
/-- What the library makes of them. -/
theorem compact_sort (l : List Nm) : Lib.compact (l.mergeSort fun x y => decide (x ≤ y)) = srt l := by
  have hs : (l.mergeSort fun x y => decide (x ≤ y)).Pairwise (fun a b => decide (a ≤ b) = true) := List.pairwise_mergeSort (le := fun x y : Nm => decide (x ≤ y)) (fun (a b c : Nm) h1 h2 => decide_eq_true (List.le_trans (of_decide_eq_true h1) (of_decide_eq_true h2))) (fun (a b : Nm) => by
    by_cases h : b < a
    · have g : b ≤ a := fun e => nlt_irrefl _ (nlt_trans h e)
      simp [g]
    · have g : a ≤ b := h
      simp [g]) _
  generalize hz : l.mergeSort (fun x y => decide (x ≤ y)) = zs at hs
  have hm : ∀ x, x ∈ zs ↔ x ∈ l := fun x => by rw [← hz, List.mem_mergeSort]
  have hd : ∀ i j, i ≤ j → j < zs.toArray.size → zs.toArray[i]! ≤ zs.toArray[j]! := fun i j hij hj => by
    simp at hj
    rcases Nat.eq_or_lt_of_le hij with e | e
    · subst e; exact (show ¬ zs.toArray[i]! < zs.toArray[i]! from nlt_irrefl _)
    · have h := List.pairwise_iff_getElem.1 hs i j (by omega) hj e
      rw [getElem!_pos zs.toArray i (by simp; omega), getElem!_pos zs.toArray j (by simpa using hj)]
      simpa using h
  obtain ⟨h1, h2⟩ := compact_inc zs.toArray hd zs.length (by simp)
  refine srt_unique l _ h1 fun x => (h2 x).trans ?_
  rw [← hm, List.mem_iff_getElem]
  constructor
  · rintro ⟨j, hj, e⟩; exact ⟨j, hj, by rw [getElem!_pos zs.toArray j (by simpa using hj)] at e; simpa using e⟩
  · rintro ⟨j, hj, e⟩; exact ⟨j, hj, by rw [getElem!_pos zs.toArray j (by simpa using hj)]; simpa using e⟩

/-! ### A place found in a row by halves -/
/-- All ahead of 'at' are ahead of x, none from there on. -/
theorem ins_at (x : Nm) : ∀ (l : List Nm) (i : Nat), i ≤ l.length → (∀ j (hj : j < l.length), j < i → l[j] < x) → (∀ j (hj : j < l.length), i ≤ j → ¬ l[j] < x) →
    ins x l = if l[i]? = some x then l else l.take i ++ x :: l.drop i
  | [], i, hi, _, _ => by
    simp at hi; subst hi; simp [ins]
  | y :: r, 0, _, _, h2 => by
    have h0 := h2 0 (by simp) (by omega)
    simp at h0
    unfold ins
    by_cases e : x = y
    · subst e; simp
    · have : x < y := nlt_total _ _ h0 (fun g => e g.symm)
      rw [if_neg e, if_pos this, if_neg (by simpa using fun g => e g.symm)]
      simp
  | y :: r, i + 1, hi, h1, h2 => by
    have h0 := h1 0 (by simp) (by omega)
    simp at h0
    have hne : x ≠ y := fun e => by subst e; exact nlt_irrefl _ h0
    have hnl : ¬ x < y := fun e => nlt_irrefl _ (nlt_trans h0 e)
    unfold ins
    rw [if_neg hne, if_neg hnl, ins_at x r i (by simpa using hi) (fun j hj hji => by have := h1 (j + 1) (by simpa using hj) (by omega); rwa [List.getElem_cons_succ] at this) (fun j hj hji => by have := h2 (j + 1) (by simpa using hj) (by omega); rwa [List.getElem_cons_succ] at this)]
    simp only [List.getElem?_cons_succ]
    split <;> simp

/-! ### What a byte shows -/
def hx (n : Nat) : UInt8 := if n < 10 then UInt8.ofNat (48 + n) else UInt8.ofNat (87 + n)
def shw (c : UInt8) : List UInt8 :=
  if c = 34 ∨ c = 92 then [92, c] else if 33 ≤ c ∧ c ≤ 126 then [c] else [92, 120, hx (c.toNat / 16), hx (c.toNat % 16)]
/-- A sixteens' figure's worth; 16: it is none. -/
def wth (c : UInt8) : Nat := if 48 ≤ c ∧ c ≤ 57 then c.toNat - 48 else if 97 ≤ c ∧ c ≤ 102 then c.toNat - 87 else 16
def quo (l : List UInt8) : List UInt8 := 34 :: (l.flatMap shw ++ [34])
/-- The byte that is shown at the beginning, and how many bytes show it; 0: nothing is. -/
def thg : List UInt8 → UInt8 × Nat
  | [] => (0, 0)
  | c :: r =>
    if c = 34 ∨ c < 33 ∨ 126 < c then (0, 0) else
    if c ≠ 92 then (c, 1) else
    match r with
    | [] => (0, 0)
    | d :: r2 =>
      if d = 34 ∨ d = 92 then (d, 2) else
      if d ≠ 120 then (0, 0) else
      match r2 with
      | e :: f :: _ => if wth e < 16 ∧ wth f < 16 ∧ (wth e * 16 + wth f < 33 ∨ 126 < wth e * 16 + wth f) then (UInt8.ofNat (wth e * 16 + wth f), 4) else (0, 0)
      | _ => (0, 0)
/-- The only byte that the beginning can show, v what two sixteens come to. -/
def mnt (v : UInt8 → UInt8 → UInt8) : List UInt8 → UInt8
  | [] => 0
  | [c] => c
  | c :: d :: r => if c ≠ 92 then c else if d ≠ 120 then d else match r with
    | e :: f :: _ => v e f
    | _ => d
theorem all8 {p : UInt8 → Prop} (h : ∀ n, n < 256 → p (UInt8.ofNat n)) (c : UInt8) : p c := by
  have := h c.toNat c.toNat_lt
  simpa using this
theorem wth_hx : ∀ n, n < 16 → wth (hx n) = n := by decide
set_option maxRecDepth 100000 in
theorem hx_wth (c : UInt8) : wth c < 16 → hx (wth c) = c := all8 (p := fun c => wth c < 16 → hx (wth c) = c) (by decide) c
theorem shw_len (c : UInt8) : 1 ≤ (shw c).length ∧ (shw c).length ≤ 4 := by
  unfold shw
  split
  · simp
  · split <;> simp
theorem thg_shw (c : UInt8) (r : List UInt8) : thg (shw c ++ r) = (c, (shw c).length) := by
  unfold shw
  split
  · rename_i h
    rcases h with rfl | rfl <;> rfl
  · rename_i h
    split
    · rename_i h2
      have h34 : c ≠ 34 := fun e => h (.inl e)
      have h92 : c ≠ 92 := fun e => h (.inr e)
      have ha : ¬ c < 33 := by simpa using h2.1
      have hb : ¬ 126 < c := by simpa using h2.2
      simp [thg, h34, h92, ha, hb]
    · rename_i h2
      have hc := c.toNat_lt
      have hp : c.toNat < 33 ∨ 126 < c.toNat := by
        rw [UInt8.le_iff_toNat_le, UInt8.le_iff_toNat_le] at h2
        simp at h2
        omega
      have e1 := wth_hx (c.toNat / 16) (by omega)
      have e2 := wth_hx (c.toNat % 16) (by omega)
      have e3 : c.toNat / 16 * 16 + c.toNat % 16 = c.toNat := by omega
      simp [thg, e1, e2, e3, show c.toNat / 16 < 16 by omega, show c.toNat % 16 < 16 by omega, hp]
theorem shw_thg (l : List UInt8) (h : (thg l).2 ≠ 0) : l.take (thg l).2 = shw (thg l).1 ∧ (thg l).2 = (shw (thg l).1).length := by
  revert h
  unfold thg
  split
  · simp
  · rename_i c r
    split
    · simp
    · rename_i hc
      have h34 : c ≠ 34 := fun e => hc (.inl e)
      have ha : 33 ≤ c := by have : ¬ c < 33 := fun e => hc (.inr (.inl e)); simpa using this
      have hb : c ≤ 126 := by have : ¬ 126 < c := fun e => hc (.inr (.inr e)); simpa using this
      split
      · rename_i h92
        simp [shw, h34, h92, ha, hb]
      · rename_i h92
        have h92 : c = 92 := by simpa using h92
        subst h92
        split
        · simp
        · rename_i d r2
          split
          · rename_i hd
            rcases hd with rfl | rfl <;> simp [shw]
          · split
            · simp
            · rename_i hd
              have hd : d = 120 := by simpa using hd
              subst hd
              split
              · rename_i e f _
                split
                · rename_i hh
                  obtain ⟨he, hf, hp⟩ := hh
                  have hlt : wth e * 16 + wth f < 256 := by omega
                  have hn : (UInt8.ofNat (wth e * 16 + wth f)).toNat = wth e * 16 + wth f := by simp; omega
                  generalize hv : UInt8.ofNat (wth e * 16 + wth f) = v at hn
                  have hv34 : v ≠ 34 := fun g => by rw [g] at hn; simp at hn; omega
                  have hv92 : v ≠ 92 := fun g => by rw [g] at hn; simp at hn; omega
                  have hvp : ¬ (33 ≤ v ∧ v ≤ 126) := by
                    rw [UInt8.le_iff_toNat_le, UInt8.le_iff_toNat_le, hn]
                    simp
                    omega
                  have e1 : v.toNat / 16 = wth e := by rw [hn]; omega
                  have e2 : v.toNat % 16 = wth f := by rw [hn]; omega
                  simp [shw, hv34, hv92, hvp, e1, e2, hx_wth e he, hx_wth f hf]
                · simp
              · simp
/-- What two sixteens come to. -/
def Sx2 (v : UInt8 → UInt8 → UInt8) : Prop := ∀ e f, wth e < 16 → wth f < 16 → v e f = UInt8.ofNat (wth e * 16 + wth f)
theorem mnt_shw {v : UInt8 → UInt8 → UInt8} (hv : Sx2 v) (c : UInt8) (r : List UInt8) : mnt v (shw c ++ r) = c := by
  unfold shw
  split
  · rename_i h
    rcases h with rfl | rfl <;> simp [mnt]
  · rename_i h
    split
    · have h92 : c ≠ 92 := fun e => h (.inr e)
      cases r <;> simp [mnt, h92]
    · have hc := c.toNat_lt
      have e1 := wth_hx (c.toNat / 16) (by omega)
      have e2 := wth_hx (c.toNat % 16) (by omega)
      have e3 : c.toNat / 16 * 16 + c.toNat % 16 = c.toNat := by omega
      simp only [mnt, List.cons_append, List.nil_append]
      rw [if_neg (by simp), if_neg (by simp)]
      simp only [hv _ _ (by rw [e1]; omega : wth (hx (c.toNat / 16)) < 16) (by rw [e2]; omega : wth (hx (c.toNat % 16)) < 16), e1, e2, e3]
      simp
/-- The program's way to read a thing. -/
theorem shown_thg {v : UInt8 → UInt8 → UInt8} (hv : Sx2 v) (l : List UInt8) : (if shw (mnt v l) <+: l then (mnt v l, (shw (mnt v l)).length) else (0, 0)) = thg l := by
  by_cases h : (thg l).2 = 0
  · rw [if_neg]
    · unfold thg at h ⊢
      split <;> try rfl
      simp only at h
      split <;> try rfl
      rename_i hc
      rw [if_neg hc] at h
      split
      · rename_i h9; rw [if_pos h9] at h; simp at h
      · rename_i h9
        rw [if_neg h9] at h
        split <;> try rfl
        simp only at h
        split
        · rename_i hd; rw [if_pos hd] at h; simp at h
        · rename_i hd
          rw [if_neg hd] at h
          split <;> try rfl
          rename_i hd2
          rw [if_neg hd2] at h
          split <;> try rfl
          simp only at h
          split
          · rename_i hh; rw [if_pos hh] at h; simp at h
          · rfl
    · rintro ⟨r, hr⟩
      have g : thg l = (mnt v l, (shw (mnt v l)).length) := by have := thg_shw (mnt v l) r; rwa [hr] at this
      rw [g] at h
      have := (shw_len (mnt v l)).1
      simp at h
      simp [h] at this
  · obtain ⟨h1, h2⟩ := shw_thg l h
    have hl : l = shw (thg l).1 ++ l.drop (thg l).2 := by rw [← h1, List.take_append_drop]
    have hm : mnt v l = (thg l).1 := by
      have := mnt_shw hv (thg l).1 (l.drop (thg l).2)
      rw [← hl] at this
      exact this
    rw [hm, if_pos ⟨_, hl.symm⟩, ← h2]

/-! ### A quoted name read -/
/-- From a place on, what was read so far: whether, the name, the place of what is wrong. -/
def rdq (l : List UInt8) : Nat → Nat → List UInt8 → Bool × List UInt8 × Nat
  | 0, p, _ => (false, [], p)
  | u + 1, p, acc =>
    if l.length ≤ p then (false, [], p) else
    if l.getD p 0 = 34 then (if p + 1 = l.length then (true, acc, 0) else (false, [], p + 1)) else
    if (thg (l.drop p)).2 = 0 then (false, [], p) else rdq l u (p + (thg (l.drop p)).2) (acc ++ [(thg (l.drop p)).1])
def unq (l : List UInt8) : Bool × List UInt8 × Nat := if l.getD 0 0 = 34 ∧ l ≠ [] then rdq l l.length 1 [] else (false, [], 0)
theorem thg_le (l : List UInt8) : (thg l).2 ≤ l.length := by
  by_cases h : (thg l).2 = 0
  · omega
  · obtain ⟨h1, h2⟩ := shw_thg l h
    have := congrArg List.length h1
    simp only [List.length_take] at this
    omega
theorem rdq_good (l : List UInt8) : ∀ (u p : Nat) (acc n : List UInt8), l.length < p + u → l.drop p = n.flatMap shw ++ [34] → rdq l u p acc = (true, acc ++ n, 0)
  | 0, p, acc, n, hu, h => by
    have := congrArg List.length h
    simp only [List.length_drop, List.length_append] at this
    simp at this
    omega
  | u + 1, p, acc, n, hu, h => by
    have hlen := congrArg List.length h
    simp only [List.length_drop, List.length_append, List.length_singleton] at hlen
    have hp : ¬ l.length ≤ p := by omega
    have h0 : l.getD p 0 = (l.drop p).getD 0 0 := by simp [List.getD_eq_getElem?_getD]
    unfold rdq
    rw [if_neg hp, h0, h]
    cases n with
    | nil =>
      simp at hlen ⊢
      omega
    | cons c n =>
      have hl := shw_len c
      have h34 : (List.flatMap shw (c :: n) ++ [34]).getD 0 0 ≠ 34 := by
        have : thg (shw c ++ (n.flatMap shw ++ [34])) = (c, (shw c).length) := thg_shw c _
        rw [List.flatMap_cons, List.append_assoc]
        intro e
        cases hs : shw c ++ (n.flatMap shw ++ [34]) with
        | nil => simp at hs
        | cons d r => rw [hs] at this e; simp at e; subst e; simp [thg] at this; have := this.2; omega
      rw [if_neg h34]
      have ht : thg (List.flatMap shw (c :: n) ++ [34]) = (c, (shw c).length) := by rw [List.flatMap_cons, List.append_assoc, thg_shw]
      rw [ht, if_neg (by simp only; omega), rdq_good l u (p + (shw c).length) (acc ++ [c]) n (by omega)]
      · simp
      · rw [← List.drop_drop, h, List.flatMap_cons, List.append_assoc, List.drop_left]
theorem unq_quo (n : List UInt8) : unq (quo n) = (true, n, 0) := by
  unfold unq
  rw [if_pos ⟨by simp [quo], by simp [quo]⟩, rdq_good (quo n) _ 1 [] n (by omega) (by simp [quo])]
  simp
theorem rdq_back (l : List UInt8) : ∀ (u p : Nat) (acc n : List UInt8) (q : Nat), rdq l u p acc = (true, n, q) → ∃ m, n = acc ++ m ∧ l.drop p = m.flatMap shw ++ [34] ∧ q = 0
  | 0, p, acc, n, q, h => by simp [rdq] at h
  | u + 1, p, acc, n, q, h => by
    unfold rdq at h
    split at h
    · simp at h
    · rename_i hp
      split at h
      · rename_i h34
        split at h
        · rename_i he
          simp at h
          refine ⟨[], by simp [h.1], ?_, h.2.symm⟩
          rw [List.getD_eq_getElem?_getD, List.getElem?_eq_getElem (by omega)] at h34
          simp at h34
          rw [List.drop_eq_getElem_cons (by omega), h34]
          simp [← he]
        · simp at h
      · split at h
        · simp at h
        · rename_i h0
          obtain ⟨m, h1, h2, h3⟩ := rdq_back l u _ _ n q h
          obtain ⟨g1, g2⟩ := shw_thg _ h0
          refine ⟨(thg (l.drop p)).1 :: m, by rw [h1]; simp, ?_, h3⟩
          rw [List.flatMap_cons, List.append_assoc, ← h2, ← g1, ← List.drop_drop, List.take_append_drop]
theorem quo_unq (l n : List UInt8) (q : Nat) (h : unq l = (true, n, q)) : l = quo n ∧ q = 0 := by
  unfold unq at h
  split at h
  · rename_i h0
    obtain ⟨m, h1, h2, h3⟩ := rdq_back l _ _ _ n q h
    obtain ⟨c, r, rfl⟩ : ∃ c r, l = c :: r := by
      cases l with
      | nil => exact absurd rfl h0.2
      | cons c r => exact ⟨c, r, rfl⟩
    have : c = 34 := by simpa using h0.1
    subst this
    simp at h2
    simp at h1
    subst h1
    exact ⟨by rw [h2]; rfl, h3⟩
  · simp at h
theorem rdq_place (l : List UInt8) : ∀ (u p : Nat) (acc : List UInt8), p ≤ l.length → (rdq l u p acc).2.2 ≤ l.length
  | 0, p, acc, h => h
  | u + 1, p, acc, h => by
    unfold rdq
    split
    · exact h
    · split
      · split
        · simp
        · show p + 1 ≤ _
          omega
      · split
        · exact h
        · have := thg_le (l.drop p)
          rw [List.length_drop] at this
          exact rdq_place l u _ _ (by omega)
theorem unq_place (l : List UInt8) : (unq l).2.2 ≤ l.length := by
  unfold unq
  split
  · rename_i h
    have : 0 < l.length := List.length_pos_iff.2 h.2
    exact rdq_place l _ 1 [] (by omega)
  · simp
set_option maxRecDepth 100000 in
theorem quo_range (n : List UInt8) : ∀ c, c ∈ quo n → 33 ≤ c ∧ c ≤ 126 := by
  have hs : ∀ b c, c ∈ shw b → 33 ≤ c ∧ c ≤ 126 := fun b => all8 (p := fun b => ∀ c, c ∈ shw b → 33 ≤ c ∧ c ≤ 126) (by decide) b
  intro c hc
  simp only [quo, List.mem_cons, List.mem_append, List.mem_flatMap, List.mem_nil_iff, or_false] at hc
  rcases hc with rfl | ⟨b, _, h⟩ | rfl
  · decide
  · exact hs b c h
  · decide
theorem quo_length (n : List UInt8) : (quo n).length ≤ 4 * n.length + 2 := by
  have : (n.flatMap shw).length ≤ 4 * n.length := by
    induction n with
    | nil => simp
    | cons c n ih => have := (shw_len c).2; simp only [List.flatMap_cons, List.length_append, List.length_cons]; omega
  simp only [quo, List.length_cons, List.length_append, List.length_nil]
  omega
/-! ### Numbers -/
def sumB (l : List UInt8) : Nat := (l.map UInt8.toNat).foldl (· + ·) 0
theorem sumB_snoc (l : List UInt8) (c : UInt8) : sumB (l ++ [c]) = sumB l + c.toNat := by simp [sumB, List.foldl_append]
theorem sumB_le : ∀ l : List UInt8, sumB l ≤ 255 * l.length := fun l => by
  have : ∀ (l : List UInt8) (a : Nat), (l.map UInt8.toNat).foldl (· + ·) a ≤ a + 255 * l.length := fun l => by
    induction l with
    | nil => intro a; simp
    | cons c l ih => intro a; have h1 := ih (a + c.toNat); have h2 := c.toNat_lt; simp only [List.map_cons, List.foldl_cons, List.length_cons]; omega
  simpa [sumB] using this l 0
theorem sumB_cons (c : UInt8) (l : List UInt8) : sumB (c :: l) = c.toNat + sumB l := by
  have : ∀ (l : List UInt8) (a : Nat), (l.map UInt8.toNat).foldl (· + ·) a = a + (l.map UInt8.toNat).foldl (· + ·) 0 := fun l => by
    induction l with
    | nil => intro a; simp
    | cons c l ih => intro a; simp only [List.map_cons, List.foldl_cons]; rw [ih (a + c.toNat), ih (0 + c.toNat)]; omega
  simp only [sumB, List.map_cons, List.foldl_cons]
  rw [this l (0 + c.toNat)]
  omega
theorem sumB_rev (l : List UInt8) : sumB l.reverse = sumB l := by
  induction l with
  | nil => rfl
  | cons c l ih => rw [List.reverse_cons, sumB_snoc, ih, sumB_cons]; omega
/-- May a name be? -/
def may (l : List UInt8) : Bool := decide (1 ≤ l.length ∧ l.length ≤ 24)
end Go.Proofs.YtdiecjkmbmgbkaaDoor
