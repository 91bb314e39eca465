/- Plain mathematics of the code: which cells are there, whether they are alike, and why the first k that are there make all. -/
import Derived.Test.YthkikocacbbhkaaMatN
namespace Go.Proofs.Ythkikocacbbhkaa

/-- How many of the first n are not 0, and which ones. -/
def selF (L : Nat → Nat) : Nat → Nat × (Nat → Nat)
  | 0 => (0, fun _ => 0)
  | n + 1 => if L n = 0 then selF L n else ((selF L n).1 + 1, put (selF L n).1 n (selF L n).2)
def cnt (L : Nat → Nat) (n : Nat) : Nat := (selF L n).1
def sel (L : Nat → Nat) (n : Nat) : Nat → Nat := (selF L n).2
theorem cnt_zero (L : Nat → Nat) : cnt L 0 = 0 := rfl
theorem cnt_skip {L : Nat → Nat} {n : Nat} (h : L n = 0) : cnt L (n + 1) = cnt L n := by unfold cnt; rw [selF, if_pos h]
theorem cnt_take {L : Nat → Nat} {n : Nat} (h : L n ≠ 0) : cnt L (n + 1) = cnt L n + 1 := by unfold cnt; rw [selF, if_neg h]
theorem sel_skip {L : Nat → Nat} {n : Nat} (h : L n = 0) : sel L (n + 1) = sel L n := by unfold sel; rw [selF, if_pos h]
theorem sel_take {L : Nat → Nat} {n : Nat} (h : L n ≠ 0) : sel L (n + 1) = put (cnt L n) n (sel L n) := by unfold sel cnt; rw [selF, if_neg h]
structure Sel (L : Nat → Nat) (n c : Nat) (R : Nat → Nat) : Prop where
  lt : ∀ t, t < c → R t < n
  there : ∀ t, t < c → L (R t) ≠ 0
  rise : ∀ t t', t < t' → t' < c → R t < R t'
  all : ∀ i, i < n → L i ≠ 0 → ∃ t, t < c ∧ R t = i
theorem sel_is (L : Nat → Nat) (n : Nat) : Sel L n (cnt L n) (sel L n) := by
  induction n with
  | zero => exact ⟨fun t h => absurd h (Nat.not_lt_zero t), fun t h => absurd h (Nat.not_lt_zero t), fun t t' _ h => absurd h (Nat.not_lt_zero t'), fun i h => absurd h (Nat.not_lt_zero i)⟩
  | succ n ih =>
    by_cases h : L n = 0
    · rw [cnt_skip h, sel_skip h]
      refine ⟨fun t ht => by have := ih.lt t ht; omega, ih.there, ih.rise, fun i hi hne => ih.all i ?_ hne⟩
      have : i ≠ n := fun e => hne (e ▸ h)
      omega
    · rw [cnt_take h, sel_take h]
      refine ⟨fun t ht => ?_, fun t ht => ?_, fun t t' h1 h2 => ?_, fun i hi hne => ?_⟩
      · by_cases e : t = cnt L n
        · rw [e, put_at]; omega
        · rw [put_ne _ _ e]; have := ih.lt t (by omega); omega
      · by_cases e : t = cnt L n
        · rw [e, put_at]; exact h
        · rw [put_ne _ _ e]; exact ih.there t (by omega)
      · rw [put_ne _ _ (by omega)]
        by_cases e : t' = cnt L n
        · rw [e, put_at]; exact ih.lt t (by omega)
        · rw [put_ne _ _ e]; exact ih.rise t t' h1 (by omega)
      · by_cases e : i = n
        · exact ⟨cnt L n, by omega, by rw [put_at, e]⟩
        · obtain ⟨t, ht, hr⟩ := ih.all i (by omega) hne
          exact ⟨t, by omega, by rw [put_ne _ _ (by omega)]; exact hr⟩
theorem cnt_le (L : Nat → Nat) (n : Nat) : cnt L n ≤ n := by
  induction n with
  | zero => exact Nat.le_refl _
  | succ n ih =>
    by_cases h : L n = 0
    · rw [cnt_skip h]; omega
    · rw [cnt_take h]; omega
theorem cnt_mono (L : Nat → Nat) {i n : Nat} (h : i ≤ n) : cnt L i ≤ cnt L n := by
  induction n with
  | zero => rw [show i = 0 by omega]; exact Nat.le_refl _
  | succ n ih =>
    by_cases e : i = n + 1
    · rw [e]; exact Nat.le_refl _
    · have := ih (by omega)
      by_cases g : L n = 0
      · rw [cnt_skip g]; omega
      · rw [cnt_take g]; omega
theorem sel_prefix (L : Nat → Nat) {i n t : Nat} (h : i ≤ n) (ht : t < cnt L i) : sel L n t = sel L i t := by
  induction n with
  | zero => rw [show i = 0 by omega]
  | succ n ih =>
    by_cases e : i = n + 1
    · rw [e]
    · have hm := cnt_mono L (show i ≤ n by omega)
      by_cases g : L n = 0
      · rw [sel_skip g]; exact ih (by omega)
      · rw [sel_take g, put_ne _ _ (by omega)]; exact ih (by omega)
theorem Sel.ge {L : Nat → Nat} {n c : Nat} {R : Nat → Nat} (h : Sel L n c R) (t : Nat) (ht : t < c) : t ≤ R t := by
  induction t with
  | zero => exact Nat.zero_le _
  | succ t ih => have := ih (by omega); have := h.rise t (t + 1) (by omega) ht; omega
theorem cnt_full {L : Nat → Nat} {n : Nat} (h : ∀ i, i < n → L i ≠ 0) : cnt L n = n := by
  induction n with
  | zero => rfl
  | succ n ih => rw [cnt_take (h n (by omega)), ih (fun i hi => h i (by omega))]
theorem cnt_lt {L : Nat → Nat} {n i : Nat} (hi : i < n) (h : L i = 0) : cnt L n < n := by
  have h1 := cnt_le L i
  have h2 : cnt L (i + 1) = cnt L i := cnt_skip h
  have h3 : ∀ m, i + 1 ≤ m → cnt L m < m := fun m => by
    induction m with
    | zero => intro g; omega
    | succ m ih =>
      intro g
      by_cases e : i = m
      · subst e; omega
      · have := ih (by omega)
        by_cases q : L m = 0
        · rw [cnt_skip q]; omega
        · rw [cnt_take q]; omega
  exact h3 n hi
theorem cnt_congr {L L' : Nat → Nat} {n : Nat} (h : ∀ i, i < n → (L i = 0 ↔ L' i = 0)) : selF L n = selF L' n := by
  induction n with
  | zero => rfl
  | succ n ih =>
    rw [selF, selF, ih (fun i hi => h i (by omega))]
    have := h n (by omega)
    by_cases e : L n = 0
    · rw [if_pos e, if_pos (this.1 e)]
    · rw [if_neg e, if_neg (fun g => e (this.2 g))]

/-- The length of the first one that is there. -/
def len0 (L : Nat → Nat) : Nat → Nat
  | 0 => 0
  | n + 1 => if len0 L n = 0 then L n else len0 L n
theorem len0_sel (L : Nat → Nat) (n : Nat) : (cnt L n = 0 ∧ len0 L n = 0) ∨ (0 < cnt L n ∧ len0 L n = L (sel L n 0) ∧ len0 L n ≠ 0) := by
  induction n with
  | zero => exact .inl ⟨rfl, rfl⟩
  | succ n ih =>
    rw [len0]
    rcases ih with ⟨h1, h2⟩ | ⟨h1, h2, h3⟩
    · rw [if_pos h2]
      by_cases h : L n = 0
      · exact .inl ⟨by rw [cnt_skip h, h1], h⟩
      · refine .inr ⟨by rw [cnt_take h]; omega, ?_, h⟩
        rw [sel_take h, h1, put_at]
    · rw [if_neg h3]
      refine .inr ⟨?_, ?_, h3⟩
      · have : cnt L n ≤ cnt L (n + 1) := cnt_mono L (Nat.le_succ n); omega
      · rw [sel_prefix L (Nat.le_succ n) h1]; exact h2
/-- Those that are there are alike, and not too long. -/
def okT (L : Nat → Nat) : Nat → Bool
  | 0 => true
  | n + 1 => okT L n && (decide (L n = 0) || (decide (L n ≤ 65536) && decide (L n = len0 L (n + 1))))
theorem okT_all {L : Nat → Nat} {n : Nat} (h : okT L n = true) : ∀ i, i < n → L i = 0 ∨ (L i ≤ 65536 ∧ L i = len0 L n) := by
  induction n with
  | zero => intro i hi; omega
  | succ n ih =>
    rw [okT, Bool.and_eq_true, Bool.or_eq_true, Bool.and_eq_true, decide_eq_true_eq, decide_eq_true_eq, decide_eq_true_eq] at h
    intro i hi
    by_cases e : i = n
    · rw [e]; exact h.2
    · rcases ih h.1 i (by omega) with g | ⟨g1, g2⟩
      · exact .inl g
      · by_cases q : len0 L n = 0
        · exact .inl (by rw [g2, q])
        · exact .inr ⟨g1, by rw [g2, len0, if_neg q]⟩
theorem okT_succ {L : Nat → Nat} {n : Nat} (h : okT L n = true) (h2 : L n = 0 ∨ (L n ≤ 65536 ∧ L n = len0 L (n + 1))) : okT L (n + 1) = true := by
  rw [okT, h, Bool.true_and, Bool.or_eq_true, Bool.and_eq_true, decide_eq_true_eq, decide_eq_true_eq, decide_eq_true_eq]; exact h2
theorem okT_le {L : Nat → Nat} {i n : Nat} (h : okT L n = true) (hi : i ≤ n) : okT L i = true := by
  induction n with
  | zero => rw [show i = 0 by omega]; rfl
  | succ n ih =>
    by_cases e : i = n + 1
    · rw [e]; exact h
    · rw [okT, Bool.and_eq_true] at h
      exact ih h.1 (by omega)
theorem okT_first {L : Nat → Nat} {n : Nat} (h : okT L n = false) : ∃ q, q < n ∧ okT L q = true ∧ L q ≠ 0 ∧ (65536 < L q ∨ L q ≠ len0 L (q + 1)) := by
  induction n with
  | zero => cases h
  | succ n ih =>
    cases g : okT L n
    · obtain ⟨q, h1, h2⟩ := ih g
      exact ⟨q, by omega, h2⟩
    · refine ⟨n, by omega, g, fun e => ?_, ?_⟩
      · rw [okT_succ g (.inl e)] at h; cases h
      · by_cases e1 : L n ≤ 65536
        · exact .inr fun e2 => by rw [okT_succ g (.inr ⟨e1, e2⟩)] at h; cases h
        · exact .inl (by omega)
theorem okT_step {L : Nat → Nat} {n i : Nat} (h : okT L n = true) (hi : i < n) (hne : L i ≠ 0) : L i ≤ 65536 ∧ L i = len0 L (i + 1) := by
  have := okT_all (okT_le h (show i + 1 ≤ n by omega)) i (by omega)
  rcases this with g | g
  · exact absurd g hne
  · exact g

/-- The rows of the cells R 0, R 1, .. and what the data cells are of which those are made. -/
def rowsR (k : Nat) (R : Nat → Nat) : M := fun t j => gen k (R t) j
def dec (k : Nat) (R : Nat → Nat) (H : M) : M := mm k (invOf k (rowsR k R)) (fun t => H (R t))
/-- The cells that data cells make. -/
def enc (k : Nat) (D : M) : M := mm k (gen k) D
theorem rows_inv {k n : Nat} {R : Nat → Nat} (hk : k ≤ 12) (hn : n ≤ 16) (hlt : ∀ t, t < k → R t < n) (hr : ∀ t t', t < t' → t' < k → R t < R t') : IsInv k (rowsR k R) (invOf k (rowsR k R)) := by
  have h := gen_rk k n R (by omega) hlt (fun i j h1 h2 => by have := hr i j h1 h2; omega) (by omega)
  exact invB_is (invB_of (inv_of_rk h).choose_spec)
theorem rows_invB {k n : Nat} {R : Nat → Nat} (hk : k ≤ 12) (hn : n ≤ 16) (hlt : ∀ t, t < k → R t < n) (hr : ∀ t t', t < t' → t' < k → R t < R t') : invB k (rowsR k R) = true := invB_of (rows_inv hk hn hlt hr)
theorem dec_back {k n : Nat} {R : Nat → Nat} (H : M) (hk : k ≤ 12) (hn : n ≤ 16) (hlt : ∀ t, t < k → R t < n) (hr : ∀ t t', t < t' → t' < k → R t < R t') (t b : Nat) (ht : t < k) : enc k (dec k R H) (R t) b = H (R t) b := by
  have hi := rows_inv hk hn hlt hr
  show mm k (rowsR k R) (mm k (invOf k (rowsR k R)) (fun t => H (R t))) t b = _
  rw [← mm_assoc]
  show sum k (fun l => K.mul (mm k (rowsR k R) (invOf k (rowsR k R)) t l) (H (R l) b)) = _
  rw [sum_congr (g := fun l => K.mul (one t l) (H (R l) b)) (fun l hl => by rw [(hi t l ht hl).2])]
  exact one_mm (A := fun t => H (R t)) ht
theorem enc_data {k : Nat} (D : M) {i b : Nat} (hi : i < k) : enc k D i b = D i b := by
  show sum k (fun l => K.mul (gen k i l) (D l b)) = _
  rw [sum_congr (g := fun l => K.mul (one i l) (D l b)) (fun l _ => by rw [show gen k i l = one i l from if_pos hi])]
  exact one_mm hi
theorem dec_there {k n : Nat} {R : Nat → Nat} (H : M) (hk : k ≤ 12) (hn : n ≤ 16) (hlt : ∀ t, t < k → R t < n) (hr : ∀ t t', t < t' → t' < k → R t < R t') (t b : Nat) (ht : t < k) (hi : R t < k) : dec k R H (R t) b = H (R t) b := by
  rw [← enc_data (dec k R H) hi]; exact dec_back H hk hn hlt hr t b ht
theorem dec_enc {k n : Nat} {R : Nat → Nat} (H D : M) (hk : k ≤ 12) (hn : n ≤ 16) (hlt : ∀ t, t < k → R t < n) (hr : ∀ t t', t < t' → t' < k → R t < R t') (b : Nat) (h : ∀ t, t < k → H (R t) b = enc k D (R t) b) (i : Nat) (hi : i < k) : dec k R H i b = D i b := by
  have hv := rows_inv hk hn hlt hr
  show sum k (fun t => K.mul (invOf k (rowsR k R) i t) (H (R t) b)) = _
  rw [sum_congr (g := fun t => K.mul (invOf k (rowsR k R) i t) (mm k (rowsR k R) D t b)) (fun t ht => by rw [h t ht]; rfl)]
  show mm k (invOf k (rowsR k R)) (mm k (rowsR k R) D) i b = _
  rw [← mm_assoc]
  show sum k (fun l => K.mul (mm k (invOf k (rowsR k R)) (rowsR k R) i l) (D l b)) = _
  rw [sum_congr (g := fun l => K.mul (one i l) (D l b)) (fun l hl => by rw [(hv i l hi hl).1])]
  exact one_mm hi
theorem dec_congr {k : Nat} {R : Nat → Nat} {H H' : M} {b : Nat} (h : ∀ t, t < k → H (R t) b = H' (R t) b) (i : Nat) : dec k R H i b = dec k R H' i b := sum_congr fun t ht => congrArg (K.mul _) (h t ht)
theorem enc_congr {k : Nat} {D D' : M} {b : Nat} (h : ∀ j, j < k → D j b = D' j b) (i : Nat) : enc k D i b = enc k D' i b := sum_congr fun j hj => congrArg (K.mul _) (h j hj)
theorem enc_add (k : Nat) (D E : M) (i b : Nat) : enc k (fun j b => K.add (D j b) (E j b)) i b = K.add (enc k D i b) (enc k E i b) := by
  show sum k (fun l => K.mul (gen k i l) (K.add (D l b) (E l b))) = K.add (sum k _) (sum k _)
  rw [← sum_add]
  exact sum_congr fun l _ => K.mul_add _ _ _
end Go.Proofs.Ythkikocacbbhkaa
