/- StW StX StWp CnMath: what is needed of them. -/
import Derived.Test.YtdmpiipllmjloaaGreatFj3
import Derived.Test.YtdmpiipllmjloaaGreatFj29
namespace Go.Proofs.YtdmpiipllmjloaaGreat
theorem sel_full {L : Nat → Nat} : ∀ {n : Nat}, (∀ i, i < n → L i ≠ 0) → ∀ t, t < n → Cod.sel L n t = t
  | 0, _, t, h => absurd h (Nat.not_lt_zero t)
  | n + 1, hL, t, h => by
    rw [Cod.sel_take (hL n (by omega)), Cod.cnt_full (fun i hi => hL i (by omega))]
    by_cases e : t = n
    · rw [e, Cod.put_at]
    · rw [Cod.put_ne _ _ e]; exact sel_full (fun i hi => hL i (by omega)) t (by omega)
/-- Bytes of a slot are read as that slot. -/
theorem new_of {N : Nat} {c : Int} {kd : UInt8} {X : Nat → Int} {G : Nat → Nat → UInt8} {i : Nat} {F : Nat → UInt8} (hN : N ≤ 16) (hc : 0 ≤ c) (hk : kd = 1 ∨ kd = 2) (hX : ∀ j, j < N → 1 ≤ X j ∧ X j ≤ 1073741824) (hi : i < N) (hF : ∀ j, j < sz N c → F j = enc (slC kd N X c.toNat (G i) i) j) : New N c kd (mx X N) X G i (he 0 N c (i : Int) (sz N c) F) := by
  have hok := (slC_ok (G := G i) hk hX hi hc).ok
  have his := is_enc hN hok rfl hF
  have hs := dec_enc hN hok hF
  obtain ⟨s1, s2, s3, s4, s5, s6, s7, s8⟩ := sameS_true hs
  have hh : he 0 N c (i : Int) (sz N c) F = dec N c F := by
    unfold he ofI slQ
    rw [if_pos rfl, his, if_pos rfl, if_pos (show (dec N c F).ix = (i : Int) from s2)]
  rw [hh]
  refine ⟨⟨okS_same (sameS_symm hs) hok, s2⟩, s1, s4, fun l hl => s7 l (by rw [s5]; exact hl), fun b hb => s8 b (by rw [s6]; exact hb)⟩
theorem yy_congr {N : Nat} {c : Int} {L L' : Nat → Nat} {F F' : Nat → Nat → UInt8} {j : Nat} (h1 : L' j = L j) (h2 : F' j = F j) : yy N c L' F' j = yy N c L F j := by unfold yy; rw [h1, h2]
/-- How many are there. -/
theorem ct_of {N : Nat} {z : Nat → Sl} {P : Nat → Bool} (h : ∀ i, i < N → ((z i).ce = 0 ↔ P i = false)) : ct z N = Cod.cnt (fun i => if P i = true then 1 else 0) N := by
  have := Cod.cnt_congr (L := lz z) (L' := fun i => if P i = true then 1 else 0) (n := N) (fun i hi => by
    have hh := h i hi
    unfold lz
    by_cases e : (z i).ce = 0
    · rw [if_pos e]; simp only [hh.1 e]; simp
    · rw [if_neg e]
      have : P i = true := by cases q : P i; exact absurd (hh.2 q) e; rfl
      simp only [this]; simp)
  unfold ct Cod.cnt; rw [this]
/-- From any K cells of a whole stripe its data are read. -/
theorem rd_new {N K m : Nat} {c : Int} {kd : UInt8} {v : Int} {X : Nat → Int} {D : Nat → UInt8} {z : Nat → Sl} (hK : K ≤ 12) (hN : N ≤ 16) (hm : m = c.toNat) (hm0 : 0 < m) (hz : ∀ i, i < N → z i = zSl ∨ New N c kd v X (dH K m D) i (z i)) (hE : erL K z N = 0) (b : Nat) (hb : b < K * m) : cat2 m (cH K z N) b = D b := by
  have hk : K ≤ Cod.cnt (Lz z) N := by
    unfold erL at hE
    by_cases g : K ≤ Cod.cnt (Lz z) N
    · exact g
    · rw [if_neg g] at hE; exact absurd hE (by decide)
  have hi : b / m < K := Nat.div_lt_of_lt_mul (by rw [Nat.mul_comm]; exact hb)
  have hbm : b % m < m := Nat.mod_lt _ hm0
  have hS := Cod.sel_is (Lz z) N
  unfold cat2 cH
  rw [Cod.enc_data _ hi]
  unfold cD
  rw [Cod.dec_enc (n := N) (Hz z) (dM m D) hK hN (fun t ht => hS.lt t (by omega)) (fun t t' h1 h2 => hS.rise t t' h1 (by omega)) (b % m) (fun t ht => ?_) (b / m) hi]
  · unfold dM
    rw [bK_toK, Nat.div_add_mod' b m]
  · have hl := hS.lt t (by omega)
    have hne := hS.there t (by omega)
    rcases hz _ hl with e | e
    · exact absurd (show Lz z (Cod.sel (Lz z) N t) = 0 from congrArg Sl.dn e) hne
    · unfold Hz
      rw [e.D (b % m) (by rw [← hm]; exact hbm)]
      unfold dH
      rw [toK_bK]
theorem new_ne {N : Nat} {c : Int} {kd : UInt8} {v : Int} {X : Nat → Int} {G : Nat → Nat → UInt8} {i : Nat} {y : Sl} (h : New N c kd v X G i y) : y.ce ≠ 0 := (ok_of h.is.1).ne
theorem erL_ct {N K : Nat} {c : Int} {z : Nat → Sl} (h : Zok N c z) (hc : 8 ≤ c) : erL K z N = if K ≤ ct z N then 0 else 5 := by unfold erL; rw [(cnt_ct h hc).1]
end Go.Proofs.YtdmpiipllmjloaaGreat
namespace Go.Proofs.YtdmpiipllmjloaaGreat
open Go.RowKit
theorem row_n {N n : Nat} {c : Int} {L os : Nat → Nat} (Lc : Nat → Nat) (hL : ∀ j, j < 2 * N → L j = 0 ∨ L j = sz N c) : ∀ t j, j < 2 * N → bP Lc os n L (fun _ => sz N c) t j = 0 ∨ bP Lc os n L (fun _ => sz N c) t j = sz N c
  | 0, j, hj => hL j hj
  | t + 1, j, hj => by
    rw [bP]
    by_cases e : j = 2 * Cod.sel Lc n t + os (Cod.sel Lc n t)
    · rw [e, Cod.put_at]; exact .inr rfl
    · rw [Cod.put_ne _ _ e]; exact row_n Lc hL t j hj
theorem erK_ok {N : Nat} {c : Int} {L : Nat → Nat} {kd : UInt8} {v : Int} (hL : ∀ j, j < 2 * N → L j = 0 ∨ L j = sz N c) (hk : kd = 1 ∨ kd = 2) (hv : 1 ≤ v ∧ v ≤ 1073741824) : erK 0 N c N L kd v = 0 := by
  have h1 : erR 0 N c N L = 0 := by unfold erR; rw [if_pos rfl, if_pos ⟨rfl, hL⟩]
  unfold erK; rw [if_pos h1, if_pos ⟨hk, hv⟩]
end Go.Proofs.YtdmpiipllmjloaaGreat
namespace Go.Proofs.YtdmpiipllmjloaaGreat
open Go.RowKit
/-- What parameters that may be come to. -/
theorem Par.nums {k r c q : Int} {N W : Nat} (h : Par k r c q N W 0) : ∃ K m : Nat, k = (K : Int) ∧ c = (m : Int) ∧ 1 ≤ K ∧ K ≤ 12 ∧ K ≤ N ∧ N ≤ 16 ∧ 8 ≤ m ∧ m ≤ 64 ∧ W = K * m := by
  have hle := h.le
  rcases h with ⟨hm, hW, hN, _⟩ | ⟨_, _, _, h0⟩
  · obtain ⟨h1, h2, h3, h4, h5, h6, h7, h8, h9⟩ := may_true hm
    obtain ⟨K, rfl⟩ := Int.eq_ofNat_of_zero_le (show 0 ≤ k by omega)
    obtain ⟨m, rfl⟩ := Int.eq_ofNat_of_zero_le (show 0 ≤ c by omega)
    refine ⟨K, m, rfl, rfl, by omega, by omega, by omega, hle, by omega, by omega, ?_⟩
    rw [← Int.natCast_mul] at hW; omega
  · exact absurd h0 (by decide)
/-- What lies in the places of a row of whose first t pairs those are emptied that P doesn't name. -/
def wp {α : Type} (P : Nat → Bool) (x : α) (f : Nat → α) (t j : Nat) : α := if j / 2 < t ∧ P (j / 2) = false then x else f j
theorem wp_zero {α : Type} (P : Nat → Bool) (x : α) (f : Nat → α) : wp P x f 0 = f := funext fun _ => if_neg fun h => absurd h.1 (Nat.not_lt_zero _)
theorem wp_left {α : Type} {P : Nat → Bool} {x : α} {f : Nat → α} {t j : Nat} (h : P (j / 2) = true) : wp P x f t j = f j := if_neg fun e => by rw [h] at e; exact absurd e.2 (by decide)
theorem wp_gone {α : Type} {P : Nat → Bool} {x : α} {f : Nat → α} {t j : Nat} (h : P (j / 2) = false) (hj : j / 2 < t) : wp P x f t j = x := if_pos ⟨hj, h⟩
theorem wp_skip {α : Type} {P : Nat → Bool} {x : α} {f : Nat → α} {t : Nat} (h : P t = true) : wp P x f (t + 1) = wp P x f t := funext fun j => by
  unfold wp
  by_cases e : j / 2 = t
  · rw [if_neg (fun a => by rw [e, h] at a; exact absurd a.2 (by decide)), if_neg (fun a => by omega)]
  · by_cases g : j / 2 < t ∧ P (j / 2) = false
    · rw [if_pos g, if_pos ⟨by omega, g.2⟩]
    · rw [if_neg g, if_neg (fun a => g ⟨by omega, a.2⟩)]
theorem wp_take {α : Type} {P : Nat → Bool} {x : α} {f : Nat → α} {t : Nat} (h : P t = false) : wp P x f (t + 1) = Cod.put (t * 2 + 1) x (Cod.put (t * 2) x (wp P x f t)) := funext fun j => by
  by_cases e1 : j = t * 2 + 1
  · rw [e1, Cod.put_at, wp_gone (by rw [show (t * 2 + 1) / 2 = t by omega]; exact h) (by omega)]
  · rw [Cod.put_ne _ _ e1]
    by_cases e2 : j = t * 2
    · rw [e2, Cod.put_at, wp_gone (by rw [show t * 2 / 2 = t by omega]; exact h) (by omega)]
    · rw [Cod.put_ne _ _ e2]
      unfold wp
      by_cases g : j / 2 < t ∧ P (j / 2) = false
      · rw [if_pos g, if_pos ⟨by omega, g.2⟩]
      · rw [if_neg g, if_neg (fun a => g ⟨by omega, a.2⟩)]
theorem wp_bec {w w' : World} {n : Nat} {P : Nat → Bool} {A : Nat → Option Addr} {L C : Nat → Nat} {F : Nat → Nat → UInt8} (h : ∀ j, j < 2 * n → Bec w (A j) (L j) (C j) (F j)) (hb : Below w.heap.size w w') (t : Nat) : ∀ j, j < 2 * n → Bec w' (wp P none A t j) (wp P 0 L t j) (wp P 0 C t j) (F j) := fun j hj => by
  by_cases g : j / 2 < t ∧ P (j / 2) = false
  · rw [wp_gone g.2 g.1, wp_gone g.2 g.1, wp_gone g.2 g.1]; exact bec_nil _ _
  · unfold wp; rw [if_neg g, if_neg g, if_neg g]; exact (h j hj).below hb
end Go.Proofs.YtdmpiipllmjloaaGreat
namespace Go.Proofs.YtdmpiipllmjloaaGreat.Cn
/-- The numbers below n that are marked. -/
def dl (p : Nat → Bool) : Nat → List Int
  | 0 => []
  | n + 1 => if p n = true then dl p n ++ [(n : Int)] else dl p n
theorem dl_congr {p q : Nat → Bool} : ∀ {n : Nat}, (∀ i, i < n → p i = q i) → dl p n = dl q n
  | 0, _ => rfl
  | n + 1, h => by rw [dl, dl, dl_congr (n := n) (fun i hi => h i (by omega)), h n (by omega)]
theorem mem_dl {p : Nat → Bool} {x : Int} : ∀ {n : Nat}, x ∈ dl p n ↔ ∃ i : Nat, i < n ∧ p i = true ∧ x = (i : Int)
  | 0 => ⟨fun h => absurd h (by simp [dl]), fun ⟨i, h, _⟩ => absurd h (by omega)⟩
  | n + 1 => by
    rw [dl]
    by_cases h : p n = true
    · rw [if_pos h, List.mem_append, mem_dl (n := n)]
      constructor
      · rintro (⟨i, h1, h2, h3⟩ | h1)
        · exact ⟨i, by omega, h2, h3⟩
        · exact ⟨n, by omega, h, by simpa using h1⟩
      · rintro ⟨i, h1, h2, h3⟩
        by_cases e : i = n
        · exact .inr (by rw [h3, e]; simp)
        · exact .inl ⟨i, by omega, h2, h3⟩
    · rw [if_neg h, mem_dl (n := n)]
      constructor
      · rintro ⟨i, h1, h2, h3⟩; exact ⟨i, by omega, h2, h3⟩
      · rintro ⟨i, h1, h2, h3⟩
        by_cases e : i = n
        · rw [e] at h2; exact absurd h2 h
        · exact ⟨i, by omega, h2, h3⟩
theorem dl_both (p : Nat → Bool) : ∀ n : Nat, (dl p n).length + (dl (fun i => !p i) n).length = n
  | 0 => rfl
  | n + 1 => by
    have := dl_both p n
    rw [dl, dl]
    cases h : p n
    · simp; omega
    · simp; omega
theorem dl_few (p : Nat → Bool) (n : Nat) : (dl p n).length ≤ n := by have := dl_both p n; omega
theorem dl_sub {p q : Nat → Bool} : ∀ {n : Nat}, (∀ i, i < n → p i = true → q i = true) → (dl p n).length ≤ (dl q n).length
  | 0, _ => Nat.le_refl _
  | n + 1, h => by
    have ih := dl_sub (n := n) (fun i hi => h i (by omega))
    rw [dl, dl]
    by_cases hp : p n = true
    · rw [if_pos hp, if_pos (h n (by omega) hp)]; simp; omega
    · rw [if_neg hp]
      split
      · simp; omega
      · exact ih
theorem dl_empty {p : Nat → Bool} {n : Nat} (h : ∀ i, i < n → p i = false) : dl p n = [] := by
  apply List.eq_nil_iff_forall_not_mem.2
  intro x hx
  obtain ⟨i, h1, h2, _⟩ := mem_dl.1 hx
  rw [h i h1] at h2
  cases h2
/-- Does drive d, whose slots have P d and Q d, hold v? -/
def hbv (P Q : Nat → Int) (v : Int) (d : Nat) : Bool := decide (P d = v ∨ Q d = v)
/-- The drives that hold it; how many. -/
def dv (P Q : Nat → Int) (n : Nat) (v : Int) : List Int := dl (hbv P Q v) n
def ct (P Q : Nat → Int) (n : Nat) (v : Int) : Nat := (dv P Q n v).length
/-- A number put into a falling list. -/
def insD (x : Int) : List Int → List Int
  | [] => [x]
  | y :: l => if y < x then x :: y :: l else if x = y then y :: l else y :: insD x l
theorem mem_insD {x z : Int} : ∀ {l : List Int}, z ∈ insD x l ↔ z = x ∨ z ∈ l
  | [] => by simp [insD]
  | y :: l => by
    rw [insD]
    by_cases h : y < x
    · rw [if_pos h]; simp
    · rw [if_neg h]
      by_cases e : x = y
      · rw [if_pos e]; simp [e]
      · rw [if_neg e, List.mem_cons, mem_insD (l := l), List.mem_cons]
        constructor
        · rintro (h1 | h1 | h1); exact .inr (.inl h1); exact .inl h1; exact .inr (.inr h1)
        · rintro (h1 | h1 | h1); exact .inr (.inl h1); exact .inl h1; exact .inr (.inr h1)
theorem fall_insD {x : Int} : ∀ {l : List Int}, l.Pairwise (fun a b => b < a) → (insD x l).Pairwise (fun a b => b < a)
  | [], _ => List.pairwise_singleton _ _
  | y :: l, h => by
    rw [insD]
    obtain ⟨h1, h2⟩ := List.pairwise_cons.1 h
    by_cases g : y < x
    · rw [if_pos g]
      refine List.pairwise_cons.2 ⟨fun a ha => ?_, h⟩
      rcases List.mem_cons.1 ha with rfl | ha
      · exact g
      · have := h1 a ha; omega
    · rw [if_neg g]
      by_cases e : x = y
      · rw [if_pos e]; exact h
      · rw [if_neg e]
        refine List.pairwise_cons.2 ⟨fun a ha => ?_, fall_insD h2⟩
        rcases mem_insD.1 ha with rfl | ha
        · omega
        · exact h1 a ha
/-- The versions that are held, falling. -/
def tvL (P Q : Nat → Int) : Nat → List Int
  | 0 => []
  | n + 1 =>
    let l := if P n = 0 then tvL P Q n else insD (P n) (tvL P Q n)
    if Q n = 0 then l else insD (Q n) l
theorem tvL_fall (P Q : Nat → Int) : ∀ n : Nat, (tvL P Q n).Pairwise (fun a b => b < a)
  | 0 => List.Pairwise.nil
  | n + 1 => by
    have ih := tvL_fall P Q n
    rw [tvL]
    split <;> split
    · exact ih
    · exact fall_insD ih
    · exact fall_insD ih
    · exact fall_insD (fall_insD ih)
theorem mem_tvL {P Q : Nat → Int} {v : Int} : ∀ {n : Nat}, v ∈ tvL P Q n ↔ v ≠ 0 ∧ ∃ d, d < n ∧ (P d = v ∨ Q d = v)
  | 0 => ⟨fun h => absurd h (by simp [tvL]), fun ⟨_, d, h, _⟩ => absurd h (by omega)⟩
  | n + 1 => by
    have ih := mem_tvL (P := P) (Q := Q) (v := v) (n := n)
    have key : v ∈ tvL P Q (n + 1) ↔ v ∈ tvL P Q n ∨ (v ≠ 0 ∧ (P n = v ∨ Q n = v)) := by
      rw [tvL]
      by_cases a : P n = 0 <;> by_cases b : Q n = 0
      · rw [if_pos b, if_pos a]
        constructor
        · exact .inl
        · rintro (h | ⟨h, h2 | h2⟩)
          · exact h
          · omega
          · omega
      · rw [if_neg b, if_pos a, mem_insD]
        constructor
        · rintro (h | h); exact .inr ⟨by omega, .inr h.symm⟩; exact .inl h
        · rintro (h | ⟨h, h2 | h2⟩)
          · exact .inr h
          · omega
          · exact .inl h2.symm
      · rw [if_pos b, if_neg a, mem_insD]
        constructor
        · rintro (h | h); exact .inr ⟨by omega, .inl h.symm⟩; exact .inl h
        · rintro (h | ⟨h, h2 | h2⟩)
          · exact .inr h
          · exact .inl h2.symm
          · omega
      · rw [if_neg b, if_neg a, mem_insD, mem_insD]
        constructor
        · rintro (h | h | h); exact .inr ⟨by omega, .inr h.symm⟩; exact .inr ⟨by omega, .inl h.symm⟩; exact .inl h
        · rintro (h | ⟨h, h2 | h2⟩)
          · exact .inr (.inr h)
          · exact .inr (.inl h2.symm)
          · exact .inl h2.symm
    rw [key, ih]
    constructor
    · rintro (⟨h, d, h1, h2⟩ | ⟨h, h2⟩)
      · exact ⟨h, d, by omega, h2⟩
      · exact ⟨h, n, by omega, h2⟩
    · rintro ⟨h, d, h1, h2⟩
      by_cases e : d = n
      · exact .inr ⟨h, by rw [← e]; exact h2⟩
      · exact .inl ⟨h, d, by omega, h2⟩
theorem mem_tv {P Q : Nat → Int} {v : Int} {n : Nat} : v ∈ tvL P Q n ↔ v ≠ 0 ∧ dv P Q n v ≠ [] := by
  rw [mem_tvL]
  refine and_congr_right fun _ => ?_
  constructor
  · rintro ⟨d, h1, h2⟩ e
    have hm : ((d : Nat) : Int) ∈ dv P Q n v := mem_dl.2 ⟨d, h1, decide_eq_true h2, rfl⟩
    rw [e] at hm; cases hm
  · intro e
    obtain ⟨x, hx⟩ := List.exists_mem_of_ne_nil _ e
    obtain ⟨d, h1, h2, _⟩ := mem_dl.1 hx
    exact ⟨d, h1, of_decide_eq_true h2⟩
/-- Two falling lists of the same numbers are one. -/
theorem fall_eq : ∀ {l m : List Int}, l.Pairwise (fun a b => b < a) → m.Pairwise (fun a b => b < a) → (∀ v, v ∈ l ↔ v ∈ m) → l = m
  | [], [], _, _, _ => rfl
  | [], b :: m, _, _, h => absurd ((h b).2 (by simp)) (by simp)
  | a :: l, [], _, _, h => absurd ((h a).1 (by simp)) (by simp)
  | a :: l, b :: m, h1, h2, h => by
    obtain ⟨p1, p2⟩ := List.pairwise_cons.1 h1
    obtain ⟨q1, q2⟩ := List.pairwise_cons.1 h2
    have e : a = b := by
      rcases List.mem_cons.1 ((h a).1 (by simp)) with e | e
      · exact e
      · rcases List.mem_cons.1 ((h b).2 (by simp)) with e2 | e2
        · exact e2.symm
        · have := q1 a e; have := p1 b e2; omega
    subst e
    rw [fall_eq p2 q2 (fun v => ?_)]
    constructor
    · intro hv
      rcases List.mem_cons.1 ((h v).1 (List.mem_cons_of_mem _ hv)) with e | e
      · have := p1 v hv; omega
      · exact e
    · intro hv
      rcases List.mem_cons.1 ((h v).2 (List.mem_cons_of_mem _ hv)) with e | e
      · have := q1 v hv; omega
      · exact e
theorem tvL_few (P Q : Nat → Int) : ∀ n : Nat, (tvL P Q n).length ≤ 2 * n := by
  have hi : ∀ (x : Int) (l : List Int), (insD x l).length ≤ l.length + 1 := by
    intro x l
    induction l with
    | nil => simp [insD]
    | cons y l ih =>
      rw [insD]
      split
      · simp
      · split
        · simp
        · simp; omega
  intro n
  induction n with
  | zero => simp [tvL]
  | succ n ih =>
    rw [tvL]
    have h1 := hi (P n) (tvL P Q n)
    split <;> split
    · omega
    · omega
    · have h2 := hi (Q n) (tvL P Q n); omega
    · have h2 := hi (Q n) (insD (P n) (tvL P Q n)); omega
/-- Those that enough drives hold; those ahead of the first of them. -/
def enB (K : Int) (P Q : Nat → Int) (n : Nat) (v : Int) : Bool := decide (K ≤ (ct P Q n v : Int))
def wins (K : Int) (P Q : Nat → Int) (n : Nat) : List Int := (tvL P Q n).filter (enB K P Q n)
end Go.Proofs.YtdmpiipllmjloaaGreat.Cn
