import Derived.Test.YtdmpiipllmjloaaGreatPj3
import Derived.Test.YtdmpiipllmjloaaGreatPj28
namespace Go.Proofs.YtdmpiipllmjloaaGreat
open Go.RowKit
def zq (N : Nat) (c : Int) (L : Nat -> Nat) (F : Nat -> Nat -> UInt8) (j : Nat) : Sl := slQ (isS N c (L j) (F j)) N c (F j)
def abB (N : Nat) (c : Int) (L : Nat -> Nat) (F : Nat -> Nat -> UInt8) (v : Int) : Bool := decide (∀ j, j < 2 * N -> isS N c (L j) (F j) = true -> (zq N c L F j).st < v)
def twB (N : Nat) (c : Int) (L : Nat -> Nat) (F : Nat -> Nat -> UInt8) (kd : UInt8) (i : Nat) : Prop := isS N c (L (2 * i)) (F (2 * i)) = true /\ isS N c (L (2 * i + 1)) (F (2 * i + 1)) = true /\ (zq N c L F (2 * i)).kd = kd /\ (zq N c L F (2 * i + 1)).kd = kd /\ (zq N c L F (2 * i)).ce = (zq N c L F (2 * i + 1)).ce
theorem yq {N : Nat} {c : Int} {L : Nat -> Nat} {F : Nat -> Nat -> UInt8} (j : Nat) : yy N c L F j = zSl \/ (isS N c (L j) (F j) = true /\ yy N c L F j = zq N c L F j) := by
  rcases he_is N c ((j / 2 : Nat) : Int) (L j) (F j) with h | ⟨_, _, h, e⟩
  · exact .inl h
  · refine .inr ⟨h, e.trans ?_⟩
    unfold zq slQ; rw [h, if_pos rfl]
theorem above_st {N : Nat} {c : Int} {L : Nat -> Nat} {F : Nat -> Nat -> UInt8} {v : Int} (h : abB N c L F v = true) (hv : 1 <= v) {j : Nat} (hj : j < 2 * N) : (yy N c L F j).st < v := by
  rcases yq (N := N) (c := c) (L := L) (F := F) j with e | ⟨e1, e2⟩
  · rw [e]; show (0 : Int) < v; omega
  · rw [e2]; exact of_decide_eq_true h j hj e1
theorem once_of {N : Nat} {c : Int} {L : Nat -> Nat} {F : Nat -> Nat -> UInt8} {kd : UInt8} (hk : kd = 1 \/ kd = 2) (h : ∀ i, i < N -> ¬ twB N c L F kd i) : Once N kd (yy N c L F) := fun i hi e0 e1 e2 => by
  have nz : zSl.kd ≠ kd := by rcases hk with rfl | rfl <;> decide
  rcases yq (N := N) (c := c) (L := L) (F := F) (2 * i) with a | ⟨a1, a2⟩
  · rw [a] at e0; exact nz e0
  · rcases yq (N := N) (c := c) (L := L) (F := F) (2 * i + 1) with b | ⟨b1, b2⟩
    · rw [b] at e1; exact nz e1
    · rw [a2] at e0 e2; rw [b2] at e1 e2
      exact h i hi ⟨a1, b1, e0, e1, e2⟩
end Go.Proofs.YtdmpiipllmjloaaGreat
namespace Go.Proofs.YtdmpiipllmjloaaGreat
open Go.RowKit
theorem ptl_len (Lc os : Nat -> Nat) (nu : Int) (n : Nat) (T : Nat -> Option Addr) (U : Nat -> Nat) : ∀ d, (ptl Lc os nu n T U d).length = 4 * Cod.cnt Lc d
  | 0 => rfl
  | d + 1 => by
    rw [ptl]
    by_cases h : Lc d = 0
    · rw [if_pos h, Cod.cnt_skip h]; exact ptl_len Lc os nu n T U d
    · rw [if_neg h, Cod.cnt_take h, List.length_append, ptl_len Lc os nu n T U d]; simp; omega
theorem ptl_get (Lc os : Nat -> Nat) (nu : Int) (n : Nat) (T : Nat -> Option Addr) (U : Nat -> Nat) : ∀ d t, t < Cod.cnt Lc d ->
    (ptl Lc os nu n T U d)[t * 4]? = some (.int .i64 ((Cod.sel Lc d t : Nat) : Int)) /\ (ptl Lc os nu n T U d)[t * 4 + 2]? = some (.int .i64 ((os (Cod.sel Lc d t) : Nat) : Int)) /\ (ptl Lc os nu n T U d)[t * 4 + 3]? = some (.slice (T (Cod.sel Lc d t)) n (U (Cod.sel Lc d t)))
  | 0, t, h => absurd h (Nat.not_lt_zero t)
  | d + 1, t, h => by
    rw [ptl]
    by_cases hz : Lc d = 0
    · rw [Cod.cnt_skip hz] at h
      rw [if_pos hz, Cod.sel_skip hz]; exact ptl_get Lc os nu n T U d t h
    · rw [Cod.cnt_take hz] at h
      have hl := ptl_len Lc os nu n T U d
      rw [if_neg hz]
      by_cases e : t = Cod.cnt Lc d
      · rw [Cod.sel_take hz, e, Cod.put_at, List.getElem?_append_right (by omega), List.getElem?_append_right (by omega), List.getElem?_append_right (by omega), hl, show Cod.cnt Lc d * 4 - 4 * Cod.cnt Lc d = 0 by omega, show Cod.cnt Lc d * 4 + 2 - 4 * Cod.cnt Lc d = 2 by omega, show Cod.cnt Lc d * 4 + 3 - 4 * Cod.cnt Lc d = 3 by omega]
        exact ⟨rfl, rfl, rfl⟩
      · have ht : t < Cod.cnt Lc d := by omega
        rw [List.getElem?_append_left (by omega), List.getElem?_append_left (by omega), List.getElem?_append_left (by omega), Cod.sel_prefix Lc (Nat.le_succ d) ht]
        exact ptl_get Lc os nu n T U d t ht
def bP {α : Type} (Lc os : Nat -> Nat) (N : Nat) (f g : Nat -> α) : Nat -> Nat -> α
  | 0 => f
  | t + 1 => Cod.put (2 * Cod.sel Lc N t + os (Cod.sel Lc N t)) (g (Cod.sel Lc N t)) (bP Lc os N f g t)
theorem bP_out {α : Type} {Lc os : Nat -> Nat} {N : Nat} {f g : Nat -> α} {j : Nat} : ∀ {t : Nat}, (∀ s, s < t -> 2 * Cod.sel Lc N s + os (Cod.sel Lc N s) ≠ j) -> bP Lc os N f g t j = f j
  | 0, _ => rfl
  | t + 1, h => by rw [bP, Cod.put_ne _ _ (fun e => h t (by omega) e.symm)]; exact bP_out fun s hs => h s (by omega)
theorem bP_in {α : Type} {Lc os : Nat -> Nat} {N : Nat} {f g : Nat -> α} (ho : ∀ i, os i < 2) {s : Nat} : ∀ {t : Nat}, t <= Cod.cnt Lc N -> s < t -> bP Lc os N f g t (2 * Cod.sel Lc N s + os (Cod.sel Lc N s)) = g (Cod.sel Lc N s)
  | 0, _, h => absurd h (Nat.not_lt_zero s)
  | t + 1, ht, h => by
    rw [bP]
    by_cases e : s = t
    · rw [e, Cod.put_at]
    · have hr := (Cod.sel_is Lc N).rise s t (by omega) (by omega)
      have h1 := ho (Cod.sel Lc N s)
      have h2 := ho (Cod.sel Lc N t)
      rw [Cod.put_ne _ _ (by omega)]
      exact bP_in ho (by omega) (by omega)
theorem oN_lt (y0 y1 : Sl) (kd : UInt8) (v : Int) : oN y0 y1 kd v < 2 := by
  unfold oN
  split
  · omega
  · split
    · omega
    · split <;> omega
theorem info35 : (Tryz.prog.info? 67).map (fun i => (i.zero, i.size, i.bytes)) = some (some (.agg #[.slice none 0 0, .slice none 0 0]), 2, 48) := by kernel_rfl
structure Rn (B : Nat) (w : World) (g rn cap : Nat) (A : Nat -> Option Addr) (L C : Nat -> Nat) (F : Nat -> Nat -> UInt8) : Prop where
  out : w.ownsRow B 67 2 (.slice (some ⟨g, 0, none⟩) rn cap) rn (Cod.rowsOf (2 * rn) A L C)
  bec : ∀ j, j < 2 * rn -> Bec w (A j) (L j) (C j) (F j)
theorem Rn.cell {B : Nat} {w : World} {g rn cap : Nat} {A : Nat -> Option Addr} {L C : Nat -> Nat} {F : Nat -> Nat -> UInt8} (h : Rn B w g rn cap A L C F) {j : Nat} (hj : j < 2 * rn) : w.cell? ⟨g, j, none⟩ = some (.slice (A j) (L j) (C j)) := by
  have := h.out.cells (g := g) rfl j _ (Cod.rowsOf_get (2 * rn) A L C j hj)
  rw [Addr.add_lit, Nat.zero_add] at this
  exact this
theorem Rn.rw {B : Nat} {w : World} {g rn cap : Nat} {A : Nat -> Option Addr} {L C : Nat -> Nat} {F : Nat -> Nat -> UInt8} (h : Rn B w g rn cap A L C F) : Rw w (some ⟨g, 0, none⟩) rn A L C F :=
  ⟨fun _ => ⟨g, 0, rfl, fun i hi => by
    rw [Nat.zero_add, Nat.mul_comm i 2]
    exact ⟨h.cell (by omega), h.cell (by omega)⟩⟩, h.bec⟩
theorem Rn.below {B : Nat} {w w' : World} {g rn cap : Nat} {A : Nat -> Option Addr} {L C : Nat -> Nat} {F : Nat -> Nat -> UInt8} (h : Rn B w g rn cap A L C F) (hb : Below w.heap.size w w') : Rn B w' g rn cap A L C F :=
  ⟨owns_below h.out hb, fun j hj => (h.bec j hj).below hb⟩
theorem rw_news {w : World} {a : Addr} {rn : Nat} {A : Nat -> Option Addr} {L C : Nat -> Nat} {F : Nat -> Nat -> UInt8} (h : Rw w (some a) rn A L C F) (hn : 0 < rn) : ∀ j u, (Cod.rowsOf (2 * rn) A L C)[j]? = some u -> w.cell? (a.add j) = some u := fun j u hu => by
  have hj : j < 2 * rn := list_lt (Cod.rowsOf_length _ _ _ _) hu
  rw [Cod.rowsOf_get _ _ _ _ _ hj] at hu
  obtain ⟨b, off, e, hc⟩ := h.at_ hn
  cases e
  rw [Addr.add_lit]
  obtain ⟨h0, h1⟩ := hc (j / 2) (by omega)
  rcases Nat.mod_two_eq_zero_or_one j with z | z
  · rw [show off + j = off + j / 2 * 2 by omega, h0, show 2 * (j / 2) = j by omega]; exact hu
  · rw [show off + j = off + j / 2 * 2 + 1 by omega, h1, show 2 * (j / 2) + 1 = j by omega]; exact hu
end Go.Proofs.YtdmpiipllmjloaaGreat
namespace Go.Proofs.YtdmpiipllmjloaaGreat
theorem sel_full {L : Nat -> Nat} : ∀ {n : Nat}, (∀ i, i < n -> L i ≠ 0) -> ∀ t, t < n -> Cod.sel L n t = t
  | 0, _, t, h => absurd h (Nat.not_lt_zero t)
  | n + 1, hL, t, h => by
    rw [Cod.sel_take (hL n (by omega)), Cod.cnt_full (fun i hi => hL i (by omega))]
    by_cases e : t = n
    · rw [e, Cod.put_at]
    · rw [Cod.put_ne _ _ e]; exact sel_full (fun i hi => hL i (by omega)) t (by omega)
theorem new_of {N : Nat} {c : Int} {kd : UInt8} {X : Nat -> Int} {G : Nat -> Nat -> UInt8} {i : Nat} {F : Nat -> UInt8} (hN : N <= 16) (hc : 0 <= c) (hk : kd = 1 \/ kd = 2) (hX : ∀ j, j < N -> 1 <= X j /\ X j <= 1073741824) (hi : i < N) (hF : ∀ j, j < sz N c -> F j = enc (slC kd N X c.toNat (G i) i) j) : New N c kd (mx X N) X G i (he 0 N c (i : Int) (sz N c) F) := by
  have hok := (slC_ok (G := G i) hk hX hi hc).ok
  have his := is_enc hN hok rfl hF
  have hs := dec_enc hN hok hF
  obtain ⟨s1, s2, s3, s4, s5, s6, s7, s8⟩ := sameS_true hs
  have hh : he 0 N c (i : Int) (sz N c) F = dec N c F := by
    unfold he ofI slQ
    rw [if_pos rfl, his, if_pos rfl, if_pos (show (dec N c F).ix = (i : Int) from s2)]
  rw [hh]
  refine ⟨⟨okS_same (sameS_symm hs) hok, s2⟩, s1, s4, fun l hl => s7 l (by rw [s5]; exact hl), fun b hb => s8 b (by rw [s6]; exact hb)⟩
theorem yy_congr {N : Nat} {c : Int} {L L' : Nat -> Nat} {F F' : Nat -> Nat -> UInt8} {j : Nat} (h1 : L' j = L j) (h2 : F' j = F j) : yy N c L' F' j = yy N c L F j := by unfold yy; rw [h1, h2]
theorem ct_of {N : Nat} {z : Nat -> Sl} {P : Nat -> Bool} (h : ∀ i, i < N -> ((z i).ce = 0 ↔ P i = false)) : ct z N = Cod.cnt (fun i => if P i = true then 1 else 0) N := by
  have := Cod.cnt_congr (L := lz z) (L' := fun i => if P i = true then 1 else 0) (n := N) (fun i hi => by
    have hh := h i hi
    unfold lz
    by_cases e : (z i).ce = 0
    · rw [if_pos e]; simp only [hh.1 e]; simp
    · rw [if_neg e]
      have : P i = true := by cases q : P i; exact absurd (hh.2 q) e; rfl
      simp only [this]; simp)
  unfold ct Cod.cnt; rw [this]
theorem rd_congr {N K : Nat} {z z' : Nat -> Sl} (h : ∀ i, i < N -> z' i = z i) : erL K z' N = erL K z N /\ (erL K z N = 0 -> ∀ i b, cH K z' N i b = cH K z N i b) /\ ct z' N = ct z N := by
  have hs := Cod.cnt_congr (L := Lz z') (L' := Lz z) (n := N) (fun i hi => by unfold Lz; rw [h i hi])
  have hs2 := Cod.cnt_congr (L := lz z') (L' := lz z) (n := N) (fun i hi => by unfold lz; rw [h i hi])
  have hc : Cod.cnt (Lz z') N = Cod.cnt (Lz z) N := by unfold Cod.cnt; rw [hs]
  have hl : Cod.sel (Lz z') N = Cod.sel (Lz z) N := by unfold Cod.sel; rw [hs]
  refine ⟨by unfold erL; rw [hc], fun e i b => ?_, by unfold ct Cod.cnt; rw [hs2]⟩
  have hk : K <= Cod.cnt (Lz z) N := by
    unfold erL at e
    by_cases g : K <= Cod.cnt (Lz z) N
    · exact g
    · rw [if_neg g] at e; exact absurd e (by decide)
  unfold cH cD
  rw [hl]
  congr 1
  refine Cod.enc_congr (fun j _ => Cod.dec_congr (fun t ht => ?_) j) i
  unfold Hz
  rw [h _ ((Cod.sel_is (Lz z) N).lt t (by omega))]
theorem rd_new {N K m : Nat} {c : Int} {kd : UInt8} {v : Int} {X : Nat -> Int} {D : Nat -> UInt8} {z : Nat -> Sl} (hK : K <= 12) (hN : N <= 16) (hm : m = c.toNat) (hm0 : 0 < m) (hz : ∀ i, i < N -> z i = zSl \/ New N c kd v X (dH K m D) i (z i)) (hE : erL K z N = 0) (b : Nat) (hb : b < K * m) : cat2 m (cH K z N) b = D b := by
  have hk : K <= Cod.cnt (Lz z) N := by
    unfold erL at hE
    by_cases g : K <= Cod.cnt (Lz z) N
    · exact g
    · rw [if_neg g] at hE; exact absurd hE (by decide)
  have hi : b / m < K := Nat.div_lt_of_lt_mul (by rw [Nat.mul_comm]; exact hb)
  have hbm : b % m < m := Nat.mod_lt _ hm0
  have hS := Cod.sel_is (Lz z) N
  unfold cat2 cH
  rw [Cod.enc_data _ hi]
  unfold cD
  rw [Cod.dec_enc (n := N) (Hz z) (dM m D) hK hN (fun t ht => hS.lt t (by omega)) (fun t t' h1 h2 => hS.rise t t' h1 (by omega)) (b % m) (fun t ht => ?_) (b / m) hi]
  · unfold dM
    rw [bK_toK, Nat.div_add_mod' b m]
  · have hl := hS.lt t (by omega)
    have hne := hS.there t (by omega)
    rcases hz _ hl with e | e
    · exact absurd (show Lz z (Cod.sel (Lz z) N t) = 0 from congrArg Sl.dn e) hne
    · unfold Hz
      rw [e.D (b % m) (by rw [<- hm]; exact hbm)]
      unfold dH
      rw [toK_bK]
theorem new_ne {N : Nat} {c : Int} {kd : UInt8} {v : Int} {X : Nat -> Int} {G : Nat -> Nat -> UInt8} {i : Nat} {y : Sl} (h : New N c kd v X G i y) : y.ce ≠ 0 := (ok_of h.is.1).ne
theorem erL_ct {N K : Nat} {c : Int} {z : Nat -> Sl} (h : Zok N c z) (hc : 8 <= c) : erL K z N = if K <= ct z N then 0 else 5 := by unfold erL; rw [(cnt_ct h hc).1]
end Go.Proofs.YtdmpiipllmjloaaGreat
namespace Go.Proofs.YtdmpiipllmjloaaGreat
open Go.RowKit
theorem row_n {N n : Nat} {c : Int} {L os : Nat -> Nat} (Lc : Nat -> Nat) (hL : ∀ j, j < 2 * N -> L j = 0 \/ L j = sz N c) : ∀ t j, j < 2 * N -> bP Lc os n L (fun _ => sz N c) t j = 0 \/ bP Lc os n L (fun _ => sz N c) t j = sz N c
  | 0, j, hj => hL j hj
  | t + 1, j, hj => by
    rw [bP]
    by_cases e : j = 2 * Cod.sel Lc n t + os (Cod.sel Lc n t)
    · rw [e, Cod.put_at]; exact .inr rfl
    · rw [Cod.put_ne _ _ e]; exact row_n Lc hL t j hj
theorem erK_ok {N : Nat} {c : Int} {L : Nat -> Nat} {kd : UInt8} {v : Int} (hL : ∀ j, j < 2 * N -> L j = 0 \/ L j = sz N c) (hk : kd = 1 \/ kd = 2) (hv : 1 <= v /\ v <= 1073741824) : erK 0 N c N L kd v = 0 := by
  have h1 : erR 0 N c N L = 0 := by unfold erR; rw [if_pos rfl, if_pos ⟨rfl, hL⟩]
  unfold erK; rw [if_pos h1, if_pos ⟨hk, hv⟩]
end Go.Proofs.YtdmpiipllmjloaaGreat
namespace Go.Proofs.YtdmpiipllmjloaaGreat
open Go.RowKit
theorem Par.nums {k r c q : Int} {N W : Nat} (h : Par k r c q N W 0) : ∃ K m : Nat, k = (K : Int) /\ c = (m : Int) /\ 1 <= K /\ K <= 12 /\ K <= N /\ N <= 16 /\ 8 <= m /\ m <= 64 /\ W = K * m := by
  have hle := h.le
  rcases h with ⟨hm, hW, hN, _⟩ | ⟨_, _, _, h0⟩
  · obtain ⟨h1, h2, h3, h4, h5, h6, h7, h8, h9⟩ := may_true hm
    obtain ⟨K, rfl⟩ := Int.eq_ofNat_of_zero_le (show 0 <= k by omega)
    obtain ⟨m, rfl⟩ := Int.eq_ofNat_of_zero_le (show 0 <= c by omega)
    refine ⟨K, m, rfl, rfl, by omega, by omega, by omega, hle, by omega, by omega, ?_⟩
    rw [<- Int.natCast_mul] at hW; omega
  · exact absurd h0 (by decide)
def wp {α : Type} (P : Nat -> Bool) (x : α) (f : Nat -> α) (t j : Nat) : α := if j / 2 < t /\ P (j / 2) = false then x else f j
theorem wp_zero {α : Type} (P : Nat -> Bool) (x : α) (f : Nat -> α) : wp P x f 0 = f := funext fun _ => if_neg fun h => absurd h.1 (Nat.not_lt_zero _)
theorem wp_left {α : Type} {P : Nat -> Bool} {x : α} {f : Nat -> α} {t j : Nat} (h : P (j / 2) = true) : wp P x f t j = f j := if_neg fun e => by rw [h] at e; exact absurd e.2 (by decide)
theorem wp_gone {α : Type} {P : Nat -> Bool} {x : α} {f : Nat -> α} {t j : Nat} (h : P (j / 2) = false) (hj : j / 2 < t) : wp P x f t j = x := if_pos ⟨hj, h⟩
theorem wp_skip {α : Type} {P : Nat -> Bool} {x : α} {f : Nat -> α} {t : Nat} (h : P t = true) : wp P x f (t + 1) = wp P x f t := funext fun j => by
  unfold wp
  by_cases e : j / 2 = t
  · rw [if_neg (fun a => by rw [e, h] at a; exact absurd a.2 (by decide)), if_neg (fun a => by omega)]
  · by_cases g : j / 2 < t /\ P (j / 2) = false
    · rw [if_pos g, if_pos ⟨by omega, g.2⟩]
    · rw [if_neg g, if_neg (fun a => g ⟨by omega, a.2⟩)]
theorem wp_take {α : Type} {P : Nat -> Bool} {x : α} {f : Nat -> α} {t : Nat} (h : P t = false) : wp P x f (t + 1) = Cod.put (t * 2 + 1) x (Cod.put (t * 2) x (wp P x f t)) := funext fun j => by
  by_cases e1 : j = t * 2 + 1
  · rw [e1, Cod.put_at, wp_gone (by rw [show (t * 2 + 1) / 2 = t by omega]; exact h) (by omega)]
  · rw [Cod.put_ne _ _ e1]
    by_cases e2 : j = t * 2
    · rw [e2, Cod.put_at, wp_gone (by rw [show t * 2 / 2 = t by omega]; exact h) (by omega)]
    · rw [Cod.put_ne _ _ e2]
      unfold wp
      by_cases g : j / 2 < t /\ P (j / 2) = false
      · rw [if_pos g, if_pos ⟨by omega, g.2⟩]
      · rw [if_neg g, if_neg (fun a => g ⟨by omega, a.2⟩)]
theorem wp_bec {w w' : World} {n : Nat} {P : Nat -> Bool} {A : Nat -> Option Addr} {L C : Nat -> Nat} {F : Nat -> Nat -> UInt8} (h : ∀ j, j < 2 * n -> Bec w (A j) (L j) (C j) (F j)) (hb : Below w.heap.size w w') (t : Nat) : ∀ j, j < 2 * n -> Bec w' (wp P none A t j) (wp P 0 L t j) (wp P 0 C t j) (F j) := fun j hj => by
  by_cases g : j / 2 < t /\ P (j / 2) = false
  · rw [wp_gone g.2 g.1, wp_gone g.2 g.1, wp_gone g.2 g.1]; exact bec_nil _ _
  · unfold wp; rw [if_neg g, if_neg g, if_neg g]; exact (h j hj).below hb
end Go.Proofs.YtdmpiipllmjloaaGreat
namespace Go.Proofs.YtdmpiipllmjloaaGreat.Cn
def dl (p : Nat -> Bool) : Nat -> List Int
  | 0 => []
  | n + 1 => if p n = true then dl p n ++ [(n : Int)] else dl p n
theorem dl_congr {p q : Nat -> Bool} : ∀ {n : Nat}, (∀ i, i < n -> p i = q i) -> dl p n = dl q n
  | 0, _ => rfl
  | n + 1, h => by rw [dl, dl, dl_congr (n := n) (fun i hi => h i (by omega)), h n (by omega)]
theorem mem_dl {p : Nat -> Bool} {x : Int} : ∀ {n : Nat}, x ∈ dl p n ↔ ∃ i : Nat, i < n /\ p i = true /\ x = (i : Int)
  | 0 => ⟨fun h => absurd h (by simp [dl]), fun ⟨i, h, _⟩ => absurd h (by omega)⟩
  | n + 1 => by
    rw [dl]
    by_cases h : p n = true
    · rw [if_pos h, List.mem_append, mem_dl (n := n)]
      constructor
      · rintro (⟨i, h1, h2, h3⟩ | h1)
        · exact ⟨i, by omega, h2, h3⟩
        · exact ⟨n, by omega, h, by simpa using h1⟩
      · rintro ⟨i, h1, h2, h3⟩
        by_cases e : i = n
        · exact .inr (by rw [h3, e]; simp)
        · exact .inl ⟨i, by omega, h2, h3⟩
    · rw [if_neg h, mem_dl (n := n)]
      constructor
      · rintro ⟨i, h1, h2, h3⟩; exact ⟨i, by omega, h2, h3⟩
      · rintro ⟨i, h1, h2, h3⟩
        by_cases e : i = n
        · rw [e] at h2; exact absurd h2 h
        · exact ⟨i, by omega, h2, h3⟩
theorem dl_both (p : Nat -> Bool) : ∀ n : Nat, (dl p n).length + (dl (fun i => !p i) n).length = n
  | 0 => rfl
  | n + 1 => by
    have := dl_both p n
    rw [dl, dl]
    cases h : p n
    · simp; omega
    · simp; omega
theorem dl_few (p : Nat -> Bool) (n : Nat) : (dl p n).length <= n := by have := dl_both p n; omega
theorem dl_sub {p q : Nat -> Bool} : ∀ {n : Nat}, (∀ i, i < n -> p i = true -> q i = true) -> (dl p n).length <= (dl q n).length
  | 0, _ => Nat.le_refl _
  | n + 1, h => by
    have ih := dl_sub (n := n) (fun i hi => h i (by omega))
    rw [dl, dl]
    by_cases hp : p n = true
    · rw [if_pos hp, if_pos (h n (by omega) hp)]; simp; omega
    · rw [if_neg hp]
      split
      · simp; omega
      · exact ih
theorem dl_empty {p : Nat -> Bool} {n : Nat} (h : ∀ i, i < n -> p i = false) : dl p n = [] := by
  apply List.eq_nil_iff_forall_not_mem.2
  intro x hx
  obtain ⟨i, h1, h2, _⟩ := mem_dl.1 hx
  rw [h i h1] at h2
  cases h2
theorem dl_nil {p : Nat -> Bool} {n : Nat} (h : (dl p n).length = 0) {i : Nat} (hi : i < n) : p i = false := by
  cases hp : p i
  · rfl
  · have hm : ((i : Nat) : Int) ∈ dl p n := mem_dl.2 ⟨i, hi, hp, rfl⟩
    rw [List.length_eq_zero_iff.1 h] at hm
    cases hm
def hbv (P Q : Nat -> Int) (v : Int) (d : Nat) : Bool := decide (P d = v \/ Q d = v)
def dv (P Q : Nat -> Int) (n : Nat) (v : Int) : List Int := dl (hbv P Q v) n
def ct (P Q : Nat -> Int) (n : Nat) (v : Int) : Nat := (dv P Q n v).length
def insD (x : Int) : List Int -> List Int
  | [] => [x]
  | y :: l => if y < x then x :: y :: l else if x = y then y :: l else y :: insD x l
theorem mem_insD {x z : Int} : ∀ {l : List Int}, z ∈ insD x l ↔ z = x \/ z ∈ l
  | [] => by simp [insD]
  | y :: l => by
    rw [insD]
    by_cases h : y < x
    · rw [if_pos h]; simp
    · rw [if_neg h]
      by_cases e : x = y
      · rw [if_pos e]; simp [e]
      · rw [if_neg e, List.mem_cons, mem_insD (l := l), List.mem_cons]
        constructor
        · rintro (h1 | h1 | h1); exact .inr (.inl h1); exact .inl h1; exact .inr (.inr h1)
        · rintro (h1 | h1 | h1); exact .inr (.inl h1); exact .inl h1; exact .inr (.inr h1)
theorem fall_insD {x : Int} : ∀ {l : List Int}, l.Pairwise (fun a b => b < a) -> (insD x l).Pairwise (fun a b => b < a)
  | [], _ => List.pairwise_singleton _ _
  | y :: l, h => by
    rw [insD]
    obtain ⟨h1, h2⟩ := List.pairwise_cons.1 h
    by_cases g : y < x
    · rw [if_pos g]
      refine List.pairwise_cons.2 ⟨fun a ha => ?_, h⟩
      rcases List.mem_cons.1 ha with rfl | ha
      · exact g
      · have := h1 a ha; omega
    · rw [if_neg g]
      by_cases e : x = y
      · rw [if_pos e]; exact h
      · rw [if_neg e]
        refine List.pairwise_cons.2 ⟨fun a ha => ?_, fall_insD h2⟩
        rcases mem_insD.1 ha with rfl | ha
        · omega
        · exact h1 a ha
def tvL (P Q : Nat -> Int) : Nat -> List Int
  | 0 => []
  | n + 1 =>
    let l := if P n = 0 then tvL P Q n else insD (P n) (tvL P Q n)
    if Q n = 0 then l else insD (Q n) l
theorem tvL_fall (P Q : Nat -> Int) : ∀ n : Nat, (tvL P Q n).Pairwise (fun a b => b < a)
  | 0 => List.Pairwise.nil
  | n + 1 => by
    have ih := tvL_fall P Q n
    rw [tvL]
    split <;> split
    · exact ih
    · exact fall_insD ih
    · exact fall_insD ih
    · exact fall_insD (fall_insD ih)
theorem mem_tvL {P Q : Nat -> Int} {v : Int} : ∀ {n : Nat}, v ∈ tvL P Q n ↔ v ≠ 0 /\ ∃ d, d < n /\ (P d = v \/ Q d = v)
  | 0 => ⟨fun h => absurd h (by simp [tvL]), fun ⟨_, d, h, _⟩ => absurd h (by omega)⟩
  | n + 1 => by
    have ih := mem_tvL (P := P) (Q := Q) (v := v) (n := n)
    have key : v ∈ tvL P Q (n + 1) ↔ v ∈ tvL P Q n \/ (v ≠ 0 /\ (P n = v \/ Q n = v)) := by
      rw [tvL]
      by_cases a : P n = 0 <;> by_cases b : Q n = 0
      · rw [if_pos b, if_pos a]
        constructor
        · exact .inl
        · rintro (h | ⟨h, h2 | h2⟩)
          · exact h
          · omega
          · omega
      · rw [if_neg b, if_pos a, mem_insD]
        constructor
        · rintro (h | h); exact .inr ⟨by omega, .inr h.symm⟩; exact .inl h
        · rintro (h | ⟨h, h2 | h2⟩)
          · exact .inr h
          · omega
          · exact .inl h2.symm
      · rw [if_pos b, if_neg a, mem_insD]
        constructor
        · rintro (h | h); exact .inr ⟨by omega, .inl h.symm⟩; exact .inl h
        · rintro (h | ⟨h, h2 | h2⟩)
          · exact .inr h
          · exact .inl h2.symm
          · omega
      · rw [if_neg b, if_neg a, mem_insD, mem_insD]
        constructor
        · rintro (h | h | h); exact .inr ⟨by omega, .inr h.symm⟩; exact .inr ⟨by omega, .inl h.symm⟩; exact .inl h
        · rintro (h | ⟨h, h2 | h2⟩)
          · exact .inr (.inr h)
          · exact .inr (.inl h2.symm)
          · exact .inl h2.symm
    rw [key, ih]
    constructor
    · rintro (⟨h, d, h1, h2⟩ | ⟨h, h2⟩)
      · exact ⟨h, d, by omega, h2⟩
      · exact ⟨h, n, by omega, h2⟩
    · rintro ⟨h, d, h1, h2⟩
      by_cases e : d = n
      · exact .inr ⟨h, by rw [<- e]; exact h2⟩
      · exact .inl ⟨h, d, by omega, h2⟩
theorem mem_tv {P Q : Nat -> Int} {v : Int} {n : Nat} : v ∈ tvL P Q n ↔ v ≠ 0 /\ dv P Q n v ≠ [] := by
  rw [mem_tvL]
  refine and_congr_right fun _ => ?_
  constructor
  · rintro ⟨d, h1, h2⟩ e
    have hm : ((d : Nat) : Int) ∈ dv P Q n v := mem_dl.2 ⟨d, h1, decide_eq_true h2, rfl⟩
    rw [e] at hm; cases hm
  · intro e
    obtain ⟨x, hx⟩ := List.exists_mem_of_ne_nil _ e
    obtain ⟨d, h1, h2, _⟩ := mem_dl.1 hx
    exact ⟨d, h1, of_decide_eq_true h2⟩
theorem fall_eq : ∀ {l m : List Int}, l.Pairwise (fun a b => b < a) -> m.Pairwise (fun a b => b < a) -> (∀ v, v ∈ l ↔ v ∈ m) -> l = m
  | [], [], _, _, _ => rfl
  | [], b :: m, _, _, h => absurd ((h b).2 (by simp)) (by simp)
  | a :: l, [], _, _, h => absurd ((h a).1 (by simp)) (by simp)
  | a :: l, b :: m, h1, h2, h => by
    obtain ⟨p1, p2⟩ := List.pairwise_cons.1 h1
    obtain ⟨q1, q2⟩ := List.pairwise_cons.1 h2
    have e : a = b := by
      rcases List.mem_cons.1 ((h a).1 (by simp)) with e | e
      · exact e
      · rcases List.mem_cons.1 ((h b).2 (by simp)) with e2 | e2
        · exact e2.symm
        · have := q1 a e; have := p1 b e2; omega
    subst e
    rw [fall_eq p2 q2 (fun v => ?_)]
    constructor
    · intro hv
      rcases List.mem_cons.1 ((h v).1 (List.mem_cons_of_mem _ hv)) with e | e
      · have := p1 v hv; omega
      · exact e
    · intro hv
      rcases List.mem_cons.1 ((h v).2 (List.mem_cons_of_mem _ hv)) with e | e
      · have := q1 v hv; omega
      · exact e
theorem tvL_few (P Q : Nat -> Int) : ∀ n : Nat, (tvL P Q n).length <= 2 * n := by
  have hi : ∀ (x : Int) (l : List Int), (insD x l).length <= l.length + 1 := by
    intro x l
    induction l with
    | nil => simp [insD]
    | cons y l ih =>
      rw [insD]
      split
      · simp
      · split
        · simp
        · simp; omega
  intro n
  induction n with
  | zero => simp [tvL]
  | succ n ih =>
    rw [tvL]
    have h1 := hi (P n) (tvL P Q n)
    split <;> split
    · omega
    · omega
    · have h2 := hi (Q n) (tvL P Q n); omega
    · have h2 := hi (Q n) (insD (P n) (tvL P Q n)); omega
def enB (K : Int) (P Q : Nat -> Int) (n : Nat) (v : Int) : Bool := decide (K <= (ct P Q n v : Int))
def wins (K : Int) (P Q : Nat -> Int) (n : Nat) : List Int := (tvL P Q n).filter (enB K P Q n)
end Go.Proofs.YtdmpiipllmjloaaGreat.Cn
