/- What rows hold behind raw writes. -/
import Derived.Test.YtfhefbbhlmdjkaaGreatStU
namespace Go.Proofs.YtfhefbbhlmdjkaaGreat
open Go.RowKit
theorem mx_const {v : Int} (hv : 1 ≤ v) : ∀ {n : Nat}, 0 < n → mx (fun _ => v) n = v
  | 0, h => absurd h (by omega)
  | 1, _ => by rw [mx, mx, gr]; split <;> omega
  | n + 2, _ => by rw [mx, mx_const hv (n := n + 1) (by omega), gr]; split <;> omega
/-- Bytes of a slot are read as that slot. -/
theorem new_of {N : Nat} {c : Int} {kd : UInt8} {X : Nat → Int} {G : Nat → Nat → UInt8} {i : Nat} {F : Nat → UInt8} (hN : N ≤ 16) (hc : 0 ≤ c) (hk : kd = 1 ∨ kd = 2) (hX : ∀ j, j < N → 1 ≤ X j ∧ X j ≤ 1073741824) (hi : i < N) (hF : ∀ j, j < sz N c → F j = enc (slC kd N X c.toNat (G i) i) j) : New N c kd (mx X N) X G i (he 0 N c (i : Int) (sz N c) F) := by
  have hok := (slC_ok (G := G i) hk hX hi hc).ok
  have his := is_enc hN hok rfl hF
  have hs := dec_enc hN hok hF
  obtain ⟨s1, s2, s3, s4, s5, s6, s7, s8⟩ := sameS_true hs
  have hh : he 0 N c (i : Int) (sz N c) F = dec N c F := by
    unfold he ofI slQ
    rw [if_pos rfl, his, if_pos rfl, if_pos (show (dec N c F).ix = (i : Int) from s2)]
  rw [hh]
  refine ⟨⟨okS_same (sameS_symm hs) hok, s2⟩, s1, s4, fun l hl => s7 l (by rw [s5]; exact hl), fun b hb => s8 b (by rw [s6]; exact hb)⟩
theorem yy_congr {N : Nat} {c : Int} {L L' : Nat → Nat} {F F' : Nat → Nat → UInt8} {j : Nat} (h1 : L' j = L j) (h2 : F' j = F j) : yy N c L' F' j = yy N c L F j := by unfold yy; rw [h1, h2]
/-- How many are there. -/
theorem ct_of {N : Nat} {z : Nat → Sl} {P : Nat → Bool} (h : ∀ i, i < N → ((z i).ce = 0 ↔ P i = false)) : ct z N = Cod.cnt (fun i => if P i = true then 1 else 0) N := by
  have := Cod.cnt_congr (L := lz z) (L' := fun i => if P i = true then 1 else 0) (n := N) (fun i hi => by
    have hh := h i hi
    unfold lz
    by_cases e : (z i).ce = 0
    · rw [if_pos e]; simp only [hh.1 e]; simp
    · rw [if_neg e]
      have : P i = true := by cases q : P i; exact absurd (hh.2 q) e; rfl
      simp only [this]; simp)
  unfold ct Cod.cnt; rw [this]
theorem cnt_below {N n : Nat} (h : n ≤ N) : Cod.cnt (fun i => if decide (i < n) = true then 1 else 0) N = n := by
  induction N with
  | zero => show 0 = n; omega
  | succ N ih =>
    by_cases e : N < n
    · rw [Cod.cnt_take (by simp [e])]
      have hn : n = N + 1 := by omega
      subst hn
      rw [Cod.cnt_full (fun i hi => by simp; omega)]
    · rw [Cod.cnt_skip (by simp [e])]; exact ih (by omega)
/-- What is read hangs on what is held alone. -/
theorem rd_congr {N K : Nat} {z z' : Nat → Sl} (h : ∀ i, i < N → z' i = z i) : erL K z' N = erL K z N ∧ (erL K z N = 0 → ∀ i b, cH K z' N i b = cH K z N i b) ∧ ct z' N = ct z N := by
  have hs := Cod.cnt_congr (L := Lz z') (L' := Lz z) (n := N) (fun i hi => by unfold Lz; rw [h i hi])
  have hs2 := Cod.cnt_congr (L := lz z') (L' := lz z) (n := N) (fun i hi => by unfold lz; rw [h i hi])
  have hc : Cod.cnt (Lz z') N = Cod.cnt (Lz z) N := by unfold Cod.cnt; rw [hs]
  have hl : Cod.sel (Lz z') N = Cod.sel (Lz z) N := by unfold Cod.sel; rw [hs]
  refine ⟨by unfold erL; rw [hc], fun e i b => ?_, by unfold ct Cod.cnt; rw [hs2]⟩
  have hk : K ≤ Cod.cnt (Lz z) N := by
    unfold erL at e
    by_cases g : K ≤ Cod.cnt (Lz z) N
    · exact g
    · rw [if_neg g] at e; exact absurd e (by decide)
  unfold cH cD
  rw [hl]
  congr 1
  refine Cod.enc_congr (fun j _ => Cod.dec_congr (fun t ht => ?_) j) i
  unfold Hz
  rw [h _ ((Cod.sel_is (Lz z) N).lt t (by omega))]
/-- From any K cells of a whole stripe its data are read. -/
theorem rd_new {N K m : Nat} {c : Int} {kd : UInt8} {v : Int} {X : Nat → Int} {D : Nat → UInt8} {z : Nat → Sl} (hK : K ≤ 12) (hN : N ≤ 16) (hm : m = c.toNat) (hm0 : 0 < m) (hz : ∀ i, i < N → z i = zSl ∨ New N c kd v X (dH K m D) i (z i)) (hE : erL K z N = 0) (b : Nat) (hb : b < K * m) : cat2 m (cH K z N) b = D b := by
  have hk : K ≤ Cod.cnt (Lz z) N := by
    unfold erL at hE
    by_cases g : K ≤ Cod.cnt (Lz z) N
    · exact g
    · rw [if_neg g] at hE; exact absurd hE (by decide)
  have hi : b / m < K := Nat.div_lt_of_lt_mul (by rw [Nat.mul_comm]; exact hb)
  have hbm : b % m < m := Nat.mod_lt _ hm0
  have hS := Cod.sel_is (Lz z) N
  unfold cat2 cH
  rw [Cod.enc_data _ hi]
  unfold cD
  rw [Cod.dec_enc (n := N) (Hz z) (dM m D) hK hN (fun t ht => hS.lt t (by omega)) (fun t t' h1 h2 => hS.rise t t' h1 (by omega)) (b % m) (fun t ht => ?_) (b / m) hi]
  · unfold dM
    rw [bK_toK, Nat.div_add_mod' b m]
  · have hl := hS.lt t (by omega)
    have hne := hS.there t (by omega)
    rcases hz _ hl with e | e
    · exact absurd (show Lz z (Cod.sel (Lz z) N t) = 0 from congrArg Sl.dn e) hne
    · unfold Hz
      rw [e.D (b % m) (by rw [← hm]; exact hbm)]
      unfold dH
      rw [toK_bK]
theorem new_ne {N : Nat} {c : Int} {kd : UInt8} {v : Int} {X : Nat → Int} {G : Nat → Nat → UInt8} {i : Nat} {y : Sl} (h : New N c kd v X G i y) : y.ce ≠ 0 := (ok_of h.is.1).ne
theorem erL_ct {N K : Nat} {c : Int} {z : Nat → Sl} (h : Zok N c z) (hc : 8 ≤ c) : erL K z N = if K ≤ ct z N then 0 else 5 := by unfold erL; rw [(cnt_ct h hc).1]
theorem osl_lt {N : Nat} {c : Int} {L : Nat → Nat} {F : Nat → Nat → UInt8} {kd : UInt8} {ke : Int} (i : Nat) : osl N c L F kd ke i < 2 := oN_lt _ _ _ _
theorem row_n {N n : Nat} {c : Int} {L os : Nat → Nat} (Lc : Nat → Nat) (hL : ∀ j, j < 2 * N → L j = 0 ∨ L j = sz N c) : ∀ t j, j < 2 * N → bP Lc os n L (fun _ => sz N c) t j = 0 ∨ bP Lc os n L (fun _ => sz N c) t j = sz N c
  | 0, j, hj => hL j hj
  | t + 1, j, hj => by
    rw [bP]
    by_cases e : j = 2 * Cod.sel Lc n t + os (Cod.sel Lc n t)
    · rw [e, Cod.put_at]; exact .inr rfl
    · rw [Cod.put_ne _ _ e]; exact row_n Lc hL t j hj
theorem erK_ok {N : Nat} {c : Int} {L : Nat → Nat} {kd : UInt8} {v : Int} (hL : ∀ j, j < 2 * N → L j = 0 ∨ L j = sz N c) (hk : kd = 1 ∨ kd = 2) (hv : 1 ≤ v ∧ v ≤ 1073741824) : erK 0 N c N L kd v = 0 := by
  have h1 : erR 0 N c N L = 0 := by unfold erR; rw [if_pos rfl, if_pos ⟨rfl, hL⟩]
  unfold erK; rw [if_pos h1, if_pos ⟨hk, hv⟩]
theorem str_ne (X : List UInt8) : ((sOf X).toList != (sOf X).toList) = false := by simp
end Go.Proofs.YtfhefbbhlmdjkaaGreat
