/- Missing cells that are mended: what is held then, and read. -/
import Derived.Test.YtapflgfifppckaaStX
namespace Go.Proofs.Ytapflgfifppckaa
open Go.RowKit

theorem erD_zero {E : Int} {n W : Nat} (h : erD E n W = 0) : E = 0 ∧ n = W := by
  unfold erD at h
  by_cases e : E = 0
  · rw [if_pos e] at h
    by_cases g : n = W
    · exact ⟨e, g⟩
    · rw [if_neg g] at h; exact absurd h (by decide)
  · rw [if_neg e] at h; exact absurd h e
/-- What parameters that may be come to. -/
theorem Par.nums {k r c q : Int} {N W : Nat} (h : Par k r c q N W 0) : ∃ K m : Nat, k = (K : Int) ∧ c = (m : Int) ∧ 1 ≤ K ∧ K ≤ 12 ∧ K ≤ N ∧ N ≤ 16 ∧ 8 ≤ m ∧ m ≤ 64 ∧ W = K * m := by
  have hle := h.le
  rcases h with ⟨hm, hW, hN, _⟩ | ⟨_, _, _, h0⟩
  · obtain ⟨h1, h2, h3, h4, h5, h6, h7, h8, h9⟩ := may_true hm
    obtain ⟨K, rfl⟩ := Int.eq_ofNat_of_zero_le (show 0 ≤ k by omega)
    obtain ⟨m, rfl⟩ := Int.eq_ofNat_of_zero_le (show 0 ≤ c by omega)
    refine ⟨K, m, rfl, rfl, by omega, by omega, by omega, hle, by omega, by omega, ?_⟩
    rw [← Int.natCast_mul] at hW; omega
  · exact absurd h0 (by decide)
theorem lenE_z {E : Int} {n m : Nat} {b : Nat} (h : b < lenE E n) (hm : n = m) : E = 0 ∧ b < m := by
  unfold lenE at h
  by_cases e : E = 0
  · rw [if_pos e] at h; exact ⟨e, by omega⟩
  · rw [if_neg e] at h; omega
theorem cnt_mis {z : Nat → Sl} {m : Nat} (hm : m ≠ 0) : ∀ N, Cod.cnt (mis z m) N + ct z N = N
  | 0 => rfl
  | N + 1 => by
    have ih := cnt_mis (z := z) hm N
    unfold ct at ih ⊢
    by_cases e : (z N).ce = 0
    · rw [Cod.cnt_take (show mis z m N ≠ 0 by unfold mis; rw [if_pos e]; exact hm), Cod.cnt_skip (show lz z N = 0 from if_pos e)]; omega
    · rw [Cod.cnt_skip (show mis z m N = 0 by unfold mis; rw [if_neg e]), Cod.cnt_take (show lz z N ≠ 0 by unfold lz; rw [if_neg e]; decide)]; omega
/-- Behind the raw writes of what is missing. -/
theorem mend_n {N K : Nat} {c : Int} {kd : UInt8} {v : Int} {L : Nat → Nat} {F : Nat → Nat → UInt8} {os : Nat → Nat} {z : Nat → Sl} {t : Sl} (hN : N ≤ 16) (hc : 8 ≤ c) (hk : kd = 1 ∨ kd = 2) (hos : ∀ i, os i < 2) (hz : z = zv N c L F kd v) (ht : t = tS (yy N c L F) kd v (2 * N)) (h0 : t.ce ≠ 0) :
    ∀ i, i < N → ((z i).ce ≠ 0 → zv N c (bP (mis z c.toNat) os N L (fun _ => sz N c) (Cod.cnt (mis z c.toNat) N)) (bP (mis z c.toNat) os N F (fun i => enc (slC kd N t.V c.toNat (cH K z N i) i)) (Cod.cnt (mis z c.toNat) N)) kd v i = z i) ∧ ((z i).ce = 0 → New N c kd v t.V (cH K z N) i (zv N c (bP (mis z c.toNat) os N L (fun _ => sz N c) (Cod.cnt (mis z c.toNat) N)) (bP (mis z c.toNat) os N F (fun i => enc (slC kd N t.V c.toNat (cH K z N i) i)) (Cod.cnt (mis z c.toNat) N)) kd v i)) := by
  have hS := Cod.sel_is (mis z c.toNat) N
  obtain ⟨Y', hY'⟩ : ∃ Y', Y' = yy N c (bP (mis z c.toNat) os N L (fun _ => sz N c) (Cod.cnt (mis z c.toNat) N)) (bP (mis z c.toNat) os N F (fun i => enc (slC kd N t.V c.toNat (cH K z N i) i)) (Cod.cnt (mis z c.toNat) N)) := ⟨_, rfl⟩
  have hzt : ∀ i, z i = zz (yy N c L F) kd t i := fun i => by rw [hz, ht]; rfl
  obtain ⟨hok, hst⟩ : okS N c t = true ∧ t.st = v := by
    rcases tS_is (v := v) hk (yy_ok N c L F) (2 * N) (Nat.le_refl _) with ⟨a, _⟩ | ⟨j, _, a2, a3, a4, _⟩
    · rw [← ht] at a; rw [a] at h0; exact absurd rfl h0
    · rw [← ht] at a2; rw [a2]; exact ⟨a4.1, (of_decide_eq_true a3).2⟩
  have hout : ∀ j, (∀ s, s < Cod.cnt (mis z c.toNat) N → 2 * Cod.sel (mis z c.toNat) N s + os (Cod.sel (mis z c.toNat) N s) ≠ j) → Y' j = yy N c L F j := fun j hj => by
    rw [hY']; exact yy_congr (bP_out hj) (bP_out hj)
  have hM : Mnd N c kd v (cH K z N) (yy N c L F) Y' t := ⟨fun i hi e => by
      have key : ∀ j, j / 2 = i → Y' j = yy N c L F j := fun j hj => hout j fun s hs e1 => by
        have h1 := hos (Cod.sel (mis z c.toNat) N s)
        have h2 : Cod.sel (mis z c.toNat) N s = i := by omega
        have h3 := hS.there s hs
        rw [h2] at h3
        apply h3
        unfold mis
        rw [if_neg (by rw [hzt]; exact e)]
      exact ⟨key _ (by omega), key _ (by omega)⟩, fun i hi e => by
      have hne : mis z c.toNat i ≠ 0 := by unfold mis; rw [if_pos (by rw [hzt]; exact e)]; omega
      obtain ⟨s, hs, hsi⟩ := hS.all i hi hne
      have ho := hos i
      refine ⟨os i, by omega, hout _ fun s' hs' e1 => ?_, ?_⟩
      · have h1 := hos (Cod.sel (mis z c.toNat) N s')
        have h2 : Cod.sel (mis z c.toNat) N s' = i := by omega
        rw [h2] at e1
        omega
      · have i1 := bP_in (Lc := mis z c.toNat) (N := N) (f := L) (g := fun _ => sz N c) hos (Nat.le_refl _) hs
        have i2 := bP_in (Lc := mis z c.toNat) (N := N) (f := F) (g := fun i => enc (slC kd N t.V c.toNat (cH K z N i) i)) hos (Nat.le_refl _) hs
        rw [hsi] at i1 i2
        rw [hY']
        unfold yy
        rw [i1, i2, show (2 * i + os i) / 2 = i by omega]
        have := new_of (G := cH K z N) hN (by omega) hk (ok_of hok).V hi (F := enc (slC kd N t.V c.toNat (cH K z N i) i)) (fun _ _ => rfl)
        rw [← (ok_of hok).st, hst] at this
        exact this⟩
  have hm := mended hk (yy_ok N c L F) (by rw [hY']; exact yy_ok _ _ _ _) ht.symm h0 hM
  intro i hi
  obtain ⟨m1, m2⟩ := hm i hi
  unfold zv
  rw [← hY']
  refine ⟨fun e => ?_, fun e => ?_⟩
  · rw [hzt] at e ⊢; exact m1 e
  · rw [hzt] at e; exact m2 e
/-- What is read of mended cells is what was read. -/
theorem mend_rd {N K m : Nat} {c : Int} {kd : UInt8} {v : Int} {X : Nat → Int} {z z' : Nat → Sl} (hK : K ≤ 12) (hKN : K ≤ N) (hN : N ≤ 16) (hm : m = c.toNat) (hm0 : 0 < m) (hz : Zok N c z) (hE : erL K z N = 0) (h : ∀ i, i < N → ((z i).ce ≠ 0 → z' i = z i) ∧ ((z i).ce = 0 → New N c kd v X (cH K z N) i (z' i))) :
    ct z' N = N ∧ (∀ i, i < N → (z' i).ce ≠ 0) ∧ erL K z' N = 0 ∧ ∀ b, b < K * m → cat2 m (cH K z' N) b = cat2 m (cH K z N) b := by
  have hall : ∀ i, i < N → (z' i).ce ≠ 0 := fun i hi => by
    by_cases e : (z i).ce = 0
    · exact new_ne ((h i hi).2 e)
    · rw [(h i hi).1 e]; exact e
  have hLz : ∀ i, i < N → Lz z' i ≠ 0 := fun i hi => by
    unfold Lz
    by_cases e : (z i).ce = 0
    · have := (ok_of ((h i hi).2 e).is.1).dn; omega
    · rw [(h i hi).1 e]
      rcases hz.dn i hi with ⟨a, _⟩ | ⟨_, a⟩
      · exact absurd a e
      · rw [a]; omega
  have hk : K ≤ Cod.cnt (Lz z) N := by
    unfold erL at hE
    by_cases g : K ≤ Cod.cnt (Lz z) N
    · exact g
    · rw [if_neg g] at hE; exact absurd hE (by decide)
  have hS := Cod.sel_is (Lz z) N
  refine ⟨?_, hall, ?_, fun b hb => ?_⟩
  · unfold ct; exact Cod.cnt_full (fun i hi => by unfold lz; rw [if_neg (hall i hi)]; decide)
  · unfold erL; rw [Cod.cnt_full hLz, if_pos hKN]
  · have hi : b / m < K := Nat.div_lt_of_lt_mul (by rw [Nat.mul_comm]; exact hb)
    have hbm : b % m < m := Nat.mod_lt _ hm0
    unfold cat2
    have hsel : ∀ t, t < N → Cod.sel (Lz z') N t = t := sel_full hLz
    have e1 : cH K z' N (b / m) (b % m) = (z' (b / m)).D (b % m) := by
      unfold cH cD
      rw [Cod.enc_data _ hi]
      have := Cod.dec_there (n := N) (R := Cod.sel (Lz z') N) (Hz z') hK hN (fun t ht => by rw [hsel t (by omega)]; omega) (fun t t' h1 h2 => by rw [hsel t (by omega), hsel t' (by omega)]; exact h1) (b / m) (b % m) hi (by rw [hsel _ (by omega)]; exact hi)
      rw [hsel _ (by omega)] at this
      rw [this]
      unfold Hz
      rw [bK_toK]
    rw [e1]
    by_cases e : (z (b / m)).ce = 0
    · exact ((h _ (by omega)).2 e).D (b % m) (by rw [← hm]; exact hbm)
    · rw [(h _ (by omega)).1 e]
      have hl : Lz z (b / m) ≠ 0 := by
        unfold Lz
        rcases hz.dn (b / m) (by omega) with ⟨a, _⟩ | ⟨_, a⟩
        · exact absurd a e
        · rw [a]; omega
      obtain ⟨t, ht, hti⟩ := hS.all (b / m) (by omega) hl
      have hge := hS.ge t ht
      unfold cH cD
      rw [Cod.enc_data _ hi]
      have := Cod.dec_there (n := N) (R := Cod.sel (Lz z) N) (Hz z) hK hN (fun t ht => hS.lt t (by omega)) (fun t t' h1 h2 => hS.rise t t' h1 (by omega)) t (b % m) (by omega) (by rw [hti]; exact hi)
      rw [hti] at this
      rw [this]
      unfold Hz
      rw [bK_toK]
end Go.Proofs.Ytapflgfifppckaa
