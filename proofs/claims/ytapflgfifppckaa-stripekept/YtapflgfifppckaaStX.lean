/- The walk of the statement that the version that is kept stays while a whole stripe is written. -/
import Derived.Test.YtapflgfifppckaaStW
namespace Go.Proofs.Ytapflgfifppckaa
open Go.RowKit

theorem osl_lt {N : Nat} {c : Int} {L : Nat → Nat} {F : Nat → Nat → UInt8} {kd : UInt8} {ke : Int} (i : Nat) : osl N c L F kd ke i < 2 := oN_lt _ _ _ _
/-- Behind n of the raw writes of a whole stripe. -/
theorem kept_n {N n : Nat} {c : Int} {k : Int} {kd : UInt8} {ke v : Int} {L : Nat → Nat} {F : Nat → Nat → UInt8} {D : Nat → UInt8} (hN : N ≤ 16) (hc : 8 ≤ c) (hk : kd = 1 ∨ kd = 2) (hv : 1 ≤ v ∧ v ≤ 1073741824) (hne : ke ≠ v) (hab : abB N c L F v = true) (hon : ∀ i, i < N → ¬ twB N c L F kd i) (hn : n ≤ N) :
    (∀ i, i < N → zv N c (bP (fun _ => c.toNat) (osl N c L F kd ke) N L (fun _ => sz N c) n) (bP (fun _ => c.toNat) (osl N c L F kd ke) N F (fun i => enc (slC kd N (fun _ => v) c.toNat (dH k.toNat c.toNat D i) i)) n) kd ke i = zv N c L F kd ke i) ∧ (∀ i, i < N → (i < n → New N c kd v (fun _ => v) (dH k.toNat c.toNat D) i (zv N c (bP (fun _ => c.toNat) (osl N c L F kd ke) N L (fun _ => sz N c) n) (bP (fun _ => c.toNat) (osl N c L F kd ke) N F (fun i => enc (slC kd N (fun _ => v) c.toNat (dH k.toNat c.toNat D i) i)) n) kd v i)) ∧ (¬ i < n → zv N c (bP (fun _ => c.toNat) (osl N c L F kd ke) N L (fun _ => sz N c) n) (bP (fun _ => c.toNat) (osl N c L F kd ke) N F (fun i => enc (slC kd N (fun _ => v) c.toNat (dH k.toNat c.toNat D i) i)) n) kd v i = zSl)) := by
  obtain ⟨g1, g2⟩ := full_yy (n := n) (L := L) (F := F) (os := osl N c L F kd ke) (D := dH k.toNat c.toNat D) hN hc hk hv osl_lt hn
  obtain ⟨Y, hY⟩ : ∃ Y, Y = yy N c L F := ⟨_, rfl⟩
  obtain ⟨Y', hY'⟩ : ∃ Y', Y' = yy N c (bP (fun _ => c.toNat) (osl N c L F kd ke) N L (fun _ => sz N c) n) (bP (fun _ => c.toNat) (osl N c L F kd ke) N F (fun i => enc (slC kd N (fun _ => v) c.toNat (dH k.toNat c.toNat D i) i)) n) := ⟨_, rfl⟩
  have oY : OkY N c Y := by rw [hY]; exact yy_ok _ _ _ _
  have oY' : OkY N c Y' := by rw [hY']; exact yy_ok _ _ _ _
  rw [← hY'] at g1
  simp only [← hY', ← hY] at g2
  have hst : ∀ j, j < 2 * N → (Y j).st < v := fun j hj => by rw [hY]; exact above_st hab hv.1 hj
  obtain ⟨t, ht⟩ : ∃ t, t = tS Y kd ke (2 * N) := ⟨_, rfl⟩
  have hso : ∀ i, osl N c L F kd ke i = oN (Y (2 * i)) (Y (2 * i + 1)) kd (zz Y kd t i).ce := fun i => by rw [ht, hY]; rfl
  have htv : ∀ i, i < N → t.V i ≠ v := fun i hi => by
    rcases tS_is (v := ke) hk oY (2 * N) (Nat.le_refl _) with ⟨a, _⟩ | ⟨j, a1, a2, _, a4, _⟩
    · rw [ht, a]; show (0 : Int) ≠ v; omega
    · rw [ht, a2]
      have h1 := hst j a1
      have h2 := mx_leq (R := (Y j).V) (n := N) (i := i) hi
      rw [← (ok_of a4.1).st] at h2
      omega
  have hK := kept (v := ke) hk oY (by rw [hY]; exact once_of hk hon) ht.symm (Y' := Y') ⟨fun i hi => by
    by_cases e : i < n
    · have ho := osl_lt (N := N) (c := c) (L := L) (F := F) (kd := kd) (ke := ke) i
      refine .inr ⟨osl N c L F kd ke i, by omega, hso i, ?_, ?_, ?_⟩
      · exact g2 _ (.inr (by rw [show (2 * i + (1 - osl N c L F kd ke i)) / 2 = i by omega]; omega))
      · exact decide_eq_false fun a => hne (by rw [← a.2]; exact (g1 i e).st)
      · rw [(g1 i e).ce]; exact fun a => htv i hi a.symm
    · exact .inl ⟨g2 _ (.inl (by omega)), g2 _ (.inl (by omega))⟩⟩
  have hF := fresh (G := dH k.toNat c.toNat D) (P := fun i => decide (i < n)) hk hv.1 oY' ⟨fun i hi e => by
    have e := of_decide_eq_true e
    have ho := osl_lt (N := N) (c := c) (L := L) (F := F) (kd := kd) (ke := ke) i
    refine ⟨osl N c L F kd ke i, by omega, g1 i e, ?_⟩
    rw [g2 _ (.inr (by rw [show (2 * i + (1 - osl N c L F kd ke i)) / 2 = i by omega]; omega))]
    exact hst _ (by omega), fun i hi e => by
    have e := of_decide_eq_false e
    rw [g2 _ (.inl (by omega)), g2 _ (.inl (by omega))]
    exact ⟨hst _ (by omega), hst _ (by omega)⟩⟩
  refine ⟨fun i hi => ?_, fun i hi => ⟨fun e => ?_, fun e => ?_⟩⟩
  · unfold zv
    rw [← hY', hK.1, hK.2 i hi, ht, hY]
  · unfold zv; rw [← hY']; exact (hF i hi).1 (decide_eq_true e)
  · unfold zv; rw [← hY']; exact (hF i hi).2 (decide_eq_false e)
theorem row_n {N n : Nat} {c : Int} {L os : Nat → Nat} (Lc : Nat → Nat) (hL : ∀ j, j < 2 * N → L j = 0 ∨ L j = sz N c) : ∀ t j, j < 2 * N → bP Lc os n L (fun _ => sz N c) t j = 0 ∨ bP Lc os n L (fun _ => sz N c) t j = sz N c
  | 0, j, hj => hL j hj
  | t + 1, j, hj => by
    rw [bP]
    by_cases e : j = 2 * Cod.sel Lc n t + os (Cod.sel Lc n t)
    · rw [e, Cod.put_at]; exact .inr rfl
    · rw [Cod.put_ne _ _ e]; exact row_n Lc hL t j hj
theorem erK_ok {N : Nat} {c : Int} {L : Nat → Nat} {kd : UInt8} {v : Int} (hL : ∀ j, j < 2 * N → L j = 0 ∨ L j = sz N c) (hk : kd = 1 ∨ kd = 2) (hv : 1 ≤ v ∧ v ≤ 1073741824) : erK 0 N c N L kd v = 0 := by
  have h1 : erR 0 N c N L = 0 := by unfold erR; rw [if_pos rfl, if_pos ⟨rfl, hL⟩]
  unfold erK; rw [if_pos h1, if_pos ⟨hk, hv⟩]
theorem str_ne (X : List UInt8) : ((sOf X).toList != (sOf X).toList) = false := by simp
end Go.Proofs.Ytapflgfifppckaa
