/- UpdateChanges, for whatever comes in. -/
import Derived.Test.YtdnflninbnjdhaaUpM
namespace Go.Proofs.Ytdnflninbnjdhaa
open Go.RowKit

theorem chs_zero {B : Nat} {w : World} {ao : Option Addr} {cap : Nat} {D : Nat → Int} {T : Nat → Option Addr} {L L' U : Nat → Nat} {H : Nat → Nat → UInt8} (h : Chs B w ao 0 cap D T L U H) : Chs B w ao 0 cap D T L' U H :=
  ⟨h.out, fun i hi => absurd hi (by omega), fun _ j _ hj => absurd hj (by omega)⟩
theorem chr_zero {B : Nat} {w : World} {ao : Option Addr} {cap : Nat} {D : Nat → Int} {T : Nat → Option Addr} {L L' U : Nat → Nat} {H : Nat → Nat → UInt8} (h : Chr B w ao 0 cap D T L U H) : Chr B w ao 0 cap D T L' U H :=
  ⟨h.out, fun i hi => absurd hi (by omega)⟩
theorem changes_law {k r c q : Int} {N W : Nat} {x : Int} (h : Par k r c q N W x) (w : World) (oo : Option Addr) (on oc : Nat) (O : Nat → UInt8) (hO : Bec w oo on oc O) (a : Int) (mo : Option Addr) (mn mc : Nat) (M : Nat → UInt8) (hM : Bec w mo mn mc M) :
    Calls Try.prog 3 #[.agg #[.int .i64 k, .int .i64 r, .int .i64 c, .int .i64 q], .slice oo on oc, .int .i64 a, .slice mo mn mc] w fun e w' => e = .returned (.bool true) ∧ Below w.heap.size w w' := by
  have e1 := fun u b1 c1 b2 c2 h1 h2 => Changes_any h u b1 on c1 O h1 a b2 mn c2 M h2 _ rfl
  have e2 := fun u b1 c1 b2 c2 h1 h2 => Unlike_any h u b1 on c1 O h1 b2 mn c2 M h2 _ rfl
  have e3 := fun u b1 c1 b2 c2 h1 h2 => RChanges_any h u b1 on c1 O h1 a b2 mn c2 M h2 _ rfl
  have e4 := fun u b1 c1 b2 c2 h1 h2 => RUnlike_any h u b1 on c1 O h1 b2 mn c2 M h2 _ rfl
  obtain ⟨E, hE⟩ : ∃ E, E = erCh x W on a mn := ⟨_, rfl⟩
  obtain ⟨G, hG⟩ : ∃ G, G = erUn x W on mn := ⟨_, rfl⟩
  rw [← hE] at e1 e3
  rw [← hG] at e2 e4
  by_cases hx : x = 0
  · have hcell : 8 ≤ c ∧ c ≤ 64 := h.cell hx
    have hk12 : k.toNat ≤ 12 := by
      rcases h with ⟨hm, _⟩ | ⟨_, _, _, h0⟩
      · obtain ⟨h1, h2, _⟩ := may_true hm; omega
      · omega
    have n1b : lenE E (nCh a.toNat mn c.toNat) ≤ 1000 := by
      by_cases e0 : E = 0
      · rw [show lenE E (nCh a.toNat mn c.toNat) = nCh a.toNat mn c.toNat from if_pos e0]
        obtain ⟨_, hon, ha, hmn⟩ := erCh_zero (hE.symm.trans e0)
        have := h.wide
        have h1 : (a.toNat + mn - 1) / c.toNat ≤ a.toNat + mn - 1 := Nat.div_le_self _ _
        unfold nCh
        split
        · omega
        · have h2 := Nat.sub_le ((a.toNat + mn - 1) / c.toNat + 1) (a.toNat / c.toNat)
          omega
      · rw [show lenE E (nCh a.toNat mn c.toNat) = 0 from if_neg e0]; omega
    have n2b : lenE G (cU (dfB c.toNat O M) k.toNat) ≤ 1000 := by
      have := cU_le (dfB c.toNat O M) k.toNat
      unfold lenE
      split <;> omega
    exact changes_walk (m := c.toNat) w oo on oc O hO a mo mn mc M hM E G _ _ _ _ _ _ n1b n2b (by omega) (by omega) e1 e2 e3 e4
  · have hE2 : E = x := by rw [hE]; unfold erCh; rw [if_neg hx]
    have hG2 : G = x := by rw [hG]; unfold erUn; rw [if_neg hx]
    have z1 : lenE E (nCh a.toNat mn c.toNat) = 0 := by rw [hE2]; exact if_neg hx
    have z2 : lenE G (cU (dfB c.toNat O M) k.toNat) = 0 := by rw [hG2]; exact if_neg hx
    refine changes_walk (m := 8) w oo on oc O hO a mo mn mc M hM E G 0 0 (fun i => ((a.toNat / c.toNat + i : Nat) : Int)) (fun i => ((sU (dfB c.toNat O M) k.toNat i : Nat) : Int)) (chB O M a.toNat mn c.toNat) (fun i b => M (sU (dfB c.toNat O M) k.toNat i * c.toNat + b)) (by omega) (by omega) (by omega) (by omega) ?_ ?_ ?_ ?_
    · intro u b1 c1 b2 c2 h1 h2
      refine (e1 u b1 c1 b2 c2 h1 h2).mono ?_
      rintro e w' ⟨lo, lc, T, U, rfl, hp, hb⟩
      rw [z1] at hp
      exact ⟨lo, lc, T, U, by rw [z1], chs_zero hp, hb⟩
    · intro u b1 c1 b2 c2 h1 h2
      refine (e2 u b1 c1 b2 c2 h1 h2).mono ?_
      rintro e w' ⟨lo, lc, T, U, rfl, hp, hb⟩
      rw [z2] at hp
      exact ⟨lo, lc, T, U, by rw [z2], chs_zero hp, hb⟩
    · intro u b1 c1 b2 c2 h1 h2
      refine (e3 u b1 c1 b2 c2 h1 h2).mono ?_
      rintro e w' ⟨lo, lc, T, U, rfl, hp, hb⟩
      rw [z1] at hp
      exact ⟨lo, lc, T, U, by rw [z1], chr_zero hp, hb⟩
    · intro u b1 c1 b2 c2 h1 h2
      refine (e4 u b1 c1 b2 c2 h1 h2).mono ?_
      rintro e w' ⟨lo, lc, T, U, rfl, hp, hb⟩
      rw [z2] at hp
      exact ⟨lo, lc, T, U, by rw [z2], chr_zero hp, hb⟩
end Go.Proofs.Ytdnflninbnjdhaa
