/- UpdateMeets, for whatever comes in. -/
import Derived.Test.YtdnflninbnjdhaaUpH
namespace Go.Proofs.Ytdnflninbnjdhaa
open Go.RowKit

theorem meets_any {k r c q : Int} {N W : Nat} {x : Int} (h : Par k r c q N W x) (w : World) (oo : Option Addr) (on oc : Nat) (O : Nat → UInt8) (hO : Bec w oo on oc O) (a : Int) (mo : Option Addr) (mn mc : Nat) (M : Nat → UInt8) (hM : Bec w mo mn mc M) :
    Calls Try.prog 4 #[.agg #[.int .i64 k, .int .i64 r, .int .i64 c, .int .i64 q], .slice oo on oc, .int .i64 a, .slice mo mn mc] w fun e w' => e = .returned (.bool true) ∧ Below w.heap.size w w' := by
  by_cases h0 : erCh x W on a mn = 0
  · obtain ⟨rfl, hon, ha, hmn⟩ := erCh_zero h0
    obtain ⟨K, R, m, Q, rfl, rfl, rfl, rfl, k1, k2, r1, m1, m2, hW, hN, hW32, _, _⟩ := h.nums4
    obtain ⟨o, rfl⟩ := Int.eq_ofNat_of_zero_le ha.1
    refine meets_good w oo on oc O hO o mo mn mc M hM (hon.trans hW) (by omega) k2 m1 m2 ?_ ?_
    · intro u hu
      have hc := Changes_any h u oo on oc O (hO.below hu) (o : Int) mo mn mc M (hM.below hu) 0 h0
      rw [Int.toNat_natCast, Int.toNat_natCast] at hc
      refine hc.mono ?_
      rintro e w' ⟨lo, lc, T, U, rfl, hp, hb⟩
      have e1 : lenE 0 (nCh o mn m) = nCh o mn m := if_pos rfl
      rw [e1] at hp
      exact ⟨lo, lc, T, U, by rw [e1], hp, hb⟩
    · intro u b1 c1 F1 b2 c2 F2 h1 h2
      have hc := Unlike_any h u b1 on c1 F1 h1 b2 on c2 F2 h2 0 (by unfold erUn; rw [if_pos rfl, if_pos ⟨hon, hon⟩])
      rw [Int.toNat_natCast, Int.toNat_natCast] at hc
      refine hc.mono ?_
      rintro e w' ⟨lo, lc, T, U, rfl, hp, hb⟩
      have e1 : lenE 0 (cU (dfB m F1 F2) K) = cU (dfB m F1 F2) K := if_pos rfl
      rw [e1] at hp
      exact ⟨lo, lc, T, U, by rw [e1], hp, hb⟩
  · exact meets_bad w oo on oc a mo mn mc _ h0 fun u _ => changes_bad h u oo on oc a mo mn mc _ rfl h0
end Go.Proofs.Ytdnflninbnjdhaa
