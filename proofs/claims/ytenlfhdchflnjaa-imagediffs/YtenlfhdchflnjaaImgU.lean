/- What is told to make one image of another one does so: all cases. -/
import Derived.Test.YtenlfhdchflnjaaImgT
namespace Go.Proofs.Ytenlfhdchflnjaa
open Go.RowKit

theorem Diffs_any (k r c q : Int) (lo : Option Addr) (n cl : Nat) (A : Nat → Option Addr) (C : Nat → Nat) (F : Nat → List UInt8) (k2 r2 c2 q2 : Int) (lo2 : Option Addr) (n2 cl2 : Nat) (A2 : Nat → Option Addr) (C2 : Nat → Nat) (G : Nat → List UInt8) (hcl : n ≤ cl) (hcl2 : n2 ≤ cl2) (w : World) (h1 : Lst w lo n A C F) (h2 : Lst w lo2 n2 A2 C2 G) :
    Calls Try.prog 8 #[.agg #[.int .i64 k, .int .i64 r, .int .i64 c, .int .i64 q, .slice lo n cl], .agg #[.int .i64 k2, .int .i64 r2, .int .i64 c2, .int .i64 q2, .slice lo2 n2 cl2]] w fun e w' => e = .returned (.bool true) ∧ Below w.heap.size w w' := by
  by_cases b1 : 2000 < n
  · exact Diffs_big1 b1 lo lo2 cl cl2 w
  · by_cases b2 : 2000 < n2
    · exact Diffs_big2 (by omega) b2 lo lo2 cl cl2 w
    · obtain ⟨x, ln, D, hdf⟩ := dff_ex k r c q n F k2 r2 c2 q2 n2 G
      have hdf' := hdf
      obtain ⟨y, N1, Q1, S1, y2, N2, Q2, S2, ha, hb, hc⟩ := hdf
      rcases hc with ⟨rfl, rfl, ⟨rfl, rfl, rfl, rfl⟩, hall, _⟩ | ⟨⟨rfl, rfl⟩, hc⟩
      · obtain ⟨p1, e1, f1⟩ := ha.ok rfl
        obtain ⟨p2, e2, f2⟩ := hb.ok rfl
        have a1 := p1.2
        have a2 := p2.2
        obtain rfl : N1 = N2 := by omega
        obtain rfl : Q1 = Q2 := by omega
        obtain rfl : S1 = S2 := by omega
        obtain rfl : n = n2 := by rw [e1, e2]
        obtain rfl : q = (Q1 : Int) := a1.2.1.symm
        exact Diffs_go ha hb hall (by omega) lo lo2 cl cl2 hcl hcl2 A A2 C C2 w h1 h2
      · by_cases hy : y = 0
        · subst hy
          refine Diffs_e2 ha hdf' ?_ (by omega) (by omega) lo lo2 cl cl2 A A2 C C2 w h1 h2
          rcases hc with ⟨g, _⟩ | ⟨_, g, rfl⟩ | ⟨_, _, _, rfl⟩ | ⟨_, _, _, _, rfl⟩
          · exact absurd rfl g
          · exact g
          · decide
          · decide
        · exact Diffs_e1 ha hy (by omega) (by omega) lo lo2 cl cl2 A C w h1
end Go.Proofs.Ytenlfhdchflnjaa
