/- What makes one image of another one, as the document tells it. -/
import Derived.Test.YtenlfhdchflnjaaDocP
namespace Go.Proofs.Ytenlfhdchflnjaa
open Go.RowKit

theorem Diff_doc {k1 r1 c1 q1 : Int} {n1 : Nat} {F : Nat → List UInt8} {k2 r2 c2 q2 : Int} {n2 : Nat} {G : Nat → List UInt8} {x : Int} {ln : Nat} {D : Nat → Pt} (h : Dff k1 r1 c1 q1 n1 F k2 r2 c2 q2 n2 G x ln D) (lo1 lo2 : Option Addr) (cl1 cl2 : Nat) (A1 A2 : Nat → Option Addr) (E1 E2 : Nat → Nat) (w : World) (h1 : Lst w lo1 n1 A1 E1 F) (h2 : Lst w lo2 n2 A2 E2 G) :
    Calls Try.prog 31 #[.agg #[.int .i64 k1, .int .i64 r1, .int .i64 c1, .int .i64 q1, .slice lo1 n1 cl1], .agg #[.int .i64 k2, .int .i64 r2, .int .i64 c2, .int .i64 q2, .slice lo2 n2 cl2]] w fun e w' => ∃ po pc B K, e = .returned (.tuple #[.slice po ln pc, .int .i64 x]) ∧ Pus false w' w.heap.size po ln pc D B K ∧ Below w.heap.size w w' := by
  obtain ⟨y, N, Q, S, y2, N2, Q2, S2, ha, hb, hc⟩ := h
  rcases hc with ⟨rfl, rfl, ⟨rfl, rfl, rfl, rfl⟩, g1, g2, g3, g4⟩ | ⟨⟨rfl, rfl⟩, hc⟩
  · obtain ⟨p1, e1, _⟩ := ha.ok rfl
    obtain ⟨p2, e2, _⟩ := hb.ok rfl
    obtain ⟨_, a1, a2, _⟩ := p1
    obtain ⟨_, a3, a4, _⟩ := p2
    obtain rfl : N = N2 := by omega
    obtain rfl : Q = Q2 := by omega
    obtain rfl : n1 = n2 := by rw [e1, e2]
    exact DiffD_go ha hb x ln D (.inl ⟨g1, g2, g3, g4⟩) lo1 lo2 cl1 cl2 A1 A2 E1 E2 w h1 h2
  · rcases hc with ⟨g1, rfl⟩ | ⟨rfl, g1, rfl⟩ | ⟨rfl, rfl, g1, rfl⟩ | ⟨rfl, rfl, ⟨rfl, rfl, rfl, rfl⟩, g1, rfl⟩
    · exact DiffD_e1 ha g1 lo1 lo2 cl1 cl2 A1 E1 w h1
    · exact DiffD_e2 ha hb g1 lo1 lo2 cl1 cl2 A1 A2 E1 E2 w h1 h2
    · exact DiffD_e3 ha hb g1 lo1 lo2 cl1 cl2 A1 A2 E1 E2 w h1 h2
    · obtain ⟨p1, e1, _⟩ := ha.ok rfl
      obtain ⟨p2, e2, _⟩ := hb.ok rfl
      obtain ⟨_, a1, a2, _⟩ := p1
      obtain ⟨_, a3, a4, _⟩ := p2
      obtain rfl : N = N2 := by omega
      obtain rfl : Q = Q2 := by omega
      obtain rfl : n1 = n2 := by rw [e1, e2]
      exact DiffD_go ha hb 90 0 _ (.inr ⟨g1, rfl, rfl, rfl⟩) lo1 lo2 cl1 cl2 A1 A2 E1 E2 w h1 h2
end Go.Proofs.Ytenlfhdchflnjaa
