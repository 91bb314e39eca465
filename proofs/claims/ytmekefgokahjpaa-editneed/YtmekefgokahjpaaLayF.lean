/- What an object of a length is made of, by the document; LayoutObject. -/
import Derived.Test.YtmekefgokahjpaaLayE
namespace Go.Proofs.Ytmekefgokahjpaa
open Go.RowKit

theorem Par.good {k r c q : Int} {N W : Nat} {y : Int} (h : Par k r c q N W y) (hm : may k r c q = true) : wrap64 (k * c) = (W : Int) ∧ 32 ≤ W ∧ W ≤ 768 ∧ y = 0 ∧ (W : Int) = k * c := by
  have hw := h.wide
  rcases h with ⟨p0, p1, p2, rfl⟩ | ⟨p0, _⟩
  · obtain ⟨h1, h2, h3, h4, h5, h6, h7, h8, h9⟩ := may_true p0
    exact ⟨by rw [p1]; exact wrap_wide h1 h2 h5 h6, by omega, hw, rfl, p1⟩
  · rw [p0] at hm; cases hm
set_option maxHeartbeats 1000000 in
set_option maxRecDepth 100000 in
theorem Object_good (k r c q : Int) (W : Nat) (g1 : wrap64 (k * c) = (W : Int)) (g2 : 32 ≤ W) (g3 : W ≤ 768) (len : Nat) (hlen : len ≤ 32768) (s x : Nat) (hs : s = up len W) (hx : x = lvs W s) (w : World) :
    Calls Try.prog 17 #[.agg #[.int .i64 k, .int .i64 r, .int .i64 c, .int .i64 q], .int .i64 (len : Int)] w fun e' w' => e' = .returned (.tuple #[.int .i64 (s : Int), .int .i64 (x : Int)]) ∧ Below w.heap.size w w' := by
  have HW := fun w => W_any k r c q w
  rw [g1] at HW
  have HD := fun w => D_good k r c q w W g1 g2 g3
  have HL := fun w => L_good k r c q w W g1 g2 g3
  have HR := fun w => rup_any len W w (by omega) (by omega) (by omega)
  have hs1 : s ≤ 32768 := by have := up_self len W (by omega); omega
  rw [← hs] at HR
  have hl1 := lea_ge g2
  have hl2 := lea_le g3
  have HU := fun w => rup_any s (lea W) w (by omega) (by omega) (by omega)
  have HX : Hid (x = if s ≤ dir W then 0 else up s (lea W)) := hx
  clear hx hs g1
  generalize dir W = dr at *
  generalize up s (lea W) = ux at *
  generalize lea W = l at *
  obtain ⟨w0, hw0⟩ : ∃ w0, w0 = w.alloc (.cells #[.int .i64 k, .int .i64 r, .int .i64 c, .int .i64 q] 23) := ⟨_, rfl⟩
  have b0 : Below w.heap.size w w0 := by rw [hw0]; exact below_alloc _ _
  by_cases hlt : s ≤ dr
  · have HE : Hid (x = 0) := by have e1 := HX.out; rw [if_pos hlt] at e1; exact e1
    go_enter Try.func17, Try.ntmps17
    go_wp2_with fail
    rw [← hw0]
    refine (HW _).mono ?_
    rintro e v1 ⟨rfl, g1⟩
    have k1 := g1
    obtain ⟨s0, s1, s2, s3⟩ := par_held hw0 k1
    go_wp2_with fail
    refine (HR _).mono ?_
    rintro e w' ⟨rfl, hw'⟩
    obtain rfl := hw'.symm
    go_wp2_with fail
    refine (HD _).mono ?_
    rintro e v2 ⟨rfl, j2⟩
    have k2 := below_then k1 j2
    obtain ⟨s0, s1, s2, s3⟩ := par_held hw0 k2
    go_wp2_with fail
    go_ret2
    exact ⟨by rw [HE.out]; rfl, below_then b0 k2⟩
  · have HE : Hid (x = ux) := by have e1 := HX.out; rw [if_neg hlt] at e1; exact e1
    go_enter Try.func17, Try.ntmps17
    go_wp2_with fail
    rw [← hw0]
    refine (HW _).mono ?_
    rintro e v1 ⟨rfl, g1⟩
    have k1 := g1
    obtain ⟨s0, s1, s2, s3⟩ := par_held hw0 k1
    go_wp2_with fail
    refine (HR _).mono ?_
    rintro e w' ⟨rfl, hw'⟩
    obtain rfl := hw'.symm
    go_wp2_with fail
    refine (HD _).mono ?_
    rintro e v2 ⟨rfl, j2⟩
    have k2 := below_then k1 j2
    obtain ⟨s0, s1, s2, s3⟩ := par_held hw0 k2
    go_wp2_with fail
    refine (HL _).mono ?_
    rintro e v3 ⟨rfl, j3⟩
    have k3 := below_then k2 j3
    obtain ⟨s0, s1, s2, s3⟩ := par_held hw0 k3
    go_wp2_with fail
    refine (HU _).mono ?_
    rintro e w' ⟨rfl, hw'⟩
    obtain rfl := hw'.symm
    go_wp2_with fail
    go_ret2
    exact ⟨by rw [HE.out]; rfl, below_then b0 k3⟩
end Go.Proofs.Ytmekefgokahjpaa
