/- VectorBumps: the walk over every input. -/
import Derived.Test.YtkoblkkigmnocaaVecQ
namespace Go.Proofs.Ytkoblkkigmnocaa
open Go.RowKit

theorem gotE {k : Nat} {xs : Array Value} {w : World} {E : Int} {n n' : Nat} {F : Nat → Int} (h : Calls Try.prog k xs w (Ans w E n F)) (hn : lenE E n = n') : Calls Try.prog k xs w fun e w' => ∃ ao cap, e = .returned (.tuple #[.slice ao n' cap, .int .i64 E]) ∧ Below w.heap.size w w' := by
  subst hn
  exact h.mono fun e w' ⟨ao, cap, h1, _, h3⟩ => ⟨ao, cap, h1, h3⟩
theorem toldIE {k : Nat} {xs : Array Value} {w : World} {E v : Int} (h : Calls Try.prog k xs w (TellI w E v)) (hE : E ≠ 0) : Calls Try.prog k xs w fun e w' => e = .returned (.tuple #[.int .i64 0, .int .i64 E]) ∧ Below w.heap.size w w' := by
  refine h.mono fun e w' ⟨h1, h2⟩ => ⟨?_, h2⟩
  rw [if_neg hE] at h1; exact h1
set_option maxHeartbeats 8000000 in
set_option maxRecDepth 100000 in
theorem bumps_walk (k r c q : Int) (w : World) (ao bo co : Option Addr) (n ca l cb m cc : Nat) (V X C : Nat → Int) (hv : Vec w ao n ca V) (hx : Vec w bo l cb X) (hc : Vec w co m cc C) :
    Calls Try.prog 7 #[.agg #[.int .i64 k, .int .i64 r, .int .i64 c, .int .i64 q], .slice ao n ca, .slice bo l cb, .slice co m cc] w fun e w' => e = .returned (.bool true) ∧ Below w.heap.size w w' := by
  by_cases h1 : n ≤ 200
  · by_cases h2 : l ≤ 200
    · by_cases h3 : m ≤ 200
      · obtain ⟨N, W, x, h⟩ := par_any k r c q
        have HV : Hid (Vec w ao n ca V) := hv
        have HC : Hid (Vec w co m cc C) := hc
        obtain ⟨E1, hE1⟩ : ∃ E, erV x N n V = E := ⟨_, rfl⟩
        have CL := fun w (hv : Vec w ao n ca V) => Last_any h w ao n ca V hv (by omega) E1 hE1
        by_cases k1 : E1 = 0
        · subst k1
          obtain ⟨rfl, rfl, hvv⟩ := erV_of hE1
          obtain ⟨M, hM⟩ : ∃ M, mx V n = M := ⟨_, rfl⟩
          have hM0 : 0 ≤ M := by rw [← hM]; exact mx_nonneg V n
          have hMt : M ≤ 1073741824 := by rw [← hM]; exact mx_top (by omega) fun i hi => (hvv i hi).2
          have CL2 := fun w (hv : Vec w ao n ca V) => toldI (CL w hv) hM
          by_cases k2 : M = 1073741824
          · have ne : (M == 1073741824) = true := by simpa using k2
            clear hv hx hc h hE1 k2 CL hM hMt hM0 hvv
            have i0 : (n : Int) ≤ 200 := by omega
            have i1 : (l : Int) ≤ 200 := by omega
            have i2 : (m : Int) ≤ 200 := by omega
            obtain ⟨w0, hw0⟩ : ∃ w0, w0 = w.alloc (.cells #[.int .i64 k, .int .i64 r, .int .i64 c, .int .i64 q] 24) := ⟨_, rfl⟩
            have b0 : Below w.heap.size w w0 := by rw [hw0]; exact below_alloc _ _
            go_enter Try.func7, Try.ntmps7
            go_wp2_with fail
            rw [← hw0]
            refine (alive_any _).mono ?_
            rintro e y0 ⟨rfl, g0⟩
            obtain ⟨s0, s1, s2, s3⟩ := par_held hw0 g0
            go_wp2_with fail
            refine (CL2 _ (HV.out.below (below_then b0 g0))).mono ?_
            rintro e y1 ⟨rfl, f1⟩
            have g1 := below_then g0 f1
            clear s0 s1 s2 s3
            obtain ⟨s0, s1, s2, s3⟩ := par_held hw0 g1
            go_wp2_with fail
            go_ret
            exact ⟨rfl, below_then b0 g1⟩

          · obtain ⟨E2, hE2⟩ : ∃ E, erB 0 n n V m C (M + 1) = E := ⟨_, rfl⟩
            have CB := fun w (hv : Vec w ao n ca V) (hc : Vec w co m cc C) => Bump_any h w ao co n ca m cc V C (M + 1) hv hc (by omega) (by omega) E2 hE2
            by_cases k3 : E2 = 0
            · subst k3
              obtain ⟨_, hmn, hcel, _⟩ := erB_of hE2
              exact bumps_good h w ao bo co ca l cb m cc V X C hv hx hc hE1 M hM (by omega) hmn hcel h2
            · have CB2 := fun w hv hc => gotE (CB w hv hc) (lenE_ne n k3)
              have ne : (E2 != 0) = true := by simpa using k3
              have ne2 : (M == 1073741824) = false := by simpa using k2
              have hM2 : M + 1 ≤ 1073741824 := by omega
              clear hv hx hc h hE1 hE2 k2 k3 CL CB hM hMt hvv
              have i0 : (n : Int) ≤ 200 := by omega
              have i1 : (l : Int) ≤ 200 := by omega
              have i2 : (m : Int) ≤ 200 := by omega
              obtain ⟨w0, hw0⟩ : ∃ w0, w0 = w.alloc (.cells #[.int .i64 k, .int .i64 r, .int .i64 c, .int .i64 q] 24) := ⟨_, rfl⟩
              have b0 : Below w.heap.size w w0 := by rw [hw0]; exact below_alloc _ _
              go_enter Try.func7, Try.ntmps7
              go_wp2_with fail
              rw [← hw0]
              refine (alive_any _).mono ?_
              rintro e y0 ⟨rfl, g0⟩
              obtain ⟨s0, s1, s2, s3⟩ := par_held hw0 g0
              go_wp2_with fail
              refine (CL2 _ (HV.out.below (below_then b0 g0))).mono ?_
              rintro e y1 ⟨rfl, f1⟩
              have g1 := below_then g0 f1
              clear s0 s1 s2 s3
              obtain ⟨s0, s1, s2, s3⟩ := par_held hw0 g1
              go_wp2_with fail
              refine (CB2 _ (HV.out.below (below_then b0 g1)) (HC.out.below (below_then b0 g1))).mono ?_
              rintro e y2 ⟨_, _, rfl, f2⟩
              have g2 := below_then g1 f2
              clear s0 s1 s2 s3
              obtain ⟨s0, s1, s2, s3⟩ := par_held hw0 g2
              go_wp2_with fail
              go_ret
              exact ⟨rfl, below_then b0 g2⟩

        · have ne : (E1 != 0) = true := by simpa using k1
          have CL2 := fun w (hv : Vec w ao n ca V) => toldIE (CL w hv) k1
          clear hv hx hc h hE1 k1 CL
          have i0 : (n : Int) ≤ 200 := by omega
          have i1 : (l : Int) ≤ 200 := by omega
          have i2 : (m : Int) ≤ 200 := by omega
          obtain ⟨w0, hw0⟩ : ∃ w0, w0 = w.alloc (.cells #[.int .i64 k, .int .i64 r, .int .i64 c, .int .i64 q] 24) := ⟨_, rfl⟩
          have b0 : Below w.heap.size w w0 := by rw [hw0]; exact below_alloc _ _
          go_enter Try.func7, Try.ntmps7
          go_wp2_with fail
          rw [← hw0]
          refine (alive_any _).mono ?_
          rintro e y0 ⟨rfl, g0⟩
          obtain ⟨s0, s1, s2, s3⟩ := par_held hw0 g0
          go_wp2_with fail
          refine (CL2 _ (HV.out.below (below_then b0 g0))).mono ?_
          rintro e y1 ⟨rfl, f1⟩
          have g1 := below_then g0 f1
          clear s0 s1 s2 s3
          obtain ⟨s0, s1, s2, s3⟩ := par_held hw0 g1
          go_wp2_with fail
          go_ret
          exact ⟨rfl, below_then b0 g1⟩

      · clear hv hx hc
        have i0 : (n : Int) ≤ 200 := by omega
        have i1 : (l : Int) ≤ 200 := by omega
        have i2 : ¬ (m : Int) ≤ 200 := by omega
        obtain ⟨w0, hw0⟩ : ∃ w0, w0 = w.alloc (.cells #[.int .i64 k, .int .i64 r, .int .i64 c, .int .i64 q] 24) := ⟨_, rfl⟩
        have b0 : Below w.heap.size w w0 := by rw [hw0]; exact below_alloc _ _
        go_enter Try.func7, Try.ntmps7
        go_wp2_with fail
        rw [← hw0]
        refine (alive_any _).mono ?_
        rintro e y0 ⟨rfl, g0⟩
        obtain ⟨s0, s1, s2, s3⟩ := par_held hw0 g0
        go_wp2_with fail
        go_ret
        exact ⟨rfl, below_then b0 g0⟩

    · clear hv hx hc
      have i0 : (n : Int) ≤ 200 := by omega
      have i1 : ¬ (l : Int) ≤ 200 := by omega
      obtain ⟨w0, hw0⟩ : ∃ w0, w0 = w.alloc (.cells #[.int .i64 k, .int .i64 r, .int .i64 c, .int .i64 q] 24) := ⟨_, rfl⟩
      have b0 : Below w.heap.size w w0 := by rw [hw0]; exact below_alloc _ _
      go_enter Try.func7, Try.ntmps7
      go_wp2_with fail
      rw [← hw0]
      refine (alive_any _).mono ?_
      rintro e y0 ⟨rfl, g0⟩
      obtain ⟨s0, s1, s2, s3⟩ := par_held hw0 g0
      go_wp2_with fail
      go_ret
      exact ⟨rfl, below_then b0 g0⟩

  · clear hv hx hc
    have i0 : ¬ (n : Int) ≤ 200 := by omega
    obtain ⟨w0, hw0⟩ : ∃ w0, w0 = w.alloc (.cells #[.int .i64 k, .int .i64 r, .int .i64 c, .int .i64 q] 24) := ⟨_, rfl⟩
    have b0 : Below w.heap.size w w0 := by rw [hw0]; exact below_alloc _ _
    go_enter Try.func7, Try.ntmps7
    go_wp2_with fail
    rw [← hw0]
    refine (alive_any _).mono ?_
    rintro e y0 ⟨rfl, g0⟩
    obtain ⟨s0, s1, s2, s3⟩ := par_held hw0 g0
    go_wp2_with fail
    go_ret
    exact ⟨rfl, below_then b0 g0⟩

end Go.Proofs.Ytkoblkkigmnocaa
