/- What an object of a length is made of, by the document; LayoutObject. -/
import Derived.Test.YtjncnojplkljnaaLayE
namespace Go.Proofs.Ytjncnojplkljnaa
open Go.RowKit

theorem Par.good {k r c q : Int} {N W : Nat} {y : Int} (h : Par k r c q N W y) (hm : may k r c q = true) : wrap64 (k * c) = (W : Int) ∧ 32 ≤ W ∧ W ≤ 768 ∧ y = 0 ∧ (W : Int) = k * c := by
  have hw := h.wide
  rcases h with ⟨p0, p1, p2, rfl⟩ | ⟨p0, _⟩
  · obtain ⟨h1, h2, h3, h4, h5, h6, h7, h8, h9⟩ := may_true p0
    exact ⟨by rw [p1]; exact wrap_wide h1 h2 h5 h6, by omega, hw, rfl, p1⟩
  · rw [p0] at hm; cases hm
set_option maxHeartbeats 1000000 in
set_option maxRecDepth 100000 in
theorem length_any {k r c q : Int} {N W : Nat} {y : Int} (h : Par k r c q N W y) {len : Int} {s d x n : Nat} {e : Int} (h' : Made k r c q len W s d x n e) (w : World) :
    Calls Try.prog 72 #[.agg #[.int .i64 k, .int .i64 r, .int .i64 c, .int .i64 q], .int .i64 len] w fun e' w' => e' = .returned (.int .i64 e) ∧ Below w.heap.size w w' := by
  have HM := fun w => May_any k r c q w
  obtain ⟨w0, hw0⟩ : ∃ w0, w0 = w.alloc (.cells #[.int .i64 k, .int .i64 r, .int .i64 c, .int .i64 q] 24) := ⟨_, rfl⟩
  have b0 : Below w.heap.size w w0 := by rw [hw0]; exact below_alloc _ _
  cases hm : may k r c q
  · have he : e = 2 := by
      rcases h' with ⟨h1, _⟩ | ⟨_, _, _, _, _, h2⟩ | ⟨h1, _⟩
      · rw [h1] at hm; cases hm
      · exact h2
      · rw [h1] at hm; cases hm
    subst he
    rw [hm] at HM
    clear h h' hm
    go_enter Try.func72, Try.ntmps72
    go_wp2_with fail
    rw [← hw0]
    refine (HM _).mono ?_
    rintro e wa ⟨rfl, ha⟩
    clear hw0
    go_wp2_with fail
    go_ret
    exact ⟨rfl, below_then b0 ha⟩
  · obtain ⟨g1, g2, g3, _, _⟩ := h.good hm
    have HMM := fun w => M_good k r c q w W g1 g2 g3
    have he : (len < 0 ∧ e = 2) ∨ (0 ≤ len ∧ (mst W : Int) < len ∧ e = 3) ∨ (0 ≤ len ∧ len ≤ (mst W : Int) ∧ e = 0) := by
      rcases h' with ⟨_, h1, h2, _, _, _, _, h3⟩ | ⟨h1, _, _, _, _, h2⟩ | ⟨_, h1, h2, _, _, _, _, h3⟩
      · exact .inr (.inr ⟨h1, h2, h3⟩)
      · rcases h1 with h1 | h1
        · rw [h1] at hm; cases hm
        · exact .inl ⟨h1, h2⟩
      · exact .inr (.inl ⟨h1, h2, h3⟩)
    rw [hm] at HM
    clear h h' hm g1
    have gm := mst_le W
    generalize mst W = m at *
    rcases he with ⟨e1, rfl⟩ | ⟨e1, e2, rfl⟩ | ⟨e1, e2, rfl⟩
    · go_enter Try.func72, Try.ntmps72
      go_wp2_with fail
      rw [← hw0]
      refine (HM _).mono ?_
      rintro e wa ⟨rfl, ha⟩
      clear hw0
      go_wp2_with fail
      go_ret
      exact ⟨rfl, below_then b0 ha⟩
    all_goals (
      go_enter Try.func72, Try.ntmps72
      go_wp2_with fail
      rw [← hw0]
      refine (HM _).mono ?_
      rintro e wa ⟨rfl, ha⟩
      obtain ⟨s0, s1, s2, s3⟩ := par_held hw0 ha
      clear hw0
      go_wp2_with fail
      refine (HMM _).mono ?_
      rintro e wb ⟨rfl, hb⟩
      go_wp2_with fail
      go_ret
      exact ⟨rfl, below_then (below_then b0 ha) hb⟩)
set_option maxHeartbeats 1000000 in
set_option maxRecDepth 100000 in
theorem Object_good (k r c q : Int) (W : Nat) (g1 : wrap64 (k * c) = (W : Int)) (g2 : 32 ≤ W) (g3 : W ≤ 768) (len : Nat) (hlen : len ≤ 32768) (s x : Nat) (hs : s = up len W) (hx : x = lvs W s) (w : World) :
    Calls Try.prog 73 #[.agg #[.int .i64 k, .int .i64 r, .int .i64 c, .int .i64 q], .int .i64 (len : Int)] w fun e' w' => e' = .returned (.tuple #[.int .i64 (s : Int), .int .i64 (x : Int)]) ∧ Below w.heap.size w w' := by
  have HW := fun w => W_any k r c q w
  rw [g1] at HW
  have HD := fun w => D_good k r c q w W g1 g2 g3
  have HL := fun w => L_good k r c q w W g1 g2 g3
  have HR := fun w => rup_any len W w (by omega) (by omega) (by omega)
  have hs1 : s ≤ 32768 := by have := up_self len W (by omega); omega
  rw [← hs] at HR
  have hl1 := lea_ge g2
  have hl2 := lea_le g3
  have HU := fun w => rup_any s (lea W) w (by omega) (by omega) (by omega)
  have HX : Hid (x = if s ≤ dir W then 0 else up s (lea W)) := hx
  clear hx hs g1
  generalize dir W = dr at *
  generalize up s (lea W) = ux at *
  generalize lea W = l at *
  obtain ⟨w0, hw0⟩ : ∃ w0, w0 = w.alloc (.cells #[.int .i64 k, .int .i64 r, .int .i64 c, .int .i64 q] 24) := ⟨_, rfl⟩
  have b0 : Below w.heap.size w w0 := by rw [hw0]; exact below_alloc _ _
  by_cases hlt : s ≤ dr
  · have HE : Hid (x = 0) := by have e1 := HX.out; rw [if_pos hlt] at e1; exact e1
    go_enter Try.func73, Try.ntmps73
    go_wp2_with fail
    rw [← hw0]
    refine (HW _).mono ?_
    rintro e v1 ⟨rfl, g1⟩
    have k1 := g1
    obtain ⟨s0, s1, s2, s3⟩ := par_held hw0 k1
    go_wp2_with fail
    refine (HR _).mono ?_
    rintro e w' ⟨rfl, hw'⟩
    obtain rfl := hw'.symm
    go_wp2_with fail
    refine (HD _).mono ?_
    rintro e v2 ⟨rfl, j2⟩
    have k2 := below_then k1 j2
    obtain ⟨s0, s1, s2, s3⟩ := par_held hw0 k2
    go_wp2_with fail
    go_ret2
    exact ⟨by rw [HE.out]; rfl, below_then b0 k2⟩
  · have HE : Hid (x = ux) := by have e1 := HX.out; rw [if_neg hlt] at e1; exact e1
    go_enter Try.func73, Try.ntmps73
    go_wp2_with fail
    rw [← hw0]
    refine (HW _).mono ?_
    rintro e v1 ⟨rfl, g1⟩
    have k1 := g1
    obtain ⟨s0, s1, s2, s3⟩ := par_held hw0 k1
    go_wp2_with fail
    refine (HR _).mono ?_
    rintro e w' ⟨rfl, hw'⟩
    obtain rfl := hw'.symm
    go_wp2_with fail
    refine (HD _).mono ?_
    rintro e v2 ⟨rfl, j2⟩
    have k2 := below_then k1 j2
    obtain ⟨s0, s1, s2, s3⟩ := par_held hw0 k2
    go_wp2_with fail
    refine (HL _).mono ?_
    rintro e v3 ⟨rfl, j3⟩
    have k3 := below_then k2 j3
    obtain ⟨s0, s1, s2, s3⟩ := par_held hw0 k3
    go_wp2_with fail
    refine (HU _).mono ?_
    rintro e w' ⟨rfl, hw'⟩
    obtain rfl := hw'.symm
    go_wp2_with fail
    go_ret2
    exact ⟨by rw [HE.out]; rfl, below_then b0 k3⟩
set_option maxHeartbeats 1000000 in
set_option maxRecDepth 100000 in
theorem RStripes_any {k r c q : Int} {N W : Nat} {y : Int} (h : Par k r c q N W y) {len : Int} {s d x n : Nat} {e : Int} (h' : Made k r c q len W s d x n e) (w : World) :
    Calls Try.prog 66 #[.agg #[.int .i64 k, .int .i64 r, .int .i64 c, .int .i64 q], .int .i64 len] w fun e' w' => e' = .returned (.tuple #[.int .i64 (s : Int), .int .i64 e]) ∧ Below w.heap.size w w' := by
  have HC := fun w => length_any h h' w
  obtain ⟨w0, hw0⟩ : ∃ w0, w0 = w.alloc (.cells #[.int .i64 k, .int .i64 r, .int .i64 c, .int .i64 q] 24) := ⟨_, rfl⟩
  have b0 : Below w.heap.size w w0 := by rw [hw0]; exact below_alloc _ _
  have h2 := h'
  rcases h2 with ⟨h1, h2, h3, h4, h5, h6, h7, rfl⟩ | h2
  · obtain ⟨l, rfl⟩ := Int.eq_ofNat_of_zero_le h2
    obtain ⟨g1, g2, g3, _, _⟩ := h.good h1
    have gm := mst_le W
    rw [Int.toNat_natCast] at h4
    have HO := fun w => Object_good k r c q W g1 g2 g3 l (by omega) s x h4 h5 w
    have hs1 : s ≤ 32768 := by have := up_self l W (by omega); omega
    have hx1 : x ≤ s := by rw [h5]; exact lvs_le g2
    have HD : Hid (d = min x 1) := h6
    have HN : Hid (n = 1 + x + s) := h7
    clear h h' h1 h2 h3 h4 h5 h6 h7 g1
    by_cases hx0 : 1 < x
    all_goals (
      have HV : Hid (d = if 1 < x then 1 else x) := by have := HD.out; show _ = _; split <;> omega
      go_enter Try.func66, Try.ntmps66
      go_wp2_with fail
      rw [← hw0]
      refine (HC _).mono ?_
      rintro e wa ⟨rfl, ha⟩
      obtain ⟨s0, s1, s2, s3⟩ := par_held hw0 ha
      clear hw0
      go_wp2_with fail
      refine (HO _).mono ?_
      rintro e wb ⟨rfl, hb⟩
      go_wp2_with fail
      go_ret2
      exact ⟨by rfl, below_then (below_then b0 ha) hb⟩)
  · have hz : s = 0 ∧ d = 0 ∧ x = 0 ∧ n = 0 ∧ (e = 2 ∨ e = 3) := by
      rcases h2 with ⟨_, h3, h4, h5, h6, h7⟩ | ⟨_, _, _, h3, h4, h5, h6, h7⟩
      · exact ⟨h3, h4, h5, h6, .inl h7⟩
      · exact ⟨h3, h4, h5, h6, .inr h7⟩
    obtain ⟨rfl, rfl, rfl, rfl, he⟩ := hz
    clear h h' h2
    rcases he with rfl | rfl
    all_goals (
      go_enter Try.func66, Try.ntmps66
      go_wp2_with fail
      rw [← hw0]
      refine (HC _).mono ?_
      rintro e wa ⟨rfl, ha⟩
      clear hw0
      go_wp2_with fail
      go_ret2
      exact ⟨rfl, below_then b0 ha⟩)
set_option maxHeartbeats 1000000 in
set_option maxRecDepth 100000 in
theorem RDepth_any {k r c q : Int} {N W : Nat} {y : Int} (h : Par k r c q N W y) {len : Int} {s d x n : Nat} {e : Int} (h' : Made k r c q len W s d x n e) (w : World) :
    Calls Try.prog 67 #[.agg #[.int .i64 k, .int .i64 r, .int .i64 c, .int .i64 q], .int .i64 len] w fun e' w' => e' = .returned (.tuple #[.int .i64 (d : Int), .int .i64 e]) ∧ Below w.heap.size w w' := by
  have HC := fun w => length_any h h' w
  obtain ⟨w0, hw0⟩ : ∃ w0, w0 = w.alloc (.cells #[.int .i64 k, .int .i64 r, .int .i64 c, .int .i64 q] 24) := ⟨_, rfl⟩
  have b0 : Below w.heap.size w w0 := by rw [hw0]; exact below_alloc _ _
  have h2 := h'
  rcases h2 with ⟨h1, h2, h3, h4, h5, h6, h7, rfl⟩ | h2
  · obtain ⟨l, rfl⟩ := Int.eq_ofNat_of_zero_le h2
    obtain ⟨g1, g2, g3, _, _⟩ := h.good h1
    have gm := mst_le W
    rw [Int.toNat_natCast] at h4
    have HO := fun w => Object_good k r c q W g1 g2 g3 l (by omega) s x h4 h5 w
    have hs1 : s ≤ 32768 := by have := up_self l W (by omega); omega
    have hx1 : x ≤ s := by rw [h5]; exact lvs_le g2
    have HD : Hid (d = min x 1) := h6
    have HN : Hid (n = 1 + x + s) := h7
    clear h h' h1 h2 h3 h4 h5 h6 h7 g1
    by_cases hx0 : 1 < x
    all_goals (
      have HV : Hid (d = if 1 < x then 1 else x) := by have := HD.out; show _ = _; split <;> omega
      go_enter Try.func67, Try.ntmps67
      go_wp2_with fail
      rw [← hw0]
      refine (HC _).mono ?_
      rintro e wa ⟨rfl, ha⟩
      obtain ⟨s0, s1, s2, s3⟩ := par_held hw0 ha
      clear hw0
      go_wp2_with fail
      refine (HO _).mono ?_
      rintro e wb ⟨rfl, hb⟩
      go_wp2_with fail
      go_ret2
      exact ⟨by rw [HV.out]; first | (rw [if_pos hx0]; rfl) | (rw [if_neg hx0]; rfl), below_then (below_then b0 ha) hb⟩)
  · have hz : s = 0 ∧ d = 0 ∧ x = 0 ∧ n = 0 ∧ (e = 2 ∨ e = 3) := by
      rcases h2 with ⟨_, h3, h4, h5, h6, h7⟩ | ⟨_, _, _, h3, h4, h5, h6, h7⟩
      · exact ⟨h3, h4, h5, h6, .inl h7⟩
      · exact ⟨h3, h4, h5, h6, .inr h7⟩
    obtain ⟨rfl, rfl, rfl, rfl, he⟩ := hz
    clear h h' h2
    rcases he with rfl | rfl
    all_goals (
      go_enter Try.func67, Try.ntmps67
      go_wp2_with fail
      rw [← hw0]
      refine (HC _).mono ?_
      rintro e wa ⟨rfl, ha⟩
      clear hw0
      go_wp2_with fail
      go_ret2
      exact ⟨rfl, below_then b0 ha⟩)
set_option maxHeartbeats 1000000 in
set_option maxRecDepth 100000 in
theorem RLeaves_any {k r c q : Int} {N W : Nat} {y : Int} (h : Par k r c q N W y) {len : Int} {s d x n : Nat} {e : Int} (h' : Made k r c q len W s d x n e) (w : World) :
    Calls Try.prog 68 #[.agg #[.int .i64 k, .int .i64 r, .int .i64 c, .int .i64 q], .int .i64 len] w fun e' w' => e' = .returned (.tuple #[.int .i64 (x : Int), .int .i64 e]) ∧ Below w.heap.size w w' := by
  have HC := fun w => length_any h h' w
  obtain ⟨w0, hw0⟩ : ∃ w0, w0 = w.alloc (.cells #[.int .i64 k, .int .i64 r, .int .i64 c, .int .i64 q] 24) := ⟨_, rfl⟩
  have b0 : Below w.heap.size w w0 := by rw [hw0]; exact below_alloc _ _
  have h2 := h'
  rcases h2 with ⟨h1, h2, h3, h4, h5, h6, h7, rfl⟩ | h2
  · obtain ⟨l, rfl⟩ := Int.eq_ofNat_of_zero_le h2
    obtain ⟨g1, g2, g3, _, _⟩ := h.good h1
    have gm := mst_le W
    rw [Int.toNat_natCast] at h4
    have HO := fun w => Object_good k r c q W g1 g2 g3 l (by omega) s x h4 h5 w
    have hs1 : s ≤ 32768 := by have := up_self l W (by omega); omega
    have hx1 : x ≤ s := by rw [h5]; exact lvs_le g2
    have HD : Hid (d = min x 1) := h6
    have HN : Hid (n = 1 + x + s) := h7
    clear h h' h1 h2 h3 h4 h5 h6 h7 g1
    by_cases hx0 : 1 < x
    all_goals (
      have HV : Hid (d = if 1 < x then 1 else x) := by have := HD.out; show _ = _; split <;> omega
      go_enter Try.func68, Try.ntmps68
      go_wp2_with fail
      rw [← hw0]
      refine (HC _).mono ?_
      rintro e wa ⟨rfl, ha⟩
      obtain ⟨s0, s1, s2, s3⟩ := par_held hw0 ha
      clear hw0
      go_wp2_with fail
      refine (HO _).mono ?_
      rintro e wb ⟨rfl, hb⟩
      go_wp2_with fail
      go_ret2
      exact ⟨by rfl, below_then (below_then b0 ha) hb⟩)
  · have hz : s = 0 ∧ d = 0 ∧ x = 0 ∧ n = 0 ∧ (e = 2 ∨ e = 3) := by
      rcases h2 with ⟨_, h3, h4, h5, h6, h7⟩ | ⟨_, _, _, h3, h4, h5, h6, h7⟩
      · exact ⟨h3, h4, h5, h6, .inl h7⟩
      · exact ⟨h3, h4, h5, h6, .inr h7⟩
    obtain ⟨rfl, rfl, rfl, rfl, he⟩ := hz
    clear h h' h2
    rcases he with rfl | rfl
    all_goals (
      go_enter Try.func68, Try.ntmps68
      go_wp2_with fail
      rw [← hw0]
      refine (HC _).mono ?_
      rintro e wa ⟨rfl, ha⟩
      clear hw0
      go_wp2_with fail
      go_ret2
      exact ⟨rfl, below_then b0 ha⟩)
end Go.Proofs.Ytjncnojplkljnaa
