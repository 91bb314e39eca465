/- LayoutGrows: a longer object has no fewer stripes, leaves and rows. -/
import Derived.Test.YtenifakhojdfpaaLayG
namespace Go.Proofs.Ytenifakhojdfpaa
open Go.RowKit

set_option maxHeartbeats 4000000 in
set_option maxRecDepth 100000 in
theorem grows_bad (k r c q a b : Int) (w : World) (hm : may k r c q = false) : Calls Try.prog 7 #[.agg #[.int .i64 k, .int .i64 r, .int .i64 c, .int .i64 q], .int .i64 a, .int .i64 b] w fun e w' => e = .returned (.bool true) ∧ Below w.heap.size w w' := by
  have h : Par k r c q 0 0 2 := .inr ⟨hm, rfl, rfl, rfl⟩
  have C0 := fun w => Width_any h w
  have C1 := fun w => Most_any h w
  have C2 := fun w => Direct_any h w
  have C3 := fun w => Leaf_any h w
  rw [show mst 0 = 0 from rfl] at C1
  rw [show dir 0 = 0 from rfl] at C2
  rw [show lea 0 = 0 from rfl] at C3
  clear h hm
  obtain ⟨w0, hw0⟩ : ∃ w0, w0 = w.alloc (.cells #[.int .i64 k, .int .i64 r, .int .i64 c, .int .i64 q] 23) := ⟨_, rfl⟩
  have b0 : Below w.heap.size w w0 := by rw [hw0]; exact below_alloc _ _
  go_enter Try.func7, Try.ntmps7
  go_wp2_with fail
  rw [← hw0]
  refine (awake_any _).mono ?_
  rintro e wp ⟨rfl, hp⟩
  obtain ⟨s0, s1, s2, s3⟩ := par_held hw0 hp
  go_wp2_with fail
  refine (C0 _).mono ?_
  rintro e v0 ⟨rfl, g0⟩
  have k0 := below_then hp g0
  clear C0 g0 hp s0 s1 s2 s3
  obtain ⟨s0, s1, s2, s3⟩ := par_held hw0 k0
  go_wp2_with fail
  refine (C1 _).mono ?_
  rintro e v1 ⟨rfl, g1⟩
  have k1 := below_then k0 g1
  clear C1 g1 k0 s0 s1 s2 s3
  obtain ⟨s0, s1, s2, s3⟩ := par_held hw0 k1
  go_wp2_with fail
  refine (C2 _).mono ?_
  rintro e v2 ⟨rfl, g2⟩
  have k2 := below_then k1 g2
  clear C2 g2 k1 s0 s1 s2 s3
  obtain ⟨s0, s1, s2, s3⟩ := par_held hw0 k2
  go_wp2_with fail
  refine (C3 _).mono ?_
  rintro e v3 ⟨rfl, g3⟩
  have k3 := below_then k2 g3
  clear C3 g3 k2 s0 s1 s2 s3
  obtain ⟨s0, s1, s2, s3⟩ := par_held hw0 k3
  clear hw0
  go_wp2_with fail
  go_ret
  exact ⟨rfl, below_then b0 k3⟩
/-- The numbers that LayoutGrows looks at, of one length. -/
structure Fits (W a s x n d : Nat) : Prop where
  st : s ≤ 32768
  le : x ≤ s
  ro : n = 1 + x + s
  de : d = min x 1
  dp : 0 < x ↔ dir W < s
theorem fits {W a s x n d : Nat} (h : 32 ≤ W) (ha : a ≤ 32768) (h1 : s = up a W) (h2 : x = lvs W s) (h3 : d = min x 1) (h4 : n = 1 + x + s) : Fits W a s x n d :=
  ⟨by have := up_self a W (by omega); omega, by rw [h2]; exact lvs_le h, h4, h3, by rw [h2]; exact lvs_pos h⟩
theorem room1 {W a s : Nat} (h : 32 ≤ W) (h2 : W ≤ 768) (hs : s ≤ 32768) (h1 : s = up a W) : ∃ p : Nat, wrap64 ((s : Int) * (W : Int)) = (p : Int) ∧ a ≤ p := by
  have h3 : s * W ≤ 25165824 := Nat.mul_le_mul hs h2
  refine ⟨s * W, ?_, by rw [h1]; exact up_room (by omega)⟩
  rw [← Int.natCast_mul, w64 _ (by omega)]
theorem room2 {W a s : Nat} (h : 32 ≤ W) (h2 : W ≤ 768) (hs : s ≤ 32768) (h1 : s = up a W) : ∃ p : Int, wrap64 (((s : Int) - 1) * (W : Int)) = p ∧ p < (a : Int) := by
  have h3 : s * W ≤ 25165824 := Nat.mul_le_mul hs h2
  have e : ((s : Int) - 1) * (W : Int) = ((s * W : Nat) : Int) - (W : Int) := by rw [Int.sub_mul, Int.one_mul, Int.natCast_mul]
  refine ⟨_, rfl, ?_⟩
  rw [e, w64 _ (by omega)]
  by_cases h0 : s = 0
  · subst h0; rw [Nat.zero_mul]; omega
  · have h4 := up_less (a := a) (b := W) (by omega) (by omega)
    rw [← h1] at h4
    have h5 : (s - 1) * W + W = s * W := by rw [← Nat.succ_mul]; congr 1; omega
    omega
theorem room3 {W s x : Nat} (h : 32 ≤ W) (h2 : W ≤ 768) (hx : x ≤ 32768) (h1 : x = lvs W s) (h0 : 0 < x) : ∃ p p' : Nat, wrap64 ((x : Int) * ((lea W : Nat) : Int)) = (p : Int) ∧ s ≤ p ∧ wrap64 (((x : Int) - 1) * ((lea W : Nat) : Int)) = (p' : Int) ∧ p' < s := by
  have hl := lea_le h2
  have h3 : x * lea W ≤ 4194304 := Nat.mul_le_mul hx hl
  have h4 := lvs_room h (h1 ▸ h0)
  rw [← h1] at h4
  have h5 : (x - 1) * lea W ≤ x * lea W := Nat.mul_le_mul_right _ (by omega)
  refine ⟨x * lea W, (x - 1) * lea W, ?_, h4.1, ?_, h4.2⟩
  · rw [← Int.natCast_mul, w64 _ (by omega)]
  · rw [show ((x : Int) - 1) = ((x - 1 : Nat) : Int) by omega, ← Int.natCast_mul, w64 _ (by omega)]
set_option maxHeartbeats 4000000 in
set_option maxRecDepth 100000 in
theorem grows_good (k r c q a b : Int) (w : World) (hm : may k r c q = true) : Calls Try.prog 7 #[.agg #[.int .i64 k, .int .i64 r, .int .i64 c, .int .i64 q], .int .i64 a, .int .i64 b] w fun e w' => e = .returned (.bool true) ∧ Below w.heap.size w w' := by
  obtain ⟨N, W, y, h⟩ := par_any k r c q
  obtain ⟨g1, hW, hW2, rfl, hkc⟩ := h.good hm
  clear hkc
  have C0 := fun w => Width_any h w
  have C1 := fun w => Most_any h w
  have C2 := fun w => Direct_any h w
  have C3 := fun w => Leaf_any h w
  have mm := mst_le W
  have mw := mst_ge hW hW2
  have d1 := dir_ge hW
  have dl := dir_lea W
  obtain ⟨T, hT⟩ : ∃ T, T = lvs W (up (mst W) W) := ⟨_, rfl⟩
  have hT2 : T ≤ dir W := by rw [hT]; exact lvs_top hW
  have hMT : Made k r c q ((mst W : Nat) : Int) W (up (mst W) W) (min T 1) T (1 + T + up (mst W) W) 0 := .inl ⟨hm, by omega, by omega, by rw [Int.toNat_natCast], hT, rfl, rfl, rfl⟩
  have C4 := fun w => Leaves_any h hMT w
  obtain ⟨s, d, x, n, ea, ha⟩ := made_any k r c q a W
  obtain ⟨t, _, y, v, eb, hb⟩ := made_any k r c q b W
  have C5 := fun w => Stripes_any h ha w
  have C6 := fun w => Stripes_any h hb w
  have C7 := fun w => Leaves_any h ha w
  have C8 := fun w => Leaves_any h hb w
  have C9 := fun w => Rows_any h ha w
  have C10 := fun w => Rows_any h hb w
  have C11 := fun w => Depth_any h ha w
  have hea : (ea = 2 ∨ ea = 3) ∨ (ea = 0 ∧ ∃ la : Nat, a = (la : Int) ∧ la ≤ 32768 ∧ s = up la W ∧ x = lvs W s ∧ d = min x 1 ∧ n = 1 + x + s) := by
    rcases ha with ⟨_, h1, h2, h3, h4, h5, h6, h7⟩ | ⟨_, _, _, _, _, h7⟩ | ⟨_, _, _, _, _, _, _, h7⟩
    · exact .inr ⟨h7, a.toNat, by omega, by omega, h3, h4, h5, h6⟩
    · exact .inl (.inl h7)
    · exact .inl (.inr h7)
  have heb : (eb = 2 ∨ eb = 3) ∨ (eb = 0 ∧ ∃ lb : Nat, b = (lb : Int) ∧ lb ≤ 32768 ∧ t = up lb W ∧ y = lvs W t ∧ v = 1 + y + t) := by
    rcases hb with ⟨_, h1, h2, h3, h4, h5, h6, h7⟩ | ⟨_, _, _, _, _, h7⟩ | ⟨_, _, _, _, _, _, _, h7⟩
    · exact .inr ⟨h7, b.toNat, by omega, by omega, h3, h4, h6⟩
    · exact .inl (.inl h7)
    · exact .inl (.inr h7)
  clear h hm g1 hT hMT ha hb
  obtain ⟨dr, hdr⟩ : ∃ u, u = dir W := ⟨_, rfl⟩
  obtain ⟨l, hl⟩ : ∃ u, u = lea W := ⟨_, rfl⟩
  have HDR : Hid (dr = dir W) := hdr
  have HLE : Hid (l = lea W) := hl
  rw [← hdr] at C2 d1 dl hT2
  rw [← hl] at C3 dl
  clear hdr hl
  generalize mst W = m at *
  have HEA : Hid ((ea = 2 ∨ ea = 3) ∨ (ea = 0 ∧ ∃ la : Nat, a = (la : Int) ∧ la ≤ 32768 ∧ s = up la W ∧ x = lvs W s ∧ d = min x 1 ∧ n = 1 + x + s)) := hea
  have HEB : Hid ((eb = 2 ∨ eb = 3) ∨ (eb = 0 ∧ ∃ lb : Nat, b = (lb : Int) ∧ lb ≤ 32768 ∧ t = up lb W ∧ y = lvs W t ∧ v = 1 + y + t)) := heb
  clear hea heb
  obtain ⟨w0, hw0⟩ : ∃ w0, w0 = w.alloc (.cells #[.int .i64 k, .int .i64 r, .int .i64 c, .int .i64 q] 23) := ⟨_, rfl⟩
  have b0 : Below w.heap.size w w0 := by rw [hw0]; exact below_alloc _ _
  go_enter Try.func7, Try.ntmps7
  go_wp2_with fail
  rw [← hw0]
  refine (awake_any _).mono ?_
  rintro e wp ⟨rfl, hp⟩
  obtain ⟨s0, s1, s2, s3⟩ := par_held hw0 hp
  go_wp2_with fail
  refine (C0 _).mono ?_
  rintro e v0 ⟨rfl, g0⟩
  have k0 := below_then hp g0
  clear C0 g0 hp s0 s1 s2 s3
  obtain ⟨s0, s1, s2, s3⟩ := par_held hw0 k0
  go_wp2_with fail
  refine (C1 _).mono ?_
  rintro e v1 ⟨rfl, g1⟩
  have k1 := below_then k0 g1
  clear C1 g1 k0 s0 s1 s2 s3
  obtain ⟨s0, s1, s2, s3⟩ := par_held hw0 k1
  go_wp2_with fail
  refine (C2 _).mono ?_
  rintro e v2 ⟨rfl, g2⟩
  have k2 := below_then k1 g2
  clear C2 g2 k1 s0 s1 s2 s3
  obtain ⟨s0, s1, s2, s3⟩ := par_held hw0 k2
  go_wp2_with fail
  refine (C3 _).mono ?_
  rintro e v3 ⟨rfl, g3⟩
  have k3 := below_then k2 g3
  clear C3 g3 k2 s0 s1 s2 s3
  obtain ⟨s0, s1, s2, s3⟩ := par_held hw0 k3
  go_wp2_with fail
  refine (C4 _).mono ?_
  rintro e v4 ⟨rfl, g4⟩
  have k4 := below_then k3 g4
  clear C4 g4 k3 s0 s1 s2 s3
  obtain ⟨s0, s1, s2, s3⟩ := par_held hw0 k4
  go_wp2_with fail
  refine (C5 _).mono ?_
  rintro e v5 ⟨rfl, g5⟩
  have k5 := below_then k4 g5
  clear C5 g5 k4 s0 s1 s2 s3
  obtain ⟨s0, s1, s2, s3⟩ := par_held hw0 k5
  go_wp2_with fail
  refine (C6 _).mono ?_
  rintro e v6 ⟨rfl, g6⟩
  have k6 := below_then k5 g6
  clear C6 g6 k5 s0 s1 s2 s3
  obtain ⟨s0, s1, s2, s3⟩ := par_held hw0 k6
  go_wp2_with fail
  refine (C7 _).mono ?_
  rintro e v7 ⟨rfl, g7⟩
  have k7 := below_then k6 g7
  clear C7 g7 k6 s0 s1 s2 s3
  obtain ⟨s0, s1, s2, s3⟩ := par_held hw0 k7
  go_wp2_with fail
  refine (C8 _).mono ?_
  rintro e v8 ⟨rfl, g8⟩
  have k8 := below_then k7 g8
  clear C8 g8 k7 s0 s1 s2 s3
  obtain ⟨s0, s1, s2, s3⟩ := par_held hw0 k8
  go_wp2_with fail
  refine (C9 _).mono ?_
  rintro e v9 ⟨rfl, g9⟩
  have k9 := below_then k8 g9
  clear C9 g9 k8 s0 s1 s2 s3
  obtain ⟨s0, s1, s2, s3⟩ := par_held hw0 k9
  go_wp2_with fail
  refine (C10 _).mono ?_
  rintro e v10 ⟨rfl, g10⟩
  have k10 := below_then k9 g10
  clear C10 g10 k9 s0 s1 s2 s3
  obtain ⟨s0, s1, s2, s3⟩ := par_held hw0 k10
  go_wp2_with fail
  refine (C11 _).mono ?_
  rintro e v11 ⟨rfl, g11⟩
  have k11 := below_then k10 g11
  clear C11 g11 k10 s0 s1 s2 s3
  obtain ⟨s0, s1, s2, s3⟩ := par_held hw0 k11
  clear hw0 s0 s1 s2 s3
  rcases HEA.out with hea | ⟨rfl, la, rfl, h1, h2, h3, h4, h5⟩
  · have hbb : (eb = 2 ∨ eb = 3) ∨ eb = 0 := by rcases HEB.out with h | h; exact .inl h; exact .inr h.1
    clear HEA HEB
    rcases hea with rfl | rfl <;> rcases hbb with (rfl | rfl) | rfl
    all_goals (
      go_wp2_with fail
      go_ret
      exact ⟨rfl, below_then b0 k11⟩)
  · rcases HEB.out with heb | ⟨rfl, lb, rfl, j1, j2, j3, j5⟩
    · clear h1 h2 h3 h4 h5 HEA HEB
      rcases heb with rfl | rfl
      all_goals (
        go_wp2_with fail
        go_ret
        exact ⟨rfl, below_then b0 k11⟩)
    · clear HEA HEB
      have fa := fits hW h1 h2 h3 h4 h5
      obtain ⟨p1, q1, r1⟩ := room1 hW hW2 fa.st h2
      obtain ⟨p2, q2, r2⟩ := room2 hW hW2 fa.st h2
      have gs : la ≤ lb → s ≤ t := fun h => by rw [h2, j2]; exact up_mono h
      have gx : s ≤ t → x ≤ y := fun h => by rw [h3, j3]; exact lvs_mono h
      have ht : t ≤ 32768 := by have := up_self lb W (by omega); omega
      have hy : y ≤ t := by rw [j3]; exact lvs_le hW
      have fst := fa.st
      have fle := fa.le
      have fdp := fa.dp
      have fde := fa.de
      rw [← HDR.out] at fdp
      by_cases hx : 0 < x
      · obtain ⟨p3, p4, q3, r3, q4, r4⟩ := room3 hW hW2 (by omega) h3 hx
        have HDE : d = 1 := by omega
        have HNE : n = 1 + x + s := h5
        have hds : dr < s := fdp.1 hx
        rw [← HLE.out] at q3 q4
        clear h2 h3 h4 h5 j2 j3 fa fdp fde
        subst HDE HNE j5
        by_cases hab : lb < la
        · clear gs gx
          go_wp2_with fail
          go_ret
          exact ⟨rfl, below_then b0 k11⟩
        · have hst := gs (by omega)
          have hxy := gx hst
          clear gs gx
          go_wp2_with fail
          go_ret
          exact ⟨ret_bool (decide_eq_true (by omega)), below_then b0 k11⟩
      · obtain rfl : x = 0 := by omega
        have HDE : d = 0 := by omega
        have HNE : n = 1 + s := by omega
        have hds : ¬ dr < s := fun h => by have := fdp.2 h; omega
        clear h2 h3 h4 h5 j2 j3 fa fdp fde
        subst HDE HNE j5
        by_cases hab : lb < la
        · clear gs gx
          go_wp2_with fail
          go_ret
          exact ⟨rfl, below_then b0 k11⟩
        · have hst := gs (by omega)
          clear gs gx
          go_wp2_with fail
          go_ret
          exact ⟨ret_bool (decide_eq_true (by omega)), below_then b0 k11⟩
theorem grows_walk (k r c q a b : Int) (_ha : (Lit.int .i64 a).wf = true) (_hb : (Lit.int .i64 b).wf = true) (w : World) : Calls Try.prog 7 #[.agg #[.int .i64 k, .int .i64 r, .int .i64 c, .int .i64 q], .int .i64 a, .int .i64 b] w fun e w' => e = .returned (.bool true) ∧ Below w.heap.size w w' := by
  cases hm : may k r c q
  · exact grows_bad k r c q a b w hm
  · exact grows_good k r c q a b w hm
end Go.Proofs.Ytenifakhojdfpaa
