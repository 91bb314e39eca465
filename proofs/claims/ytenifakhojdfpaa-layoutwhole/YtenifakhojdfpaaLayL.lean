/- LayoutWhole: the parts of a range are that range. -/
import Derived.Test.YtenifakhojdfpaaLayK
import Derived.OpenShut
namespace Go.Proofs.Ytenifakhojdfpaa
open Go.RowKit

set_option maxHeartbeats 2000000 in
set_option maxRecDepth 100000 in
theorem whole_bad {k r c q : Int} {N W : Nat} {y : Int} (h : Par k r c q N W y) (off m : Int) (w : World) (e : Int) (hoff : off ≤ 9223372036854775807) (he : (y = 2 ∧ e = 2) ∨ (y = 0 ∧ off < 0 ∧ e = 2) ∨ (y = 0 ∧ 0 ≤ off ∧ m < 0 ∧ e = 2) ∨ (y = 0 ∧ 0 ≤ off ∧ 0 ≤ m ∧ (mst W : Int) < off + m ∧ e = 3)) :
    Calls Try.prog 6 #[.agg #[.int .i64 k, .int .i64 r, .int .i64 c, .int .i64 q], .int .i64 off, .int .i64 m] w fun e' w' => e' = .returned (.bool true) ∧ Below w.heap.size w w' := by
  have C0 := fun w => spans_bad h off m w e hoff he
  have C1 := fun w => Width_any h w
  have hee : e = 2 ∨ e = 3 := by
    rcases he with ⟨_, h⟩ | ⟨_, _, h⟩ | ⟨_, _, _, h⟩ | ⟨_, _, _, _, h⟩
    · exact .inl h
    · exact .inl h
    · exact .inl h
    · exact .inr h
  clear h he
  obtain ⟨w0, hw0⟩ : ∃ w0, w0 = w.alloc (.cells #[.int .i64 k, .int .i64 r, .int .i64 c, .int .i64 q] 23) := ⟨_, rfl⟩
  have b0 : Below w.heap.size w w0 := by rw [hw0]; exact below_alloc _ _
  rcases hee with rfl | rfl
  all_goals (
    go_enter Try.func6, Try.ntmps6
    go_wp2_with fail
    rw [← hw0]
    refine (awake_any _).mono ?_
    rintro e wp ⟨rfl, hp⟩
    obtain ⟨s0, s1, s2, s3⟩ := par_held hw0 hp
    go_wp2_with fail
    refine (C0 _).mono ?_
    rintro e v0 ⟨rfl, g0⟩
    have k0 := below_then hp g0
    clear s0 s1 s2 s3
    obtain ⟨s0, s1, s2, s3⟩ := par_held hw0 k0
    go_wp2_with fail
    refine (C1 _).mono ?_
    rintro e v1 ⟨rfl, g1⟩
    have k1 := below_then k0 g1
    clear hw0
    go_wp2_with fail
    go_ret
    exact ⟨rfl, below_then b0 k1⟩)
set_option maxHeartbeats 2000000 in
set_option maxRecDepth 100000 in
theorem whole_good {k r c q : Nat} {N W : Nat} (h : Par (k : Int) r (c : Int) q N W 0) (o nn : Nat) (w : World) (hon : o + nn ≤ mst W) (hWk : W = k * c) (hk : 1 ≤ k) (hk2 : k ≤ 12) (hc1 : 8 ≤ c) (hc2 : c ≤ 64) :
    Calls Try.prog 6 #[.agg #[.int .i64 (k : Int), .int .i64 (r : Int), .int .i64 (c : Int), .int .i64 (q : Int)], .int .i64 (o : Int), .int .i64 (nn : Int)] w fun e' w' => e' = .returned (.bool true) ∧ Below w.heap.size w w' := by
  have C0 := fun w => spans_good h o nn w hon hWk hk hc1 hc2
  have C1 := fun w => Width_any h w
  have hm := mst_le W
  have hW2 := h.wide
  clear h
  generalize mst W = zz at *
  obtain ⟨w0, hw0⟩ : ∃ w0, w0 = w.alloc (.cells #[.int .i64 (k : Int), .int .i64 (r : Int), .int .i64 (c : Int), .int .i64 (q : Int)] 23) := ⟨_, rfl⟩
  have b0 : Below w.heap.size w w0 := by rw [hw0]; exact below_alloc _ _
  go_enter Try.func6, Try.ntmps6
  go_wp2_with fail
  rw [← hw0]
  refine (awake_any _).mono ?_
  rintro e wp ⟨rfl, hp⟩
  obtain ⟨s0, s1, s2, s3⟩ := par_held hw0 hp
  go_wp2_with fail
  refine (C0 _).mono ?_
  rintro e v0 ⟨n, ao, cap, rfl, hE, hown, g0⟩
  have k0 := below_then hp g0
  clear s0 s1 s2 s3
  obtain ⟨s0, s1, s2, s3⟩ := par_held hw0 k0
  go_wp2_with fail
  refine (C1 _).mono ?_
  rintro e v1 ⟨rfl, g1⟩
  have k1 := below_then k0 g1
  clear s0 s1 s2 s3
  obtain ⟨s0, s1, s2, s3⟩ := par_held hw0 k1
  clear hw0
  have HE : Hid (End o (o + nn) c n) := hE
  have HO : Hid (v0.ownsRow wp.heap.size 36 4 (.slice ao n cap) n (spOf (stp o c k) (cel o c k) (frm o c) (til o (o + nn) c) n)) := hown
  have HG : Hid (Below v0.heap.size v0 v1) := g1
  have hn := end_le (by omega) hE
  have HWK : Hid (W = k * c) := hWk
  have HB1 : Hid (Below w.heap.size w v1) := below_then b0 k1
  have S0 : Hid (v1.cell? ⟨w.heap.size, 0, none⟩ = some (.int .i64 (k : Int))) := s0
  have S2 : Hid (v1.cell? ⟨w.heap.size, 2, none⟩ = some (.int .i64 (c : Int))) := s2
  clear hE hown g0 g1 k0 k1 hWk C0 C1 s0 s1 s2 s3 b0 hp
  go_wp2_with fail
  go_loopw [12, 13] (fun x y wr => ∃ i : Nat, i ≤ n ∧ Hid (x = .int .i64 ((pos o (o + nn) c i : Nat) : Int)) ∧ y = .int .i64 (i : Int) ∧ Hid (Below v1.heap.size v1 wr)) (fun _ y _ => n - (intOf y).toNat)
  case atStart => exact ⟨0, Nat.zero_le _, rfl, rfl, Below.refl _ _⟩
  case round =>
    obtain ⟨i, hin, hx, rfl, hbel⟩ := hrel
    by_cases hlt : i < n
    · have hpe := end_pos HE.out hlt
      have r1 := til_gt (by omega) hpe
      have r2 := til_le o (o + nn) c i
      have r3 := pos_til (by omega) hpe
      have r4 := stp_at (k := k) (by omega) hpe
      have r5 : cel o c k i < k := Nat.mod_lt _ (by omega)
      have r6 : i ≠ 0 → frm o c i = 0 := fun h => by unfold frm; rw [if_neg h]
      obtain ⟨g, hg⟩ : ∃ g, ao = some ⟨g, 0, none⟩ := by
        rcases HO.out.2 with ⟨_, h1⟩ | ⟨g, cap', cur, h1, _⟩
        · omega
        · cases h1; exact ⟨g, rfl⟩
      subst hg
      obtain ⟨e1, e2, e3, e4⟩ := spOf_get (stp o c k) (cel o c k) (frm o c) (til o (o + nn) c) n i hlt
      have hbb := below_then HG.out hbel.out
      have c1 := held (HO.out.cells (g := g) rfl _ _ e1) hbb
      have c2 := held (HO.out.cells (g := g) rfl _ _ e2) hbb
      have c3 := held (HO.out.cells (g := g) rfl _ _ e3) hbb
      have c4 := held (HO.out.cells (g := g) rfl _ _ e4) hbb
      rw [Addr.add_lit, Nat.zero_add] at c1 c2 c3 c4
      have t0 := held S0.out hbel.out
      have t2 := held S2.out hbel.out
      have u0 : ∀ o, (wr.alloc o).cell? ⟨w.heap.size, 0, none⟩ = some (.int .i64 (k : Int)) := fun o => held t0 (below_alloc wr o)
      have u2 : ∀ o, (wr.alloc o).cell? ⟨w.heap.size, 2, none⟩ = some (.int .i64 (c : Int)) := fun o => held t2 (below_alloc wr o)
      have HP2 : Hid (pos o (o + nn) c (i + 1) ≤ o + nn) := pos_le (by omega)
      have hx' : _ = _ := hx
      obtain ⟨P, hP⟩ : ∃ P, P = pos o (o + nn) c i := ⟨_, rfl⟩
      obtain ⟨sv, hsv⟩ : ∃ u, u = stp o c k i := ⟨_, rfl⟩
      obtain ⟨cv, hcv⟩ : ∃ u, u = cel o c k i := ⟨_, rfl⟩
      obtain ⟨fv, hfv⟩ : ∃ u, u = frm o c i := ⟨_, rfl⟩
      obtain ⟨tv, htv⟩ : ∃ u, u = til o (o + nn) c i := ⟨_, rfl⟩
      rw [← hP] at hpe r3 r4 hx'
      rw [← hsv] at r4 c1
      rw [← hcv] at r4 r5 c2
      rw [← hfv] at r1 r3 r4 r6 c3
      rw [← htv] at r1 r2 r3 c4
      rw [← HWK.out] at r4
      have HS : Hid (P + tv - fv = pos o (o + nn) c (i + 1)) := r3
      obtain ⟨A, hA, hA2⟩ : ∃ A : Nat, A = sv * W ∧ A ≤ 32768 := ⟨sv * W, rfl, by omega⟩
      obtain ⟨D, hD, hD2⟩ : ∃ A : Nat, A = cv * c ∧ A ≤ 32768 := ⟨cv * c, rfl, by omega⟩
      have a1 : Value.int .i64 (wrap64 ((sv : Int) * (W : Int))) = .int .i64 (A : Int) := val_int (by rw [← Int.natCast_mul, ← hA, w64 _ (by omega)])
      have a2 : Value.int .i64 (wrap64 ((cv : Int) * (c : Int))) = .int .i64 (D : Int) := val_int (by rw [← Int.natCast_mul, ← hD, w64 _ (by omega)])
      have hP2 : P ≤ 32768 := Nat.le_trans (Nat.le_of_lt hpe) (Nat.le_trans hon hm)
      have a3 : ((A : Int) + (D : Int) + (fv : Int) != (P : Int)) = false := by
        rw [← hA, ← hD] at r4
        rw [← r4]
        exact bne_self_eq_false _
      have i1 : (0 : Int) ≤ (i : Int) := by omega
      have i2 : (i : Int) < (n : Int) := by omega
      subst hx'
      clear hx r3 r4 hA hD hP hsv hcv hfv htv e1 e2 e3 e4 hbb t0 t2 hpe
      have hws := hbel.out.size
      have p2 : ¬ tv ≤ fv := by omega
      have p3 : ¬ c < tv := by omega
      have p5 : ¬ k ≤ cv := by omega
      have p6 : ¬ (tv : Int) ≤ (fv : Int) := by omega
      have p7 : ¬ (c : Int) < (tv : Int) := by omega
      have p8 : ¬ (k : Int) ≤ (cv : Int) := by omega
      have p9 : ¬ (fv : Int) < 0 := by omega
      have p10 : ¬ (cv : Int) < 0 := by omega
      by_cases hi0 : i = 0
      · skip
        subst hi0
        rw [Nat.zero_mul] at c1
        rw [Nat.zero_mul, Nat.zero_add] at c2 c3 c4
        clear r6
        go_wp2_with fail
        go_roundw
        case rel => exact ⟨1, by omega, by show _ = _; rw [← HS.out]; exact val_int (by omega), rfl, hbel.out.alloc hws _⟩
        case measure => simp [intOf]; omega
      · skip
        obtain rfl := r6 hi0
        have a4 : ((A : Int) + (D : Int) != (P : Int)) = false := by simpa using a3
        have i3 : (0 : Int) < (i : Int) := by omega
        have i4 : 0 < i := by omega
        clear a3 r6
        go_wp2_with fail
        go_roundw
        case rel => exact ⟨i + 1, by omega, by show _ = _; rw [← HS.out]; exact val_int (by omega), by go_num, hbel.out.alloc hws _⟩
        case measure => simp [intOf]; omega
    · obtain rfl : i = n := by omega
      have hpe := end_last (by omega) HE.out
      have hx' : _ = _ := hx
      rw [hpe] at hx'
      subst hx'
      clear hpe hx
      go_wp2_with fail
      go_ret
      exact ⟨rfl, below_then HB1.out hbel.out⟩
set_option maxHeartbeats 2000000 in
set_option maxRecDepth 100000 in
theorem whole_walk (k r c q off m : Int) (hoff : (Lit.int .i64 off).wf = true) (_hm : (Lit.int .i64 m).wf = true) (w : World) :
    Calls Try.prog 6 #[.agg #[.int .i64 k, .int .i64 r, .int .i64 c, .int .i64 q], .int .i64 off, .int .i64 m] w fun e' w' => e' = .returned (.bool true) ∧ Below w.heap.size w w' := by
  have ho := bounds_i64 hoff
  obtain ⟨N, W, y, h⟩ := par_any k r c q
  have hp := h
  rcases h with ⟨p0, p1, p2, rfl⟩ | ⟨p0, p1, p2, rfl⟩
  · obtain ⟨h1, h2, h3, h4, h5, h6, h7, h8, h9⟩ := may_true p0
    by_cases o1 : off < 0
    · exact whole_bad hp off m w 2 (by omega) (.inr (.inl ⟨rfl, o1, rfl⟩))
    · by_cases o2 : m < 0
      · exact whole_bad hp off m w 2 (by omega) (.inr (.inr (.inl ⟨rfl, by omega, o2, rfl⟩)))
      · by_cases o3 : (mst W : Int) < off + m
        · exact whole_bad hp off m w 3 (by omega) (.inr (.inr (.inr ⟨rfl, by omega, by omega, o3, rfl⟩)))
        · obtain ⟨o, rfl⟩ := Int.eq_ofNat_of_zero_le (show 0 ≤ off by omega)
          obtain ⟨nn, rfl⟩ := Int.eq_ofNat_of_zero_le (show 0 ≤ m by omega)
          obtain ⟨k, rfl⟩ := Int.eq_ofNat_of_zero_le (show 0 ≤ k by omega)
          obtain ⟨c, rfl⟩ := Int.eq_ofNat_of_zero_le (show 0 ≤ c by omega)
          obtain ⟨r, rfl⟩ := Int.eq_ofNat_of_zero_le (show 0 ≤ r by omega)
          obtain ⟨q, rfl⟩ := Int.eq_ofNat_of_zero_le (show 0 ≤ q by omega)
          rw [← Int.natCast_mul] at p1
          exact whole_good hp o nn w (by omega) (by omega) (by omega) (by omega) (by omega) (by omega)
  · exact whole_bad hp off m w 2 (by omega) (.inl ⟨rfl, rfl⟩)
end Go.Proofs.Ytenifakhojdfpaa
