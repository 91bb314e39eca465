import Derived.Test.YtmoenmpbkockoaaGreatWj2
namespace Go.Proofs.YtmoenmpbkockoaaGreat.Im
open Go.RowKit
theorem Pm.par {k r c q : Int} {N Q S : Nat} (h : Pm k r c q N Q S) : ∃ W, Par k r c q N W 0 := by
  obtain ⟨h0, hN, hQ, hS⟩ := h
  obtain ⟨h1, h2, h3, h4, h5, h6, h7, h8, h9⟩ := may_true h0
  exact ⟨(k * c).toNat, .inl ⟨h0, by omega, hN, rfl⟩⟩
theorem drives_ok {k r c q : Int} {N Q S : Nat} (h : Pm k r c q N Q S) (w : World) :
    Calls Tryz.prog 105 #[.agg #[.int .i64 k, .int .i64 r, .int .i64 c, .int .i64 q]] w fun e w' => e = .returned (.tuple #[.int .i64 (N : Int), .int .i64 0]) /\ Below w.heap.size w w' := by
  obtain ⟨W, hp⟩ := h.par
  exact Drives_any hp w
theorem drives_bad {k r c q : Int} (h : may k r c q = false) (w : World) :
    Calls Tryz.prog 105 #[.agg #[.int .i64 k, .int .i64 r, .int .i64 c, .int .i64 q]] w fun e w' => e = .returned (.tuple #[.int .i64 0, .int .i64 2]) /\ Below w.heap.size w w' :=
  Drives_any (N := 0) (W := 0) (.inr ⟨h, rfl, rfl, rfl⟩) w
set_option maxHeartbeats 400000 in
theorem N_any {k r : Int} (c q : Int) {N : Nat} (h : (N : Int) = k + r) (hk : N <= 16) (w : World) :
    Calls Tryz.prog 59 #[.agg #[.int .i64 k, .int .i64 r, .int .i64 c, .int .i64 q]] w fun e w' => e = .returned (.int .i64 (N : Int)) /\ Below w.heap.size w w' := by
  have HN : Hid (k + r = (N : Int)) := h.symm
  go_enter Tryz.func59, Tryz.ntmps59
  go_wp2
  go_ret
  exact ⟨ret_int HN.out, below_alloc _ _⟩
set_option maxHeartbeats 400000 in
theorem inW_any (n b : Int) (w : World) :
    Calls Tryz.prog 68 #[.int .i64 n, .int .i64 b] w fun e w' => e = .returned (.bool (decide (0 <= n /\ n < b))) /\ w' = w := by
  rw [Bool.decide_and]
  go_enter Tryz.func68, Tryz.ntmps68
  go_wp2
  · go_ret
    exact ⟨ret_bool (by rw [decide_eq_true (show 0 <= n by omega)]; rfl), rfl⟩
  · go_ret
    exact ⟨ret_bool (by rw [decide_eq_false (show ¬ 0 <= n by omega)]; rfl), rfl⟩
set_option maxHeartbeats 400000 in
theorem Size_any {k r c q : Int} {N Q S : Nat} (h : Pm k r c q N Q S) (w : World) :
    Calls Tryz.prog 189 #[.agg #[.int .i64 k, .int .i64 r, .int .i64 c, .int .i64 q]] w fun e w' => e = .returned (.int .i64 (S : Int)) /\ Below w.heap.size w w' := by
  have hb := h.bounds
  have HC := fun w => N_any c q h.2.1 hb.2.1 w
  have HS : Hid (12 + 4 * (N : Int) + c = (S : Int)) := by obtain ⟨_, h1, _, h2⟩ := h; show _ = _; omega
  have hc1 : -1000 <= c := by have := HS.out; omega
  have hc2 : c <= 1000 := by have := HS.out; omega
  obtain ⟨_, hb2, _⟩ := hb
  have e1 : IntKind.i64.wrap (4 * (N : Int)) = 4 * (N : Int) := by rw [IntKind.wrap_i64]; omega
  have e2 : IntKind.i64.wrap (12 + 4 * (N : Int)) = 12 + 4 * (N : Int) := by rw [IntKind.wrap_i64]; omega
  have e3 : IntKind.i64.wrap (12 + 4 * (N : Int) + c) = 12 + 4 * (N : Int) + c := by rw [IntKind.wrap_i64]; omega
  clear h
  obtain ⟨w0, hw0⟩ : ∃ w0, w0 = w.alloc (.cells #[.int .i64 k, .int .i64 r, .int .i64 c, .int .i64 q] 23) := ⟨_, rfl⟩
  have b0 : Below w.heap.size w w0 := by rw [hw0]; exact below_alloc _ _
  obtain ⟨s0, s1, s2, s3⟩ := par_held hw0 (Below.refl _ _)
  go_enter Tryz.func189, Tryz.ntmps189
  go_wp2_with fail
  rw [<- hw0]
  clear hw0
  have SH : Hid (∀ v, Below w0.drew.heap.size w0.drew v -> v.cell? ⟨w.heap.size, 0, none⟩ = some (.int .i64 k) /\ v.cell? ⟨w.heap.size, 1, none⟩ = some (.int .i64 r) /\ v.cell? ⟨w.heap.size, 2, none⟩ = some (.int .i64 c) /\ v.cell? ⟨w.heap.size, 3, none⟩ = some (.int .i64 q)) := fun v hv => have hv' := of_drew hv; ⟨held s0 hv', held s1 hv', held s2 hv', held s3 hv'⟩
  go_region_held3 (fun v => v.cell? ⟨w.heap.size, 0, none⟩ = some (.int .i64 k) /\ v.cell? ⟨w.heap.size, 1, none⟩ = some (.int .i64 r) /\ v.cell? ⟨w.heap.size, 2, none⟩ = some (.int .i64 c) /\ v.cell? ⟨w.heap.size, 3, none⟩ = some (.int .i64 q)) (go_keep)
    ((go_at_call 59; refine (HC _).mono ?_; rintro e wa ⟨rfl, ha⟩; obtain ⟨q0, q1, q2, q3⟩ := SH.out _ ha))
  all_goals (go_wp2; go_ret; exact ⟨ret_int HS.out, below_then b0.drew ha⟩)
set_option maxHeartbeats 400000 in
theorem shapeOf_ok {k r c q : Int} {N Q S : Nat} (h : Pm k r c q N Q S) (w : World) :
    Calls Tryz.prog 127 #[.agg #[.int .i64 k, .int .i64 r, .int .i64 c, .int .i64 q]] w fun e w' => e = .returned (.tuple #[.agg #[.int .i64 (N : Int), .int .i64 (Q : Int), .int .i64 (S : Int)], .int .i64 0]) /\ Below w.heap.size w w' := by
  have HC := fun w => drives_ok h w
  have hb := h.bounds
  have HS : Hid (12 + 4 * (N : Int) + c = (S : Int)) := by obtain ⟨_, h1, _, h2⟩ := h; show _ = _; omega
  have hc1 : -1000 <= c := by have := HS.out; omega
  have hc2 : c <= 1000 := by have := HS.out; omega
  obtain rfl : q = (Q : Int) := h.2.2.1.symm
  obtain ⟨_, hb2, _⟩ := hb
  clear h
  obtain ⟨w0, hw0⟩ : ∃ w0, w0 = w.alloc (.cells #[.int .i64 k, .int .i64 r, .int .i64 c, .int .i64 (Q : Int)] 23) := ⟨_, rfl⟩
  obtain ⟨w1, hw1⟩ : ∃ w1, w1 = w0.alloc (.cells #[.int .i64 0, .int .i64 0, .int .i64 0] 124) := ⟨_, rfl⟩
  have b0 : Below w.heap.size w w0 := by rw [hw0]; exact below_alloc _ _
  have b1 : Below w0.heap.size w0 w1 := by rw [hw1]; exact below_alloc _ _
  have z0 : w0.heap.size = w.heap.size + 1 := by rw [hw0]; simp
  go_enter Tryz.func127, Tryz.ntmps127
  go_wp2_with fail
  rw [<- hw0, <- hw1]
  refine (HC _).mono ?_
  rintro e wa ⟨rfl, ha⟩
  obtain ⟨s0, s1, s2, s3⟩ := par_held hw0 (below_then b1 ha)
  obtain ⟨m0, m1, m2⟩ := shp_held hw1 ha
  have f := blk_free hw1 ha
  rw [z0] at m0 m1 m2 f
  have hB := below_then (below_then b0 b1) ha
  clear hw0 hw1 b0 b1 ha
  go_wp2_with fail
  refine bodyPost_ret (v := .tuple #[.agg #[.int .i64 (N : Int), .int .i64 (Q : Int), .int .i64 (12 + 4 * (N : Int) + c)], .int .i64 0]) (by simp [results, Tryz.results127, go_sem, m0, m1, m2]) rfl ⟨by rw [HS.out], ?_⟩
  exact ((hB.setCell (Nat.le_succ _) _).setCell (Nat.le_succ _) _).setCell (Nat.le_succ _) _
set_option maxHeartbeats 400000 in
theorem shapeOf_bad {k r c q : Int} (h : may k r c q = false) (w : World) :
    Calls Tryz.prog 127 #[.agg #[.int .i64 k, .int .i64 r, .int .i64 c, .int .i64 q]] w fun e w' => e = .returned (.tuple #[.agg #[.int .i64 0, .int .i64 0, .int .i64 0], .int .i64 2]) /\ Below w.heap.size w w' := by
  have HC := fun w => drives_bad h w
  clear h
  obtain ⟨w0, hw0⟩ : ∃ w0, w0 = w.alloc (.cells #[.int .i64 k, .int .i64 r, .int .i64 c, .int .i64 q] 23) := ⟨_, rfl⟩
  obtain ⟨w1, hw1⟩ : ∃ w1, w1 = w0.alloc (.cells #[.int .i64 0, .int .i64 0, .int .i64 0] 124) := ⟨_, rfl⟩
  have b0 : Below w.heap.size w w0 := by rw [hw0]; exact below_alloc _ _
  have b1 : Below w0.heap.size w0 w1 := by rw [hw1]; exact below_alloc _ _
  have z0 : w0.heap.size = w.heap.size + 1 := by rw [hw0]; simp
  go_enter Tryz.func127, Tryz.ntmps127
  go_wp2_with fail
  rw [<- hw0, <- hw1]
  refine (HC _).mono ?_
  rintro e wa ⟨rfl, ha⟩
  obtain ⟨m0, m1, m2⟩ := shp_held hw1 ha
  have f := blk_free hw1 ha
  rw [z0] at m0 m1 m2 f
  have hB := below_then (below_then b0 b1) ha
  clear hw0 hw1 b0 b1 ha
  go_wp2_with fail
  refine bodyPost_ret (v := .tuple #[.agg #[.int .i64 0, .int .i64 0, .int .i64 0], .int .i64 2]) (by simp [results, Tryz.results127, go_sem, m0, m1, m2]) rfl ⟨rfl, ?_⟩
  exact ((hB.setCell (Nat.le_succ _) _).setCell (Nat.le_succ _) _).setCell (Nat.le_succ _) _
set_option maxHeartbeats 400000 in
theorem at_any (N Q S : Nat) (hQ : Q <= 256) (d o s : Int) (h1 : 0 <= d) (h2 : d <= 16) (h3 : 0 <= o) (h4 : o <= 256) (h5 : 0 <= s) (h6 : s <= 2) (w : World) :
    Calls Tryz.prog 74 #[.agg #[.int .i64 (N : Int), .int .i64 (Q : Int), .int .i64 (S : Int)], .int .i64 d, .int .i64 o, .int .i64 s] w fun e w' => e = .returned (.int .i64 ((plc Q d o s : Nat) : Int)) /\ Below w.heap.size w w' := by
  obtain ⟨p, hp, hp2⟩ : ∃ p : Nat, d * (Q : Int) = (p : Int) /\ p <= 4096 := by
    obtain ⟨a, rfl⟩ := Int.eq_ofNat_of_zero_le h1
    have : a * Q <= 16 * 256 := Nat.mul_le_mul (by omega) hQ
    exact ⟨a * Q, by simp, by omega⟩
  have HR : Hid (((p : Int) + o) * 2 + s = ((plc Q d o s : Nat) : Int)) := by show _ = _; rw [plc_cast h1 h3 h5, hp]
  have hv : Value.int .i64 (wrap64 (d * (Q : Int))) = .int .i64 (p : Int) := by rw [hp, w64 _ (by omega)]
  clear hp
  go_enter Tryz.func74, Tryz.ntmps74
  go_wp2
  go_ret
  exact ⟨ret_int HR.out, below_alloc _ _⟩
theorem plc_all (Q N : Nat) : plc Q (N : Int) 0 0 = N * Q * 2 := by unfold plc; simp
set_option maxHeartbeats 400000 in
theorem slots_any (N Q S : Nat) (hN : N <= 16) (hQ : Q <= 256) (w : World) :
    Calls Tryz.prog 128 #[.agg #[.int .i64 (N : Int), .int .i64 (Q : Int), .int .i64 (S : Int)]] w fun e w' => e = .returned (.int .i64 ((N * Q * 2 : Nat) : Int)) /\ Below w.heap.size w w' := by
  have HC := fun w => at_any N Q S hQ (N : Int) 0 0 (by omega) (by omega) (by decide) (by decide) (by decide) (by decide) w
  rw [plc_all] at HC
  generalize N * Q * 2 = n at HC ⊢
  obtain ⟨w0, hw0⟩ : ∃ w0, w0 = w.alloc (.cells #[.int .i64 (N : Int), .int .i64 (Q : Int), .int .i64 (S : Int)] 124) := ⟨_, rfl⟩
  have b0 : Below w.heap.size w w0 := by rw [hw0]; exact below_alloc _ _
  go_enter Tryz.func128, Tryz.ntmps128
  go_wp2_with fail
  rw [<- hw0]
  refine (HC _).mono ?_
  rintro e wa ⟨rfl, ha⟩
  clear hw0
  go_wp2_with fail
  go_ret
  exact ⟨rfl, below_then b0 ha⟩
set_option maxHeartbeats 400000 in
set_option maxRecDepth 100000 in
theorem copied_any (w : World) (ao : Option Addr) (n cp : Nat) (c : List UInt8) (hr : RdB w ao c) (hn : n = c.length) (hc : c.length <= 1000000) :
    Calls Tryz.prog 129 #[.slice ao n cp] w fun e w' => ∃ ao' cap', e = .returned (.slice ao' c.length cap') /\ OwC w.heap.size w' ao' cap' c /\ Below w.heap.size w w' := by
  by_cases h0 : c = []
  · subst h0
    obtain rfl : n = 0 := hn
    clear hr
    go_enter Tryz.func129, Tryz.ntmps129
    go_wp2
    go_ret
    exact ⟨none, 0, rfl, .inl ⟨rfl, rfl, rfl⟩, Below.refl _ _⟩
  · have hl : 0 < n := by rw [hn]; exact List.length_pos_iff.2 h0
    obtain ⟨ad, rfl⟩ : ∃ ad, ao = some ad := by obtain ⟨b, off, e, _⟩ := hr h0; exact ⟨_, e⟩
    have HN : Hid (∀ j u, (bys c)[j]? = some u -> w.cell? (ad.add j) = some u) := rdb_news hr
    obtain ⟨X, hX⟩ : ∃ X, X = bys c := ⟨_, rfl⟩
    have HX : Hid (X = bys c) := hX
    have hXl : X.length = n := by rw [hX, bys_length, hn]
    have HO : Hid (∀ u ∈ X, u.oneCell' = true) := by rw [hX]; exact bys_one c
    rw [<- hX] at HN
    have HL : Hid (n = c.length) := hn
    have HC0 : Hid (c ≠ []) := h0
    have hn2 : n <= 1000000 := by omega
    have e1 : ((n : Int) == 0) = false := by simp; omega
    have hmk := run_make_row' (P := Tryz.prog) 75 5 (.int .u8 0) 1 Tryz.underlying75 info5 rfl .i64 .i64 n (by omega) (by omega) w
    obtain ⟨Z, hZ⟩ : ∃ Z : List Value, madeCells #[.int .u8 0] n = Z.toArray := ⟨(madeCells #[.int .u8 0] n).toList, by simp⟩
    have hZl : Z.length = n := by have h := congrArg Array.size hZ; rw [size_madeCells] at h; simpa using h.symm
    rw [hZ] at hmk
    have hsz : (Tryz.prog.info? 5).map (·.size) = some 1 := by kernel_rfl
    clear hZ hX hr hn h0 hc
    go_enter Tryz.func129, Tryz.ntmps129
    go_wp2_with (refine wpList_copy_splice (by rfl) (.tmp 10) (.tmp 11) 75 75 (by rfl) 5 Tryz.underlying75 hsz (some ⟨w.heap.size, 0, none⟩) (some ad) n n n cp (by rfl) (by rfl) w.heap.size 0 Z 5 (by exact heap_alloc_new w _) X (by rw [hXl]; simp) (by intro hp; refine ⟨rfl, ad, rfl, fun j u hu => ?_⟩; exact held (HN.out j u hu) (below_alloc _ _)) (by rw [hXl, hZl]; omega) HO.out w.heap.size w (by exact below_alloc _ _) (Nat.le_refl _) ?_; intro w2 HG2 hB2)
    go_ret
    rw [HL.out]
    refine ⟨_, _, rfl, .inr ⟨_, rfl, Nat.le_refl _, rfl, HC0.out, ?_⟩, hB2⟩
    have h := HG2.out
    rw [show splice Z 0 X = bys c by unfold splice; rw [List.take_zero, List.nil_append, Nat.zero_add, List.drop_eq_nil_of_le (by omega), List.append_nil]; exact HX.out] at h
    exact h
end Go.Proofs.YtmoenmpbkockoaaGreat.Im
