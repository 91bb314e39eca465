import Derived.Test.YtngcdlodcdgcaaaGreatZk7
namespace Go.Proofs.YtngcdlodcdgcaaaGreat.Im
open Go.RowKit
theorem Pm.par {k r c q : Int} {N Q S : Nat} (h : Pm k r c q N Q S) : ∃ W, Par k r c q N W 0 := by
  obtain ⟨h0, hN, hQ, hS⟩ := h
  obtain ⟨h1, h2, h3, h4, h5, h6, h7, h8, h9⟩ := may_true h0
  exact ⟨(k * c).toNat, .inl ⟨h0, by omega, hN, rfl⟩⟩
theorem drives_ok {k r c q : Int} {N Q S : Nat} (h : Pm k r c q N Q S) (w : World) :
    Calls Tryz.prog 92 #[.agg #[.int .i64 k, .int .i64 r, .int .i64 c, .int .i64 q]] w fun e w' => e = .returned (.tuple #[.int .i64 (N : Int), .int .i64 0]) /\ Below w.heap.size w w' := by
  obtain ⟨W, hp⟩ := h.par
  exact Drives_any hp w
theorem drives_bad {k r c q : Int} (h : may k r c q = false) (w : World) :
    Calls Tryz.prog 92 #[.agg #[.int .i64 k, .int .i64 r, .int .i64 c, .int .i64 q]] w fun e w' => e = .returned (.tuple #[.int .i64 0, .int .i64 2]) /\ Below w.heap.size w w' :=
  Drives_any (N := 0) (W := 0) (.inr ⟨h, rfl, rfl, rfl⟩) w
set_option maxHeartbeats 400000 in
theorem N_any {k r : Int} (c q : Int) {N : Nat} (h : (N : Int) = k + r) (hk : N <= 16) (w : World) :
    Calls Tryz.prog 18 #[.agg #[.int .i64 k, .int .i64 r, .int .i64 c, .int .i64 q]] w fun e w' => e = .returned (.int .i64 (N : Int)) /\ Below w.heap.size w w' := by
  have HN : Hid (k + r = (N : Int)) := h.symm
  go_enter Tryz.func18, Tryz.ntmps18
  go_wp2
  go_ret
  exact ⟨ret_int HN.out, below_alloc _ _⟩
set_option maxHeartbeats 400000 in
theorem inW_any (n b : Int) (w : World) :
    Calls Tryz.prog 70 #[.int .i64 n, .int .i64 b] w fun e w' => e = .returned (.bool (decide (0 <= n /\ n < b))) /\ w' = w := by
  rw [Bool.decide_and]
  go_enter Tryz.func70, Tryz.ntmps70
  go_wp2
  · go_ret
    exact ⟨ret_bool (by rw [decide_eq_true (show 0 <= n by omega)]; rfl), rfl⟩
  · go_ret
    exact ⟨ret_bool (by rw [decide_eq_false (show ¬ 0 <= n by omega)]; rfl), rfl⟩
set_option maxHeartbeats 400000 in
theorem shapeOf_ok {k r c q : Int} {N Q S : Nat} (h : Pm k r c q N Q S) (w : World) :
    Calls Tryz.prog 61 #[.agg #[.int .i64 k, .int .i64 r, .int .i64 c, .int .i64 q]] w fun e w' => e = .returned (.tuple #[.agg #[.int .i64 (N : Int), .int .i64 (Q : Int), .int .i64 (S : Int)], .int .i64 0]) /\ Below w.heap.size w w' := by
  have HC := fun w => drives_ok h w
  have hb := h.bounds
  have HS : Hid (12 + 4 * (N : Int) + c = (S : Int)) := by obtain ⟨_, h1, _, h2⟩ := h; show _ = _; omega
  have hc1 : -1000 <= c := by have := HS.out; omega
  have hc2 : c <= 1000 := by have := HS.out; omega
  obtain rfl : q = (Q : Int) := h.2.2.1.symm
  obtain ⟨_, hb2, _⟩ := hb
  clear h
  obtain ⟨w0, hw0⟩ : ∃ w0, w0 = w.alloc (.cells #[.int .i64 k, .int .i64 r, .int .i64 c, .int .i64 (Q : Int)] 23) := ⟨_, rfl⟩
  obtain ⟨w1, hw1⟩ : ∃ w1, w1 = w0.alloc (.cells #[.int .i64 0, .int .i64 0, .int .i64 0] 79) := ⟨_, rfl⟩
  have b0 : Below w.heap.size w w0 := by rw [hw0]; exact below_alloc _ _
  have b1 : Below w0.heap.size w0 w1 := by rw [hw1]; exact below_alloc _ _
  have z0 : w0.heap.size = w.heap.size + 1 := by rw [hw0]; simp
  go_enter Tryz.func61, Tryz.ntmps61
  go_wp2_with fail
  rw [<- hw0, <- hw1]
  refine (HC _).mono ?_
  rintro e wa ⟨rfl, ha⟩
  obtain ⟨s0, s1, s2, s3⟩ := par_held hw0 (below_then b1 ha)
  obtain ⟨m0, m1, m2⟩ := shp_held hw1 ha
  have f := blk_free hw1 ha
  rw [z0] at m0 m1 m2 f
  have hB := below_then (below_then b0 b1) ha
  clear hw0 hw1 b0 b1 ha
  go_wp2_with fail
  refine bodyPost_ret (v := .tuple #[.agg #[.int .i64 (N : Int), .int .i64 (Q : Int), .int .i64 (12 + 4 * (N : Int) + c)], .int .i64 0]) (by simp [results, Tryz.results61, go_sem, m0, m1, m2]) rfl ⟨by rw [HS.out], ?_⟩
  exact ((hB.setCell (Nat.le_succ _) _).setCell (Nat.le_succ _) _).setCell (Nat.le_succ _) _
set_option maxHeartbeats 400000 in
theorem shapeOf_bad {k r c q : Int} (h : may k r c q = false) (w : World) :
    Calls Tryz.prog 61 #[.agg #[.int .i64 k, .int .i64 r, .int .i64 c, .int .i64 q]] w fun e w' => e = .returned (.tuple #[.agg #[.int .i64 0, .int .i64 0, .int .i64 0], .int .i64 2]) /\ Below w.heap.size w w' := by
  have HC := fun w => drives_bad h w
  clear h
  obtain ⟨w0, hw0⟩ : ∃ w0, w0 = w.alloc (.cells #[.int .i64 k, .int .i64 r, .int .i64 c, .int .i64 q] 23) := ⟨_, rfl⟩
  obtain ⟨w1, hw1⟩ : ∃ w1, w1 = w0.alloc (.cells #[.int .i64 0, .int .i64 0, .int .i64 0] 79) := ⟨_, rfl⟩
  have b0 : Below w.heap.size w w0 := by rw [hw0]; exact below_alloc _ _
  have b1 : Below w0.heap.size w0 w1 := by rw [hw1]; exact below_alloc _ _
  have z0 : w0.heap.size = w.heap.size + 1 := by rw [hw0]; simp
  go_enter Tryz.func61, Tryz.ntmps61
  go_wp2_with fail
  rw [<- hw0, <- hw1]
  refine (HC _).mono ?_
  rintro e wa ⟨rfl, ha⟩
  obtain ⟨m0, m1, m2⟩ := shp_held hw1 ha
  have f := blk_free hw1 ha
  rw [z0] at m0 m1 m2 f
  have hB := below_then (below_then b0 b1) ha
  clear hw0 hw1 b0 b1 ha
  go_wp2_with fail
  refine bodyPost_ret (v := .tuple #[.agg #[.int .i64 0, .int .i64 0, .int .i64 0], .int .i64 2]) (by simp [results, Tryz.results61, go_sem, m0, m1, m2]) rfl ⟨rfl, ?_⟩
  exact ((hB.setCell (Nat.le_succ _) _).setCell (Nat.le_succ _) _).setCell (Nat.le_succ _) _
set_option maxHeartbeats 400000 in
theorem at_any (N Q S : Nat) (hQ : Q <= 256) (d o s : Int) (h1 : 0 <= d) (h2 : d <= 16) (h3 : 0 <= o) (h4 : o <= 256) (h5 : 0 <= s) (h6 : s <= 2) (w : World) :
    Calls Tryz.prog 93 #[.agg #[.int .i64 (N : Int), .int .i64 (Q : Int), .int .i64 (S : Int)], .int .i64 d, .int .i64 o, .int .i64 s] w fun e w' => e = .returned (.int .i64 ((plc Q d o s : Nat) : Int)) /\ Below w.heap.size w w' := by
  obtain ⟨p, hp, hp2⟩ : ∃ p : Nat, d * (Q : Int) = (p : Int) /\ p <= 4096 := by
    obtain ⟨a, rfl⟩ := Int.eq_ofNat_of_zero_le h1
    have : a * Q <= 16 * 256 := Nat.mul_le_mul (by omega) hQ
    exact ⟨a * Q, by simp, by omega⟩
  have HR : Hid (((p : Int) + o) * 2 + s = ((plc Q d o s : Nat) : Int)) := by show _ = _; rw [plc_cast h1 h3 h5, hp]
  have hv : Value.int .i64 (wrap64 (d * (Q : Int))) = .int .i64 (p : Int) := by rw [hp, w64 _ (by omega)]
  clear hp
  go_enter Tryz.func93, Tryz.ntmps93
  go_wp2
  go_ret
  exact ⟨ret_int HR.out, below_alloc _ _⟩
theorem plc_all (Q N : Nat) : plc Q (N : Int) 0 0 = N * Q * 2 := by unfold plc; simp
set_option maxHeartbeats 400000 in
theorem slots_any (N Q S : Nat) (hN : N <= 16) (hQ : Q <= 256) (w : World) :
    Calls Tryz.prog 62 #[.agg #[.int .i64 (N : Int), .int .i64 (Q : Int), .int .i64 (S : Int)]] w fun e w' => e = .returned (.int .i64 ((N * Q * 2 : Nat) : Int)) /\ Below w.heap.size w w' := by
  have HC := fun w => at_any N Q S hQ (N : Int) 0 0 (by omega) (by omega) (by decide) (by decide) (by decide) (by decide) w
  rw [plc_all] at HC
  generalize N * Q * 2 = n at HC ⊢
  obtain ⟨w0, hw0⟩ : ∃ w0, w0 = w.alloc (.cells #[.int .i64 (N : Int), .int .i64 (Q : Int), .int .i64 (S : Int)] 79) := ⟨_, rfl⟩
  have b0 : Below w.heap.size w w0 := by rw [hw0]; exact below_alloc _ _
  go_enter Tryz.func62, Tryz.ntmps62
  go_wp2_with fail
  rw [<- hw0]
  refine (HC _).mono ?_
  rintro e wa ⟨rfl, ha⟩
  clear hw0
  go_wp2_with fail
  go_ret
  exact ⟨rfl, below_then b0 ha⟩
set_option maxHeartbeats 400000 in
set_option maxRecDepth 100000 in
theorem copied_any (w : World) (ao : Option Addr) (n cp : Nat) (c : List UInt8) (hr : RdB w ao c) (hn : n = c.length) (hc : c.length <= 1000000) :
    Calls Tryz.prog 99 #[.slice ao n cp] w fun e w' => ∃ ao' cap', e = .returned (.slice ao' c.length cap') /\ OwC w.heap.size w' ao' cap' c /\ Below w.heap.size w w' := by
  by_cases h0 : c = []
  · subst h0
    obtain rfl : n = 0 := hn
    clear hr
    go_enter Tryz.func99, Tryz.ntmps99
    go_wp2
    go_ret
    exact ⟨none, 0, rfl, .inl ⟨rfl, rfl, rfl⟩, Below.refl _ _⟩
  · have hl : 0 < n := by rw [hn]; exact List.length_pos_iff.2 h0
    obtain ⟨ad, rfl⟩ : ∃ ad, ao = some ad := by obtain ⟨b, off, e, _⟩ := hr h0; exact ⟨_, e⟩
    have HN : Hid (∀ j u, (bys c)[j]? = some u -> w.cell? (ad.add j) = some u) := rdb_news hr
    obtain ⟨X, hX⟩ : ∃ X, X = bys c := ⟨_, rfl⟩
    have HX : Hid (X = bys c) := hX
    have hXl : X.length = n := by rw [hX, bys_length, hn]
    have HO : Hid (∀ u ∈ X, u.oneCell' = true) := by rw [hX]; exact bys_one c
    rw [<- hX] at HN
    have HL : Hid (n = c.length) := hn
    have HC0 : Hid (c ≠ []) := h0
    have hn2 : n <= 1000000 := by omega
    have e1 : ((n : Int) == 0) = false := by simp; omega
    have hmk := run_make_row' (P := Tryz.prog) 74 5 (.int .u8 0) 1 Tryz.underlying74 info5 rfl .i64 .i64 n (by omega) (by omega) w
    obtain ⟨Z, hZ⟩ : ∃ Z : List Value, madeCells #[.int .u8 0] n = Z.toArray := ⟨(madeCells #[.int .u8 0] n).toList, by simp⟩
    have hZl : Z.length = n := by have h := congrArg Array.size hZ; rw [size_madeCells] at h; simpa using h.symm
    rw [hZ] at hmk
    have hsz : (Tryz.prog.info? 5).map (·.size) = some 1 := by kernel_rfl
    clear hZ hX hr hn h0 hc
    go_enter Tryz.func99, Tryz.ntmps99
    go_wp2_with (refine wpList_copy_splice (by rfl) (.tmp 10) (.tmp 11) 74 74 (by rfl) 5 Tryz.underlying74 hsz (some ⟨w.heap.size, 0, none⟩) (some ad) n n n cp (by rfl) (by rfl) w.heap.size 0 Z 5 (by exact heap_alloc_new w _) X (by rw [hXl]; simp) (by intro hp; refine ⟨rfl, ad, rfl, fun j u hu => ?_⟩; exact held (HN.out j u hu) (below_alloc _ _)) (by rw [hXl, hZl]; omega) HO.out w.heap.size w (by exact below_alloc _ _) (Nat.le_refl _) ?_; intro w2 HG2 hB2)
    go_ret
    rw [HL.out]
    refine ⟨_, _, rfl, .inr ⟨_, rfl, Nat.le_refl _, rfl, HC0.out, ?_⟩, hB2⟩
    have h := HG2.out
    rw [show splice Z 0 X = bys c by unfold splice; rw [List.take_zero, List.nil_append, Nat.zero_add, List.drop_eq_nil_of_le (by omega), List.append_nil]; exact HX.out] at h
    exact h
end Go.Proofs.YtngcdlodcdgcaaaGreat.Im
namespace Go.Proofs.YtngcdlodcdgcaaaGreat.Im
open Go.RowKit
theorem free_below {w w' : World} {a : Addr} (h : w.frozen? a = false) (hb : Below w.heap.size w w') (hl : a.block < w.heap.size) : w'.frozen? a = false := (World.frozen?_of_block (hb.block a.block hl)).trans h
set_option maxHeartbeats 400000 in
theorem checked_bad (k r c q : Int) (h : may k r c q = false) (lo : Option Addr) (n cl : Nat) (w : World) :
    Calls Tryz.prog 35 #[.agg #[.int .i64 k, .int .i64 r, .int .i64 c, .int .i64 q, .slice lo n cl]] w fun e w' => e = .returned (.tuple #[.agg #[.int .i64 0, .int .i64 0, .int .i64 0], .int .i64 2]) /\ Below w.heap.size w w' := by
  have HC := fun w => shapeOf_bad h w
  clear h
  obtain ⟨w0, hw0⟩ : ∃ w0, w0 = w.alloc (.cells #[.int .i64 k, .int .i64 r, .int .i64 c, .int .i64 q, .slice lo n cl] 26) := ⟨_, rfl⟩
  obtain ⟨w1, hw1⟩ : ∃ w1, w1 = w0.alloc (.cells #[.int .i64 0, .int .i64 0, .int .i64 0] 79) := ⟨_, rfl⟩
  have b0 : Below w.heap.size w w0 := by rw [hw0]; exact below_alloc _ _
  have b1 : Below w0.heap.size w0 w1 := by rw [hw1]; exact below_alloc _ _
  have z0 : w0.heap.size = w.heap.size + 1 := by rw [hw0]; simp
  go_enter Tryz.func35, Tryz.ntmps35
  go_wp2_with fail
  rw [<- hw0, <- hw1]
  refine (HC _).mono ?_
  rintro e wa ⟨rfl, ha⟩
  obtain ⟨m0, m1, m2⟩ := shp_held hw1 ha
  have f := blk_free hw1 ha
  rw [z0] at m0 m1 m2 f
  have hB := below_then (below_then b0 b1) ha
  have hz := World.block_lt_of_cell? wa _ m0
  have n0 : ∀ o, (wa.alloc o).cell? ⟨w.heap.size + 1, 0, none⟩ = some (.int .i64 0) := fun o => held m0 (below_alloc _ _)
  have n1 : ∀ o, (wa.alloc o).cell? ⟨w.heap.size + 1, 1, none⟩ = some (.int .i64 0) := fun o => held m1 (below_alloc _ _)
  have n2 : ∀ o, (wa.alloc o).cell? ⟨w.heap.size + 1, 2, none⟩ = some (.int .i64 0) := fun o => held m2 (below_alloc _ _)
  have f' : ∀ o i, (wa.alloc o).frozen? ⟨w.heap.size + 1, i, none⟩ = false := fun o i => free_below (f i) (below_alloc _ _) hz
  clear hw0 hw1 b0 b1 ha m0 m1 m2 f hz
  go_wp2_with fail
  refine bodyPost_ret (v := .tuple #[.agg #[.int .i64 0, .int .i64 0, .int .i64 0], .int .i64 2]) (by simp [results, Tryz.results35, go_sem, n0, n1, n2]) rfl ⟨rfl, ?_⟩
  exact (((hB.alloc hB.size _).setCell (Nat.le_succ _) _).setCell (Nat.le_succ _) _).setCell (Nat.le_succ _) _
set_option maxHeartbeats 1000000 in
set_option maxRecDepth 100000 in
theorem checked_len {k r c q : Int} {N Q S : Nat} (h : Pm k r c q N Q S) (lo : Option Addr) (n cl : Nat) (hn : ¬ n = N * Q * 2) (w : World) :
    Calls Tryz.prog 35 #[.agg #[.int .i64 k, .int .i64 r, .int .i64 c, .int .i64 q, .slice lo n cl]] w fun e w' => e = .returned (.tuple #[.agg #[.int .i64 0, .int .i64 0, .int .i64 0], .int .i64 90]) /\ Below w.heap.size w w' := by
  have HC := fun w => shapeOf_ok h w
  have hb := h.bounds
  have HSL := fun w => slots_any N Q S hb.2.1 hb.2.2.2.1 w
  obtain ⟨p, hp⟩ : ∃ p, p = N * Q * 2 := ⟨_, rfl⟩
  rw [<- hp] at hn HSL
  have he : ((n : Int) != (p : Int)) = true := by simp; omega
  obtain rfl : q = (Q : Int) := h.2.2.1.symm
  clear h hp hb
  obtain ⟨w0, hw0⟩ : ∃ w0, w0 = w.alloc (.cells #[.int .i64 k, .int .i64 r, .int .i64 c, .int .i64 (Q : Int), .slice lo n cl] 26) := ⟨_, rfl⟩
  obtain ⟨w1, hw1⟩ : ∃ w1, w1 = w0.alloc (.cells #[.int .i64 0, .int .i64 0, .int .i64 0] 79) := ⟨_, rfl⟩
  have b0 : Below w.heap.size w w0 := by rw [hw0]; exact below_alloc _ _
  have b1 : Below w0.heap.size w0 w1 := by rw [hw1]; exact below_alloc _ _
  have z0 : w0.heap.size = w.heap.size + 1 := by rw [hw0]; simp
  go_enter Tryz.func35, Tryz.ntmps35
  go_wp2_with fail
  rw [<- hw0, <- hw1]
  refine (HC _).mono ?_
  rintro e wa ⟨rfl, ha⟩
  obtain ⟨wb, hwb⟩ : ∃ wb, wb = wa.alloc (.cells #[.int .i64 (N : Int), .int .i64 (Q : Int), .int .i64 (S : Int)] 79) := ⟨_, rfl⟩
  have hab : Below wa.heap.size wa wb := by rw [hwb]; exact below_alloc _ _
  have SH : Hid (∀ v, Below wb.heap.size wb v -> v.cell? ⟨w.heap.size, 4, none⟩ = some (.slice lo n cl) /\ v.cell? ⟨wa.heap.size, 0, none⟩ = some (.int .i64 (N : Int)) /\ v.cell? ⟨wa.heap.size, 1, none⟩ = some (.int .i64 (Q : Int)) /\ v.cell? ⟨wa.heap.size, 2, none⟩ = some (.int .i64 (S : Int))) :=
    fun v hv => ⟨(img_held hw0 (below_then b1 (below_then ha (below_then hab hv)))).2.2.2.2, shp_held hwb hv⟩
  have MH : Hid (∀ v, Below wb.heap.size wb v -> (v.cell? ⟨w.heap.size + 1, 0, none⟩ = some (.int .i64 0) /\ v.cell? ⟨w.heap.size + 1, 1, none⟩ = some (.int .i64 0) /\ v.cell? ⟨w.heap.size + 1, 2, none⟩ = some (.int .i64 0)) /\ ∀ i, v.frozen? ⟨w.heap.size + 1, i, none⟩ = false) :=
    fun v hv => by rw [<- z0]; exact ⟨shp_held hw1 (below_then ha (below_then hab hv)), blk_free hw1 (below_then ha (below_then hab hv))⟩
  obtain ⟨c4, c5, c6, c7⟩ := SH.out wb (Below.refl _ _)
  have HB : Hid (Below w.heap.size w wb) := below_then (below_then b0 b1) (below_then ha hab)
  clear hw0 hw1 b0 b1
  go_wp2_with fail
  rw [<- hwb]
  clear hwb hab
  go_region_held3 (fun v => v.cell? ⟨w.heap.size, 4, none⟩ = some (.slice lo n cl) /\ v.cell? ⟨wa.heap.size, 0, none⟩ = some (.int .i64 (N : Int)) /\ v.cell? ⟨wa.heap.size, 1, none⟩ = some (.int .i64 (Q : Int)) /\ v.cell? ⟨wa.heap.size, 2, none⟩ = some (.int .i64 (S : Int))) (go_keep)
    ((go_at_call 62; refine (HSL _).mono ?_; rintro e wc ⟨rfl, hc⟩; obtain ⟨q0, q1, q2, q3⟩ := SH.out _ (of_drew hc)))
  all_goals
    obtain ⟨⟨m0, m1, m2⟩, f⟩ := MH.out wc (of_drew hc)
    have HB2 : Hid (Below w.heap.size w wc) := below_then HB.out (of_drew hc)
    clear hc
    go_wp2_with fail
    refine bodyPost_ret (v := .tuple #[.agg #[.int .i64 0, .int .i64 0, .int .i64 0], .int .i64 90]) (by simp [results, Tryz.results35, go_sem, m0, m1, m2]) rfl ⟨rfl, ?_⟩
    exact ((HB2.out.setCell (Nat.le_succ _) _).setCell (Nat.le_succ _) _).setCell (Nat.le_succ _) _
set_option maxHeartbeats 1000000 in
set_option maxRecDepth 100000 in
theorem checked_fit {k r c q : Int} {N Q S : Nat} (h : Pm k r c q N Q S) (lo : Option Addr) (n cl : Nat) (A : Nat -> Option Addr) (C : Nat -> Nat) (F : Nat -> List UInt8) (hn : n = N * Q * 2) (w : World) (hl : Lst w lo n A C F) (x : Int) (a b d : Nat)
    (hx : (Fit n S F /\ x = 0 /\ a = N /\ b = Q /\ d = S) \/ (¬ Fit n S F /\ x = 90 /\ a = 0 /\ b = 0 /\ d = 0)) :
    Calls Tryz.prog 35 #[.agg #[.int .i64 k, .int .i64 r, .int .i64 c, .int .i64 q, .slice lo n cl]] w fun e w' => e = .returned (.tuple #[.agg #[.int .i64 (a : Int), .int .i64 (b : Int), .int .i64 (d : Int)], .int .i64 x]) /\ Below w.heap.size w w' := by
  have HC := fun w => shapeOf_ok h w
  have hb := h.bounds
  have HSL := fun w => slots_any N Q S hb.2.1 hb.2.2.2.1 w
  rw [<- hn] at HSL hb
  have hn2 : n <= 16384 := by omega
  have hS2 : S <= 140 := hb.2.2.2.2.2.1
  have he : ((n : Int) != (n : Int)) = false := by simp
  obtain rfl : q = (Q : Int) := h.2.2.1.symm
  have HL : Hid (Lst w lo n A C F) := hl
  have HX : Hid ((Fit n S F /\ x = 0 /\ a = N /\ b = Q /\ d = S) \/ (¬ Fit n S F /\ x = 90 /\ a = 0 /\ b = 0 /\ d = 0)) := hx
  clear h hb hn hl hx
  obtain ⟨w0, hw0⟩ : ∃ w0, w0 = w.alloc (.cells #[.int .i64 k, .int .i64 r, .int .i64 c, .int .i64 (Q : Int), .slice lo n cl] 26) := ⟨_, rfl⟩
  obtain ⟨w1, hw1⟩ : ∃ w1, w1 = w0.alloc (.cells #[.int .i64 0, .int .i64 0, .int .i64 0] 79) := ⟨_, rfl⟩
  have b0 : Below w.heap.size w w0 := by rw [hw0]; exact below_alloc _ _
  have b1 : Below w0.heap.size w0 w1 := by rw [hw1]; exact below_alloc _ _
  have z0 : w0.heap.size = w.heap.size + 1 := by rw [hw0]; simp
  go_enter Tryz.func35, Tryz.ntmps35
  go_wp2_with fail
  rw [<- hw0, <- hw1]
  refine (HC _).mono ?_
  rintro e wa ⟨rfl, ha⟩
  obtain ⟨wb, hwb⟩ : ∃ wb, wb = wa.alloc (.cells #[.int .i64 (N : Int), .int .i64 (Q : Int), .int .i64 (S : Int)] 79) := ⟨_, rfl⟩
  have hab : Below wa.heap.size wa wb := by rw [hwb]; exact below_alloc _ _
  have SH : Hid (∀ v, Below wb.heap.size wb v -> v.cell? ⟨w.heap.size, 4, none⟩ = some (.slice lo n cl) /\ v.cell? ⟨wa.heap.size, 0, none⟩ = some (.int .i64 (N : Int)) /\ v.cell? ⟨wa.heap.size, 1, none⟩ = some (.int .i64 (Q : Int)) /\ v.cell? ⟨wa.heap.size, 2, none⟩ = some (.int .i64 (S : Int))) :=
    fun v hv => ⟨(img_held hw0 (below_then b1 (below_then ha (below_then hab hv)))).2.2.2.2, shp_held hwb hv⟩
  have MH : Hid (∀ v, Below wb.heap.size wb v -> (v.cell? ⟨w.heap.size + 1, 0, none⟩ = some (.int .i64 0) /\ v.cell? ⟨w.heap.size + 1, 1, none⟩ = some (.int .i64 0) /\ v.cell? ⟨w.heap.size + 1, 2, none⟩ = some (.int .i64 0)) /\ ∀ i, v.frozen? ⟨w.heap.size + 1, i, none⟩ = false) :=
    fun v hv => by rw [<- z0]; exact ⟨shp_held hw1 (below_then ha (below_then hab hv)), blk_free hw1 (below_then ha (below_then hab hv))⟩
  obtain ⟨c4, c5, c6, c7⟩ := SH.out wb (Below.refl _ _)
  have HB : Hid (Below w.heap.size w wb) := below_then (below_then b0 b1) (below_then ha hab)
  clear hw0 hw1 b0 b1
  go_wp2_with fail
  rw [<- hwb]
  clear hwb hab
  go_region_held3 (fun v => v.cell? ⟨w.heap.size, 4, none⟩ = some (.slice lo n cl) /\ v.cell? ⟨wa.heap.size, 0, none⟩ = some (.int .i64 (N : Int)) /\ v.cell? ⟨wa.heap.size, 1, none⟩ = some (.int .i64 (Q : Int)) /\ v.cell? ⟨wa.heap.size, 2, none⟩ = some (.int .i64 (S : Int))) (go_keep)
    ((go_at_call 62; refine (HSL _).mono ?_; rintro e wc ⟨rfl, hc⟩; obtain ⟨q0, q1, q2, q3⟩ := SH.out _ (of_drew hc)))
  all_goals
    obtain ⟨⟨m0, m1, m2⟩, f⟩ := MH.out wc (of_drew hc)
    have HB2 : Hid (Below w.heap.size w wc) := below_then HB.out (of_drew hc)
    clear hc c4 c5 c6 c7 SH MH HB HC HSL he
    go_wp2_with fail
    go_loop [7, 28] (fun _ x => ∃ i : Nat, i <= n /\ x = .int .i64 i /\ Hid (∀ j, j < i -> (F j).length = 0 \/ (F j).length = S)) (fun _ x => n - (intOf x).toNat)
    case atStart => exact ⟨0, Nat.zero_le _, rfl, fun j hj => absurd hj (Nat.not_lt_zero _)⟩
    case round =>
      obtain ⟨i, hi, rfl, hg⟩ := hrel
      by_cases hlt : i < n
      · obtain ⟨b1, off, rfl, hc⟩ := (HL.out.below HB2.out).at_ (by omega)
        have ck := hc i hlt
        obtain ⟨L, hL⟩ : ∃ L, L = (F i).length := ⟨_, rfl⟩
        have HLi : Hid (L = (F i).length) := hL
        rw [<- hL] at ck
        clear hc hL
        have i1 : (0 : Int) <= (i : Int) := by omega
        have i2 : (i : Int) < (n : Int) := by omega
        by_cases h0 : L = 0
        · subst h0
          go_wp2_with fail
          go_round
          case rel => exact ⟨i + 1, by omega, by go_num, fun j hj => by rcases Nat.lt_succ_iff_lt_or_eq.1 hj with g | rfl; exact hg.out j g; exact .inl HLi.out.symm⟩
          case measure => simp [intOf]; omega
        · have k0 : ((L : Int) != 0) = true := by simp; omega
          by_cases h1 : L = S
          · have k1 : ((L : Int) != (S : Int)) = false := by simp; omega
            have HS : Hid (L = S) := h1
            clear h1
            go_wp2_with fail
            go_round
            case rel => exact ⟨i + 1, by omega, by go_num, fun j hj => by rcases Nat.lt_succ_iff_lt_or_eq.1 hj with g | rfl; exact hg.out j g; exact .inr (HLi.out.symm.trans HS.out)⟩
            case measure => simp [intOf]; omega
          · have k1 : ((L : Int) != (S : Int)) = true := by simp; omega
            have HF : Hid (x = 90 /\ a = 0 /\ b = 0 /\ d = 0) := by
              rcases HX.out with ⟨hf, _⟩ | ⟨_, e⟩
              · have := hf i hlt
                rw [<- HLi.out] at this
                omega
              · exact e
            go_wp2_with fail
            obtain ⟨rfl, rfl, rfl, rfl⟩ := HF.out
            refine bodyPost_ret (v := .tuple #[.agg #[.int .i64 0, .int .i64 0, .int .i64 0], .int .i64 90]) (by simp [results, Tryz.results35, go_sem, m0, m1, m2]) rfl ⟨rfl, ?_⟩
            exact ((HB2.out.setCell (Nat.le_succ _) _).setCell (Nat.le_succ _) _).setCell (Nat.le_succ _) _
      · obtain rfl : i = n := by omega
        have HF : Hid (x = 0 /\ a = N /\ b = Q /\ d = S) := by
          rcases HX.out with ⟨_, e⟩ | ⟨hf, _⟩
          · exact e
          · exact absurd hg.out hf
        go_wp2_with fail
        obtain ⟨rfl, rfl, rfl, rfl⟩ := HF.out
        refine bodyPost_ret (v := .tuple #[.agg #[.int .i64 (a : Int), .int .i64 (b : Int), .int .i64 (d : Int)], .int .i64 0]) (by simp [results, Tryz.results35, go_sem, m0, m1, m2]) rfl ⟨rfl, ?_⟩
        exact ((HB2.out.setCell (Nat.le_succ _) _).setCell (Nat.le_succ _) _).setCell (Nat.le_succ _) _
theorem checked_any {k r c q : Int} {n : Nat} {F : Nat -> List UInt8} {x : Int} {N Q S : Nat} (hck : Ck k r c q n F x N Q S) (lo : Option Addr) (cl : Nat) (A : Nat -> Option Addr) (C : Nat -> Nat) (w : World) (hl : Lst w lo n A C F) :
    Calls Tryz.prog 35 #[.agg #[.int .i64 k, .int .i64 r, .int .i64 c, .int .i64 q, .slice lo n cl]] w fun e w' => e = .returned (.tuple #[.agg #[.int .i64 (N : Int), .int .i64 (Q : Int), .int .i64 (S : Int)], .int .i64 x]) /\ Below w.heap.size w w' := by
  rcases hck with ⟨rfl, h1, h2, h3⟩ | ⟨rfl, h1, rfl, rfl, rfl⟩ | ⟨rfl, rfl, rfl, rfl, N', Q', S', h1, h2⟩
  · exact checked_fit h1 lo n cl A C F h2 w hl 0 N Q S (.inl ⟨h3, rfl, rfl, rfl, rfl⟩)
  · exact checked_bad k r c q h1 lo n cl w
  · by_cases h3 : n = N' * Q' * 2
    · exact checked_fit h1 lo n cl A C F h3 w hl 90 0 0 0 (.inr ⟨fun h => h2 ⟨h3, h⟩, rfl, rfl, rfl, rfl⟩)
    · exact checked_len h1 lo n cl h3 w
end Go.Proofs.YtngcdlodcdgcaaaGreat.Im
