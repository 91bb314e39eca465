import Derived.Test.YtmoenmpbkockoaaGreatWj3
namespace Go.Proofs.YtmoenmpbkockoaaGreat.Im
open Go.RowKit
theorem free_below {w w' : World} {a : Addr} (h : w.frozen? a = false) (hb : Below w.heap.size w w') (hl : a.block < w.heap.size) : w'.frozen? a = false := (World.frozen?_of_block (hb.block a.block hl)).trans h
set_option maxHeartbeats 400000 in
theorem checked_bad (k r c q : Int) (h : may k r c q = false) (lo : Option Addr) (n cl : Nat) (w : World) :
    Calls Tryz.prog 67 #[.agg #[.int .i64 k, .int .i64 r, .int .i64 c, .int .i64 q, .slice lo n cl]] w fun e w' => e = .returned (.tuple #[.agg #[.int .i64 0, .int .i64 0, .int .i64 0], .int .i64 2]) /\ Below w.heap.size w w' := by
  have HC := fun w => shapeOf_bad h w
  clear h
  obtain ⟨w0, hw0⟩ : ∃ w0, w0 = w.alloc (.cells #[.int .i64 k, .int .i64 r, .int .i64 c, .int .i64 q, .slice lo n cl] 51) := ⟨_, rfl⟩
  obtain ⟨w1, hw1⟩ : ∃ w1, w1 = w0.alloc (.cells #[.int .i64 0, .int .i64 0, .int .i64 0] 124) := ⟨_, rfl⟩
  have b0 : Below w.heap.size w w0 := by rw [hw0]; exact below_alloc _ _
  have b1 : Below w0.heap.size w0 w1 := by rw [hw1]; exact below_alloc _ _
  have z0 : w0.heap.size = w.heap.size + 1 := by rw [hw0]; simp
  go_enter Tryz.func67, Tryz.ntmps67
  go_wp2_with fail
  rw [<- hw0, <- hw1]
  refine (HC _).mono ?_
  rintro e wa ⟨rfl, ha⟩
  obtain ⟨m0, m1, m2⟩ := shp_held hw1 ha
  have f := blk_free hw1 ha
  rw [z0] at m0 m1 m2 f
  have hB := below_then (below_then b0 b1) ha
  have hz := World.block_lt_of_cell? wa _ m0
  have n0 : ∀ o, (wa.alloc o).cell? ⟨w.heap.size + 1, 0, none⟩ = some (.int .i64 0) := fun o => held m0 (below_alloc _ _)
  have n1 : ∀ o, (wa.alloc o).cell? ⟨w.heap.size + 1, 1, none⟩ = some (.int .i64 0) := fun o => held m1 (below_alloc _ _)
  have n2 : ∀ o, (wa.alloc o).cell? ⟨w.heap.size + 1, 2, none⟩ = some (.int .i64 0) := fun o => held m2 (below_alloc _ _)
  have f' : ∀ o i, (wa.alloc o).frozen? ⟨w.heap.size + 1, i, none⟩ = false := fun o i => free_below (f i) (below_alloc _ _) hz
  clear hw0 hw1 b0 b1 ha m0 m1 m2 f hz
  go_wp2_with fail
  refine bodyPost_ret (v := .tuple #[.agg #[.int .i64 0, .int .i64 0, .int .i64 0], .int .i64 2]) (by simp [results, Tryz.results67, go_sem, n0, n1, n2]) rfl ⟨rfl, ?_⟩
  exact (((hB.alloc hB.size _).setCell (Nat.le_succ _) _).setCell (Nat.le_succ _) _).setCell (Nat.le_succ _) _
set_option maxHeartbeats 1000000 in
set_option maxRecDepth 100000 in
theorem checked_len {k r c q : Int} {N Q S : Nat} (h : Pm k r c q N Q S) (lo : Option Addr) (n cl : Nat) (hn : ¬ n = N * Q * 2) (w : World) :
    Calls Tryz.prog 67 #[.agg #[.int .i64 k, .int .i64 r, .int .i64 c, .int .i64 q, .slice lo n cl]] w fun e w' => e = .returned (.tuple #[.agg #[.int .i64 0, .int .i64 0, .int .i64 0], .int .i64 90]) /\ Below w.heap.size w w' := by
  have HC := fun w => shapeOf_ok h w
  have hb := h.bounds
  have HSL := fun w => slots_any N Q S hb.2.1 hb.2.2.2.1 w
  obtain ⟨p, hp⟩ : ∃ p, p = N * Q * 2 := ⟨_, rfl⟩
  rw [<- hp] at hn HSL
  have he : ((n : Int) != (p : Int)) = true := by simp; omega
  obtain rfl : q = (Q : Int) := h.2.2.1.symm
  clear h hp hb
  obtain ⟨w0, hw0⟩ : ∃ w0, w0 = w.alloc (.cells #[.int .i64 k, .int .i64 r, .int .i64 c, .int .i64 (Q : Int), .slice lo n cl] 51) := ⟨_, rfl⟩
  obtain ⟨w1, hw1⟩ : ∃ w1, w1 = w0.alloc (.cells #[.int .i64 0, .int .i64 0, .int .i64 0] 124) := ⟨_, rfl⟩
  have b0 : Below w.heap.size w w0 := by rw [hw0]; exact below_alloc _ _
  have b1 : Below w0.heap.size w0 w1 := by rw [hw1]; exact below_alloc _ _
  have z0 : w0.heap.size = w.heap.size + 1 := by rw [hw0]; simp
  go_enter Tryz.func67, Tryz.ntmps67
  go_wp2_with fail
  rw [<- hw0, <- hw1]
  refine (HC _).mono ?_
  rintro e wa ⟨rfl, ha⟩
  obtain ⟨wb, hwb⟩ : ∃ wb, wb = wa.alloc (.cells #[.int .i64 (N : Int), .int .i64 (Q : Int), .int .i64 (S : Int)] 124) := ⟨_, rfl⟩
  have hab : Below wa.heap.size wa wb := by rw [hwb]; exact below_alloc _ _
  have SH : Hid (∀ v, Below wb.heap.size wb v -> v.cell? ⟨w.heap.size, 4, none⟩ = some (.slice lo n cl) /\ v.cell? ⟨wa.heap.size, 0, none⟩ = some (.int .i64 (N : Int)) /\ v.cell? ⟨wa.heap.size, 1, none⟩ = some (.int .i64 (Q : Int)) /\ v.cell? ⟨wa.heap.size, 2, none⟩ = some (.int .i64 (S : Int))) :=
    fun v hv => ⟨(img_held hw0 (below_then b1 (below_then ha (below_then hab hv)))).2.2.2.2, shp_held hwb hv⟩
  have MH : Hid (∀ v, Below wb.heap.size wb v -> (v.cell? ⟨w.heap.size + 1, 0, none⟩ = some (.int .i64 0) /\ v.cell? ⟨w.heap.size + 1, 1, none⟩ = some (.int .i64 0) /\ v.cell? ⟨w.heap.size + 1, 2, none⟩ = some (.int .i64 0)) /\ ∀ i, v.frozen? ⟨w.heap.size + 1, i, none⟩ = false) :=
    fun v hv => by rw [<- z0]; exact ⟨shp_held hw1 (below_then ha (below_then hab hv)), blk_free hw1 (below_then ha (below_then hab hv))⟩
  obtain ⟨c4, c5, c6, c7⟩ := SH.out wb (Below.refl _ _)
  have HB : Hid (Below w.heap.size w wb) := below_then (below_then b0 b1) (below_then ha hab)
  clear hw0 hw1 b0 b1
  go_wp2_with fail
  rw [<- hwb]
  clear hwb hab
  go_region_held3 (fun v => v.cell? ⟨w.heap.size, 4, none⟩ = some (.slice lo n cl) /\ v.cell? ⟨wa.heap.size, 0, none⟩ = some (.int .i64 (N : Int)) /\ v.cell? ⟨wa.heap.size, 1, none⟩ = some (.int .i64 (Q : Int)) /\ v.cell? ⟨wa.heap.size, 2, none⟩ = some (.int .i64 (S : Int))) (go_keep)
    ((go_at_call 128; refine (HSL _).mono ?_; rintro e wc ⟨rfl, hc⟩; obtain ⟨q0, q1, q2, q3⟩ := SH.out _ (of_drew hc)))
  all_goals
    obtain ⟨⟨m0, m1, m2⟩, f⟩ := MH.out wc (of_drew hc)
    have HB2 : Hid (Below w.heap.size w wc) := below_then HB.out (of_drew hc)
    clear hc
    go_wp2_with fail
    refine bodyPost_ret (v := .tuple #[.agg #[.int .i64 0, .int .i64 0, .int .i64 0], .int .i64 90]) (by simp [results, Tryz.results67, go_sem, m0, m1, m2]) rfl ⟨rfl, ?_⟩
    exact ((HB2.out.setCell (Nat.le_succ _) _).setCell (Nat.le_succ _) _).setCell (Nat.le_succ _) _
set_option maxHeartbeats 1000000 in
set_option maxRecDepth 100000 in
theorem checked_fit {k r c q : Int} {N Q S : Nat} (h : Pm k r c q N Q S) (lo : Option Addr) (n cl : Nat) (A : Nat -> Option Addr) (C : Nat -> Nat) (F : Nat -> List UInt8) (hn : n = N * Q * 2) (w : World) (hl : Lst w lo n A C F) (x : Int) (a b d : Nat)
    (hx : (Fit n S F /\ x = 0 /\ a = N /\ b = Q /\ d = S) \/ (¬ Fit n S F /\ x = 90 /\ a = 0 /\ b = 0 /\ d = 0)) :
    Calls Tryz.prog 67 #[.agg #[.int .i64 k, .int .i64 r, .int .i64 c, .int .i64 q, .slice lo n cl]] w fun e w' => e = .returned (.tuple #[.agg #[.int .i64 (a : Int), .int .i64 (b : Int), .int .i64 (d : Int)], .int .i64 x]) /\ Below w.heap.size w w' := by
  have HC := fun w => shapeOf_ok h w
  have hb := h.bounds
  have HSL := fun w => slots_any N Q S hb.2.1 hb.2.2.2.1 w
  rw [<- hn] at HSL hb
  have hn2 : n <= 16384 := by omega
  have hS2 : S <= 140 := hb.2.2.2.2.2.1
  have he : ((n : Int) != (n : Int)) = false := by simp
  obtain rfl : q = (Q : Int) := h.2.2.1.symm
  have HL : Hid (Lst w lo n A C F) := hl
  have HX : Hid ((Fit n S F /\ x = 0 /\ a = N /\ b = Q /\ d = S) \/ (¬ Fit n S F /\ x = 90 /\ a = 0 /\ b = 0 /\ d = 0)) := hx
  clear h hb hn hl hx
  obtain ⟨w0, hw0⟩ : ∃ w0, w0 = w.alloc (.cells #[.int .i64 k, .int .i64 r, .int .i64 c, .int .i64 (Q : Int), .slice lo n cl] 51) := ⟨_, rfl⟩
  obtain ⟨w1, hw1⟩ : ∃ w1, w1 = w0.alloc (.cells #[.int .i64 0, .int .i64 0, .int .i64 0] 124) := ⟨_, rfl⟩
  have b0 : Below w.heap.size w w0 := by rw [hw0]; exact below_alloc _ _
  have b1 : Below w0.heap.size w0 w1 := by rw [hw1]; exact below_alloc _ _
  have z0 : w0.heap.size = w.heap.size + 1 := by rw [hw0]; simp
  go_enter Tryz.func67, Tryz.ntmps67
  go_wp2_with fail
  rw [<- hw0, <- hw1]
  refine (HC _).mono ?_
  rintro e wa ⟨rfl, ha⟩
  obtain ⟨wb, hwb⟩ : ∃ wb, wb = wa.alloc (.cells #[.int .i64 (N : Int), .int .i64 (Q : Int), .int .i64 (S : Int)] 124) := ⟨_, rfl⟩
  have hab : Below wa.heap.size wa wb := by rw [hwb]; exact below_alloc _ _
  have SH : Hid (∀ v, Below wb.heap.size wb v -> v.cell? ⟨w.heap.size, 4, none⟩ = some (.slice lo n cl) /\ v.cell? ⟨wa.heap.size, 0, none⟩ = some (.int .i64 (N : Int)) /\ v.cell? ⟨wa.heap.size, 1, none⟩ = some (.int .i64 (Q : Int)) /\ v.cell? ⟨wa.heap.size, 2, none⟩ = some (.int .i64 (S : Int))) :=
    fun v hv => ⟨(img_held hw0 (below_then b1 (below_then ha (below_then hab hv)))).2.2.2.2, shp_held hwb hv⟩
  have MH : Hid (∀ v, Below wb.heap.size wb v -> (v.cell? ⟨w.heap.size + 1, 0, none⟩ = some (.int .i64 0) /\ v.cell? ⟨w.heap.size + 1, 1, none⟩ = some (.int .i64 0) /\ v.cell? ⟨w.heap.size + 1, 2, none⟩ = some (.int .i64 0)) /\ ∀ i, v.frozen? ⟨w.heap.size + 1, i, none⟩ = false) :=
    fun v hv => by rw [<- z0]; exact ⟨shp_held hw1 (below_then ha (below_then hab hv)), blk_free hw1 (below_then ha (below_then hab hv))⟩
  obtain ⟨c4, c5, c6, c7⟩ := SH.out wb (Below.refl _ _)
  have HB : Hid (Below w.heap.size w wb) := below_then (below_then b0 b1) (below_then ha hab)
  clear hw0 hw1 b0 b1
  go_wp2_with fail
  rw [<- hwb]
  clear hwb hab
  go_region_held3 (fun v => v.cell? ⟨w.heap.size, 4, none⟩ = some (.slice lo n cl) /\ v.cell? ⟨wa.heap.size, 0, none⟩ = some (.int .i64 (N : Int)) /\ v.cell? ⟨wa.heap.size, 1, none⟩ = some (.int .i64 (Q : Int)) /\ v.cell? ⟨wa.heap.size, 2, none⟩ = some (.int .i64 (S : Int))) (go_keep)
    ((go_at_call 128; refine (HSL _).mono ?_; rintro e wc ⟨rfl, hc⟩; obtain ⟨q0, q1, q2, q3⟩ := SH.out _ (of_drew hc)))
  all_goals
    obtain ⟨⟨m0, m1, m2⟩, f⟩ := MH.out wc (of_drew hc)
    have HB2 : Hid (Below w.heap.size w wc) := below_then HB.out (of_drew hc)
    clear hc c4 c5 c6 c7 SH MH HB HC HSL he
    go_wp2_with fail
    go_loop [7, 28] (fun _ x => ∃ i : Nat, i <= n /\ x = .int .i64 i /\ Hid (∀ j, j < i -> (F j).length = 0 \/ (F j).length = S)) (fun _ x => n - (intOf x).toNat)
    case atStart => exact ⟨0, Nat.zero_le _, rfl, fun j hj => absurd hj (Nat.not_lt_zero _)⟩
    case round =>
      obtain ⟨i, hi, rfl, hg⟩ := hrel
      by_cases hlt : i < n
      · obtain ⟨b1, off, rfl, hc⟩ := (HL.out.below HB2.out).at_ (by omega)
        have ck := hc i hlt
        obtain ⟨L, hL⟩ : ∃ L, L = (F i).length := ⟨_, rfl⟩
        have HLi : Hid (L = (F i).length) := hL
        rw [<- hL] at ck
        clear hc hL
        have i1 : (0 : Int) <= (i : Int) := by omega
        have i2 : (i : Int) < (n : Int) := by omega
        by_cases h0 : L = 0
        · subst h0
          go_wp2_with fail
          go_round
          case rel => exact ⟨i + 1, by omega, by go_num, fun j hj => by rcases Nat.lt_succ_iff_lt_or_eq.1 hj with g | rfl; exact hg.out j g; exact .inl HLi.out.symm⟩
          case measure => simp [intOf]; omega
        · have k0 : ((L : Int) != 0) = true := by simp; omega
          by_cases h1 : L = S
          · have k1 : ((L : Int) != (S : Int)) = false := by simp; omega
            have HS : Hid (L = S) := h1
            clear h1
            go_wp2_with fail
            go_round
            case rel => exact ⟨i + 1, by omega, by go_num, fun j hj => by rcases Nat.lt_succ_iff_lt_or_eq.1 hj with g | rfl; exact hg.out j g; exact .inr (HLi.out.symm.trans HS.out)⟩
            case measure => simp [intOf]; omega
          · have k1 : ((L : Int) != (S : Int)) = true := by simp; omega
            have HF : Hid (x = 90 /\ a = 0 /\ b = 0 /\ d = 0) := by
              rcases HX.out with ⟨hf, _⟩ | ⟨_, e⟩
              · have := hf i hlt
                rw [<- HLi.out] at this
                omega
              · exact e
            go_wp2_with fail
            obtain ⟨rfl, rfl, rfl, rfl⟩ := HF.out
            refine bodyPost_ret (v := .tuple #[.agg #[.int .i64 0, .int .i64 0, .int .i64 0], .int .i64 90]) (by simp [results, Tryz.results67, go_sem, m0, m1, m2]) rfl ⟨rfl, ?_⟩
            exact ((HB2.out.setCell (Nat.le_succ _) _).setCell (Nat.le_succ _) _).setCell (Nat.le_succ _) _
      · obtain rfl : i = n := by omega
        have HF : Hid (x = 0 /\ a = N /\ b = Q /\ d = S) := by
          rcases HX.out with ⟨_, e⟩ | ⟨hf, _⟩
          · exact e
          · exact absurd hg.out hf
        go_wp2_with fail
        obtain ⟨rfl, rfl, rfl, rfl⟩ := HF.out
        refine bodyPost_ret (v := .tuple #[.agg #[.int .i64 (a : Int), .int .i64 (b : Int), .int .i64 (d : Int)], .int .i64 0]) (by simp [results, Tryz.results67, go_sem, m0, m1, m2]) rfl ⟨rfl, ?_⟩
        exact ((HB2.out.setCell (Nat.le_succ _) _).setCell (Nat.le_succ _) _).setCell (Nat.le_succ _) _
theorem checked_any {k r c q : Int} {n : Nat} {F : Nat -> List UInt8} {x : Int} {N Q S : Nat} (hck : Ck k r c q n F x N Q S) (lo : Option Addr) (cl : Nat) (A : Nat -> Option Addr) (C : Nat -> Nat) (w : World) (hl : Lst w lo n A C F) :
    Calls Tryz.prog 67 #[.agg #[.int .i64 k, .int .i64 r, .int .i64 c, .int .i64 q, .slice lo n cl]] w fun e w' => e = .returned (.tuple #[.agg #[.int .i64 (N : Int), .int .i64 (Q : Int), .int .i64 (S : Int)], .int .i64 x]) /\ Below w.heap.size w w' := by
  rcases hck with ⟨rfl, h1, h2, h3⟩ | ⟨rfl, h1, rfl, rfl, rfl⟩ | ⟨rfl, rfl, rfl, rfl, N', Q', S', h1, h2⟩
  · exact checked_fit h1 lo n cl A C F h2 w hl 0 N Q S (.inl ⟨h3, rfl, rfl, rfl, rfl⟩)
  · exact checked_bad k r c q h1 lo n cl w
  · by_cases h3 : n = N' * Q' * 2
    · exact checked_fit h1 lo n cl A C F h3 w hl 90 0 0 0 (.inr ⟨fun h => h2 ⟨h3, h⟩, rfl, rfl, rfl, rfl⟩)
    · exact checked_len h1 lo n cl h3 w
end Go.Proofs.YtmoenmpbkockoaaGreat.Im
