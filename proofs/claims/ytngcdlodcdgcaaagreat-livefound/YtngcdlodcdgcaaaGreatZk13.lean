import Derived.Test.YtngcdlodcdgcaaaGreatZk1
namespace Go.Proofs.YtngcdlodcdgcaaaGreat.De
open Go.RowKit
theorem up_int (a b : Nat) (hb : 1 <= b) : ((a : Int) + (b : Int) - 1) / (b : Int) = ((up a b : Nat) : Int) := by
  rw [show ((a : Int) + (b : Int) - 1) = ((a + b - 1 : Nat) : Int) by omega]; rfl
set_option maxHeartbeats 1000000 in
set_option maxRecDepth 100000 in
theorem rounded_any (a b : Nat) (w : World) (ha : a <= 100000) (hb : 1 <= b) (hb' : b <= 100000) :
    Calls Tryz.prog 107 #[.int .i64 (a : Int), .int .i64 (b : Int)] w fun e w' => e = .returned (.int .i64 ((up a b : Nat) : Int)) /\ w' = w := by
  have HU : Hid (((a : Int) + (b : Int) - 1) / (b : Int) = ((up a b : Nat) : Int)) := up_int a b hb
  go_enter Tryz.func107, Tryz.ntmps107
  go_wp2
  go_ret
  exact ⟨ret_int HU.out, rfl⟩
def Made (k r c q len : Int) (W s d x n : Nat) (e : Int) : Prop :=
  (may k r c q = true /\ 0 <= len /\ len <= (mst W : Int) /\ s = up len.toNat W /\ x = lvs W s /\ d = min x 1 /\ n = 1 + x + s /\ e = 0) \/
  ((may k r c q = false \/ len < 0) /\ s = 0 /\ d = 0 /\ x = 0 /\ n = 0 /\ e = 2) \/
  (may k r c q = true /\ 0 <= len /\ (mst W : Int) < len /\ s = 0 /\ d = 0 /\ x = 0 /\ n = 0 /\ e = 3)
theorem made_any (k r c q len : Int) (W : Nat) : ∃ s d x n e, Made k r c q len W s d x n e := by
  cases h : may k r c q
  · exact ⟨0, 0, 0, 0, 2, .inr (.inl ⟨.inl h, rfl, rfl, rfl, rfl, rfl⟩)⟩
  · by_cases h1 : len < 0
    · exact ⟨0, 0, 0, 0, 2, .inr (.inl ⟨.inr h1, rfl, rfl, rfl, rfl, rfl⟩)⟩
    · by_cases h2 : (mst W : Int) < len
      · exact ⟨0, 0, 0, 0, 3, .inr (.inr ⟨h, by omega, h2, rfl, rfl, rfl, rfl, rfl⟩)⟩
      · exact ⟨_, _, _, _, 0, .inl ⟨h, by omega, by omega, rfl, rfl, rfl, rfl, rfl⟩⟩
theorem shp_held {w w0 w1 : World} {x0 x1 x2 x3 : Value} {t : TypeId} (h0 : w0 = w.alloc (.cells #[x0, x1, x2, x3] t)) (hb : Below w0.heap.size w0 w1) : ∀ i o, (w1.alloc o).frozen? ⟨w.heap.size, i, none⟩ = false := fun i o => blk_free h0 (hb.trans ((below_alloc w1 o).mono hb.size)) i
set_option maxHeartbeats 1000000 in
set_option maxRecDepth 100000 in
theorem shape_bad {k r c q : Int} {N W : Nat} {y : Int} (h : Par k r c q N W y) (len : Int) (w : World) (e : Int) (he : (y = 2 /\ e = 2) \/ (y = 0 /\ len < 0 /\ e = 2) \/ (y = 0 /\ 0 <= len /\ (mst W : Int) < len /\ e = 3)) :
    Calls Tryz.prog 77 #[.agg #[.int .i64 k, .int .i64 r, .int .i64 c, .int .i64 q], .int .i64 len] w fun e' w' => e' = .returned (.tuple #[.agg #[.int .i64 0, .int .i64 0, .int .i64 0, .int .i64 0], .int .i64 e]) /\ Below w.heap.size w w' := by
  have HC := fun w => measure_any h w
  clear h
  generalize dir W = d at *
  generalize lea W = l at *
  generalize mst W = m at *
  obtain ⟨w0, hw0⟩ : ∃ w0, w0 = w.alloc (.cells #[.int .i64 k, .int .i64 r, .int .i64 c, .int .i64 q] 23) := ⟨_, rfl⟩
  have b0 : Below w.heap.size w w0 := by rw [hw0]; exact below_alloc _ _
  have z0 : w0.heap.size = w.heap.size + 1 := by rw [hw0]; simp
  obtain ⟨w1, hw1⟩ : ∃ w1, w1 = w0.alloc (.cells #[.int .i64 0, .int .i64 0, .int .i64 0, .int .i64 0] 139) := ⟨_, rfl⟩
  have b1 : Below w0.heap.size w0 w1 := by rw [hw1]; exact below_alloc _ _
  rcases he with ⟨rfl, rfl⟩ | ⟨rfl, h1, rfl⟩ | ⟨rfl, h1, h2, rfl⟩
  all_goals (
    go_enter Tryz.func77, Tryz.ntmps77
    go_wp2_with fail
    rw [<- hw0, <- hw1]
    refine (HC _).mono ?_
    rintro e wa ⟨rfl, ha⟩
    have m0 : ∀ o, (wa.alloc o).cell? ⟨w0.heap.size, 0, none⟩ = some (.int .i64 0) := fun o => held (par_held hw1 ha).1 (below_alloc wa o)
    have m1 : ∀ o, (wa.alloc o).cell? ⟨w0.heap.size, 1, none⟩ = some (.int .i64 0) := fun o => held (par_held hw1 ha).2.1 (below_alloc wa o)
    have m2 : ∀ o, (wa.alloc o).cell? ⟨w0.heap.size, 2, none⟩ = some (.int .i64 0) := fun o => held (par_held hw1 ha).2.2.1 (below_alloc wa o)
    have m3 : ∀ o, (wa.alloc o).cell? ⟨w0.heap.size, 3, none⟩ = some (.int .i64 0) := fun o => held (par_held hw1 ha).2.2.2 (below_alloc wa o)
    have f := shp_held hw1 ha
    rw [z0] at m0 m1 m2 m3 f
    clear hw0 hw1
    go_wp2_with fail
    refine bodyPost_ret (v := .tuple #[.agg #[.int .i64 0, .int .i64 0, .int .i64 0, .int .i64 0], .int .i64 _]) (by simp [results, Tryz.results77, go_sem, m0, m1, m2, m3]) rfl ⟨rfl, ?_⟩
    have hB := below_then (below_then b0 b1) ha
    exact ((((hB.alloc hB.size _).setCell (Nat.le_succ _) _).setCell (Nat.le_succ _) _).setCell (Nat.le_succ _) _).setCell (Nat.le_succ _) _)
set_option maxHeartbeats 1000000 in
set_option maxRecDepth 100000 in
theorem shape_good {k r c q : Int} {N W : Nat} (h : Par k r c q N W 0) (len : Nat) (w : World) (hlen : len <= mst W) (s x : Nat) (hs : s = up len W) (hx : x = lvs W s) (d : Nat) (hd : d = min x 1) (n : Nat) (hn : n = 1 + x + s) (hW : 32 <= W) :
    Calls Tryz.prog 77 #[.agg #[.int .i64 k, .int .i64 r, .int .i64 c, .int .i64 q], .int .i64 (len : Int)] w fun e' w' => e' = .returned (.tuple #[.agg #[.int .i64 (s : Int), .int .i64 (d : Int), .int .i64 (x : Int), .int .i64 (n : Int)], .int .i64 0]) /\ Below w.heap.size w w' := by
  have HC := fun w => measure_any h w
  have hW2 := h.wide
  have hm := mst_le W
  have hs1 : s <= 32768 := by have := up_self len W (by omega); omega
  have hx1 : x <= s := by rw [hx]; exact lvs_le hW
  have HR := fun w => rounded_any len W w (by omega) (by omega) (by omega)
  rw [<- hs] at HR
  have hl1 := lea_ge hW
  have hl2 := lea_le hW2
  have HL := fun w => rounded_any s (lea W) w (by omega) (by omega) (by omega)
  have HX : Hid (x = if s <= dir W then 0 else up s (lea W)) := hx
  clear h hx hs
  generalize dir W = dr at *
  obtain ⟨ux, hux⟩ : ∃ u, u = up s (lea W) := ⟨_, rfl⟩
  have hux1 : ux <= s := by rw [hux]; exact up_self _ _ (by omega)
  have hux2 : 0 < s -> 0 < ux := fun h => by rw [hux]; exact up_pos h (by omega)
  rw [<- hux] at HL HX
  clear hux
  generalize lea W = l at *
  generalize mst W = m at *
  have HD : Hid (d = min x 1) := hd
  have HN : Hid (n = 1 + x + s) := hn
  clear hd hn
  obtain ⟨w0, hw0⟩ : ∃ w0, w0 = w.alloc (.cells #[.int .i64 k, .int .i64 r, .int .i64 c, .int .i64 q] 23) := ⟨_, rfl⟩
  have b0 : Below w.heap.size w w0 := by rw [hw0]; exact below_alloc _ _
  have z0 : w0.heap.size = w.heap.size + 1 := by rw [hw0]; simp
  obtain ⟨w1, hw1⟩ : ∃ w1, w1 = w0.alloc (.cells #[.int .i64 0, .int .i64 0, .int .i64 0, .int .i64 0] 139) := ⟨_, rfl⟩
  have b1 : Below w0.heap.size w0 w1 := by rw [hw1]; exact below_alloc _ _
  go_enter Tryz.func77, Tryz.ntmps77
  go_wp2_with fail
  rw [<- hw0, <- hw1]
  refine (HC _).mono ?_
  rintro e wa ⟨rfl, ha⟩
  obtain ⟨wb, hwb⟩ : ∃ wb, wb = wa.alloc (.cells #[.int .i64 (N : Int), .int .i64 (W : Int), .int .i64 (dr : Int), .int .i64 (l : Int), .int .i64 (m : Int)] 159) := ⟨_, rfl⟩
  have b2 : Below wa.heap.size wa wb := by rw [hwb]; exact below_alloc _ _
  have z2 : wb.heap.size = wa.heap.size + 1 := by rw [hwb]; simp
  have m0 : ∀ o, (wb.alloc o).cell? ⟨w0.heap.size, 0, none⟩ = some (.int .i64 0) := fun o => (par_held hw1 (below_then (below_then ha b2) (below_alloc wb o))).1
  have m1 : ∀ o, (wb.alloc o).cell? ⟨w0.heap.size, 1, none⟩ = some (.int .i64 0) := fun o => (par_held hw1 (below_then (below_then ha b2) (below_alloc wb o))).2.1
  have m2 : ∀ o, (wb.alloc o).cell? ⟨w0.heap.size, 2, none⟩ = some (.int .i64 0) := fun o => (par_held hw1 (below_then (below_then ha b2) (below_alloc wb o))).2.2.1
  have m3 : ∀ o, (wb.alloc o).cell? ⟨w0.heap.size, 3, none⟩ = some (.int .i64 0) := fun o => (par_held hw1 (below_then (below_then ha b2) (below_alloc wb o))).2.2.2
  have f : ∀ o i, (wb.alloc o).frozen? ⟨w0.heap.size, i, none⟩ = false := fun o i => blk_free hw1 (below_then (below_then ha b2) (below_alloc wb o)) i
  rw [z0] at m0 m1 m2 m3 f
  have p1 : ∀ o, (wb.alloc o).cell? ⟨wa.heap.size, 1, none⟩ = some (.int .i64 (W : Int)) := fun o => (mea_held hwb (below_alloc wb o)).2.1
  have p2 : ∀ o, (wb.alloc o).cell? ⟨wa.heap.size, 2, none⟩ = some (.int .i64 (dr : Int)) := fun o => (mea_held hwb (below_alloc wb o)).2.2.1
  have p3 : ∀ o, (wb.alloc o).cell? ⟨wa.heap.size, 3, none⟩ = some (.int .i64 (l : Int)) := fun o => (mea_held hwb (below_alloc wb o)).2.2.2.1
  have hB := below_then (below_then (below_then b0 b1) ha) b2
  clear hw0 hw1 ha b0 b1 b2
  by_cases hlt : s <= dr
  · have HE : Hid (x = 0 /\ d = 0 /\ n = 1 + s) := by
      have e1 := HX.out; rw [if_pos hlt] at e1
      exact ⟨e1, by rw [HD.out, e1]; rfl, by rw [HN.out, e1]⟩
    go_wp2_with fail
    rw [<- hwb]
    clear hwb
    refine (HR _).mono ?_
    rintro e w' ⟨rfl, hw'⟩
    obtain rfl := hw'.symm
    go_wp2_with fail
    refine bodyPost_ret (v := .tuple #[.agg #[.int .i64 (s : Int), .int .i64 0, .int .i64 0, .int .i64 (1 + (s : Int))], .int .i64 0]) (by simp [results, Tryz.results77, go_sem, m0, m1, m2, m3]) rfl ⟨?_, ?_⟩
    · rw [HE.out.1, HE.out.2.1, HE.out.2.2]; rfl
    · exact ((((hB.alloc hB.size _).setCell (Nat.le_succ _) _).setCell (Nat.le_succ _) _).setCell (Nat.le_succ _) _).setCell (Nat.le_succ _) _
  · have HE : Hid (x = ux /\ d = 1 /\ n = 1 + ux + s) := by
      have e1 := HX.out; rw [if_neg hlt] at e1
      have e2 := hux2 (by omega)
      exact ⟨e1, by rw [HD.out, e1]; omega, by rw [HN.out, e1]⟩
    clear hux2
    go_wp2_with fail
    rw [<- hwb]
    clear hwb
    refine (HR _).mono ?_
    rintro e w' ⟨rfl, hw'⟩
    obtain rfl := hw'.symm
    go_wp2_with fail
    refine (HL _).mono ?_
    rintro e w' ⟨rfl, hw'⟩
    obtain rfl := hw'.symm
    go_wp2_with fail
    refine bodyPost_ret (v := .tuple #[.agg #[.int .i64 (s : Int), .int .i64 1, .int .i64 (ux : Int), .int .i64 (1 + (ux : Int) + (s : Int))], .int .i64 0]) (by simp [results, Tryz.results77, go_sem, m0, m1, m2, m3]) rfl ⟨?_, ?_⟩
    · rw [HE.out.1, HE.out.2.1, HE.out.2.2]; rfl
    · exact ((((hB.alloc hB.size _).setCell (Nat.le_succ _) _).setCell (Nat.le_succ _) _).setCell (Nat.le_succ _) _).setCell (Nat.le_succ _) _
theorem shape_any {k r c q : Int} {N W : Nat} {y : Int} (h : Par k r c q N W y) {len : Int} {s d x n : Nat} {e : Int} (h' : Made k r c q len W s d x n e) (w : World) :
    Calls Tryz.prog 77 #[.agg #[.int .i64 k, .int .i64 r, .int .i64 c, .int .i64 q], .int .i64 len] w fun e' w' => e' = .returned (.tuple #[.agg #[.int .i64 (s : Int), .int .i64 (d : Int), .int .i64 (x : Int), .int .i64 (n : Int)], .int .i64 e]) /\ Below w.heap.size w w' := by
  have hp := h
  rcases h' with ⟨h1, h2, h3, h4, h5, h6, h7, rfl⟩ | ⟨h1, rfl, rfl, rfl, rfl, rfl⟩ | ⟨h1, h2, h3, rfl, rfl, rfl, rfl, rfl⟩
  · rcases h with ⟨p0, p1, p2, rfl⟩ | ⟨p0, _⟩
    · obtain ⟨l, rfl⟩ := Int.eq_ofNat_of_zero_le h2
      rw [Int.toNat_natCast] at h4
      have := may_true p0
      exact shape_good hp l w (by omega) s x h4 h5 d h6 n h7 (by omega)
    · rw [p0] at h1; cases h1
  · refine shape_bad hp len w 2 ?_
    rcases h with ⟨p0, p1, p2, rfl⟩ | ⟨p0, p1, p2, rfl⟩
    · rcases h1 with h1 | h1
      · rw [p0] at h1; cases h1
      · exact .inr (.inl ⟨rfl, h1, rfl⟩)
    · exact .inl ⟨rfl, rfl⟩
  · rcases h with ⟨p0, p1, p2, rfl⟩ | ⟨p0, _⟩
    · exact shape_bad hp len w 3 (.inr (.inr ⟨rfl, h2, h3, rfl⟩))
    · rw [p0] at h1; cases h1
set_option maxHeartbeats 1000000 in
set_option maxRecDepth 100000 in
theorem Stripes_any {k r c q : Int} {N W : Nat} {y : Int} (h : Par k r c q N W y) {len : Int} {s d x n : Nat} {e : Int} (h' : Made k r c q len W s d x n e) (w : World) :
    Calls Tryz.prog 42 #[.agg #[.int .i64 k, .int .i64 r, .int .i64 c, .int .i64 q], .int .i64 len] w fun e' w' => e' = .returned (.tuple #[.int .i64 (s : Int), .int .i64 e]) /\ Below w.heap.size w w' := by
  have HC := fun w => shape_any h h' w
  clear h h'
  obtain ⟨w0, hw0⟩ : ∃ w0, w0 = w.alloc (.cells #[.int .i64 k, .int .i64 r, .int .i64 c, .int .i64 q] 23) := ⟨_, rfl⟩
  have b0 : Below w.heap.size w w0 := by rw [hw0]; exact below_alloc _ _
  go_enter Tryz.func42, Tryz.ntmps42
  go_wp2_with fail
  rw [<- hw0]
  refine (HC _).mono ?_
  rintro e wa ⟨rfl, ha⟩
  go_wp2_with fail
  go_ret2
  exact ⟨rfl, have hB := below_then b0 ha; hB.alloc hB.size _⟩
set_option maxHeartbeats 1000000 in
set_option maxRecDepth 100000 in
theorem Depth_any {k r c q : Int} {N W : Nat} {y : Int} (h : Par k r c q N W y) {len : Int} {s d x n : Nat} {e : Int} (h' : Made k r c q len W s d x n e) (w : World) :
    Calls Tryz.prog 134 #[.agg #[.int .i64 k, .int .i64 r, .int .i64 c, .int .i64 q], .int .i64 len] w fun e' w' => e' = .returned (.tuple #[.int .i64 (d : Int), .int .i64 e]) /\ Below w.heap.size w w' := by
  have HC := fun w => shape_any h h' w
  clear h h'
  obtain ⟨w0, hw0⟩ : ∃ w0, w0 = w.alloc (.cells #[.int .i64 k, .int .i64 r, .int .i64 c, .int .i64 q] 23) := ⟨_, rfl⟩
  have b0 : Below w.heap.size w w0 := by rw [hw0]; exact below_alloc _ _
  go_enter Tryz.func134, Tryz.ntmps134
  go_wp2_with fail
  rw [<- hw0]
  refine (HC _).mono ?_
  rintro e wa ⟨rfl, ha⟩
  go_wp2_with fail
  go_ret2
  exact ⟨rfl, have hB := below_then b0 ha; hB.alloc hB.size _⟩
set_option maxHeartbeats 1000000 in
set_option maxRecDepth 100000 in
theorem Leaves_any {k r c q : Int} {N W : Nat} {y : Int} (h : Par k r c q N W y) {len : Int} {s d x n : Nat} {e : Int} (h' : Made k r c q len W s d x n e) (w : World) :
    Calls Tryz.prog 135 #[.agg #[.int .i64 k, .int .i64 r, .int .i64 c, .int .i64 q], .int .i64 len] w fun e' w' => e' = .returned (.tuple #[.int .i64 (x : Int), .int .i64 e]) /\ Below w.heap.size w w' := by
  have HC := fun w => shape_any h h' w
  clear h h'
  obtain ⟨w0, hw0⟩ : ∃ w0, w0 = w.alloc (.cells #[.int .i64 k, .int .i64 r, .int .i64 c, .int .i64 q] 23) := ⟨_, rfl⟩
  have b0 : Below w.heap.size w w0 := by rw [hw0]; exact below_alloc _ _
  go_enter Tryz.func135, Tryz.ntmps135
  go_wp2_with fail
  rw [<- hw0]
  refine (HC _).mono ?_
  rintro e wa ⟨rfl, ha⟩
  go_wp2_with fail
  go_ret2
  exact ⟨rfl, have hB := below_then b0 ha; hB.alloc hB.size _⟩
end Go.Proofs.YtngcdlodcdgcaaaGreat.De
