import Derived.WalkKit
import Derived.WalkSpells
import Derived.WalkLawsBesides
import Derived.Below
import Derived.Deep.RegionHeld3
import Derived.Test.YtdmpiipllmjloaaGreatRows
namespace Go.Proofs.YtdmpiipllmjloaaGreat
def may (k r c q : Int) : Bool := decide (1 <= k /\ k <= 12 /\ 0 <= r /\ r <= 4 /\ 8 <= c /\ c <= 64 /\ 32 <= k * c /\ 8 <= q /\ q <= 256)
theorem may_true {k r c q : Int} (h : may k r c q = true) : 1 <= k /\ k <= 12 /\ 0 <= r /\ r <= 4 /\ 8 <= c /\ c <= 64 /\ 32 <= k * c /\ 8 <= q /\ q <= 256 := of_decide_eq_true h
theorem may_wide {k c : Int} (h1 : 1 <= k) (h2 : k <= 12) (h3 : 8 <= c) (h4 : c <= 64) : 8 <= k * c /\ k * c <= 768 := by
  have a := Int.mul_le_mul h2 h4 (by omega) (by omega)
  have b := Int.mul_le_mul h1 h3 (by omega) (by omega)
  omega
def dir (w : Nat) : Nat := (w - 7) / 6
def lea (w : Nat) : Nat := w / 6
def mst (w : Nat) : Nat := min 32768 (dir w * lea w * w)
theorem dir_le {w : Nat} (h : w <= 768) : dir w <= 126 := by unfold dir; omega
theorem lea_le {w : Nat} (h : w <= 768) : lea w <= 128 := by unfold lea; omega
theorem lea_ge {w : Nat} (h : 32 <= w) : 5 <= lea w := by unfold lea; omega
theorem dl_le {w : Nat} (h : w <= 768) : dir w * lea w <= 16128 := Nat.mul_le_mul (dir_le h) (lea_le h)
theorem dlw_le {w : Nat} (h : w <= 768) : dir w * lea w * w <= 12386304 := Nat.mul_le_mul (dl_le h) h
theorem mst_le (w : Nat) : mst w <= 32768 := Nat.min_le_left _ _
theorem mst_dlw (w : Nat) : mst w <= dir w * lea w * w := Nat.min_le_right _ _
def up (a b : Nat) : Nat := (a + b - 1) / b
theorem up_mono {a a' b : Nat} (h : a <= a') : up a b <= up a' b := Nat.div_le_div_right (by omega)
theorem up_le {a b m : Nat} (h : a <= m * b) (hb : 0 < b) : up a b <= m := by
  unfold up
  have : (a + b - 1) / b < m + 1 := (Nat.div_lt_iff_lt_mul hb).2 (by rw [Nat.succ_mul]; omega)
  omega
theorem up_pos {a b : Nat} (ha : 0 < a) (hb : 0 < b) : 0 < up a b := Nat.div_pos (by omega) hb
theorem up_self (a b : Nat) (hb : 0 < b) : up a b <= a := up_le (Nat.le_mul_of_pos_right a hb) hb
def lvs (w s : Nat) : Nat := if s <= dir w then 0 else up s (lea w)
theorem lvs_mono {w s t : Nat} (h : s <= t) : lvs w s <= lvs w t := by
  unfold lvs
  split
  · omega
  · rw [if_neg (by omega)]; exact up_mono h
theorem lvs_top {w : Nat} (h : 32 <= w) : lvs w (up (mst w) w) <= dir w := by
  unfold lvs
  split
  · omega
  · exact up_le (up_le (by rw [Nat.mul_assoc]; exact (by rw [<- Nat.mul_assoc]; exact mst_dlw w)) (by omega)) (by have := lea_ge h; omega)
theorem lvs_pos {w s : Nat} (h : 32 <= w) : 0 < lvs w s ↔ dir w < s := by
  unfold lvs
  have := lea_ge h
  split
  · omega
  · exact ⟨fun _ => by omega, fun _ => up_pos (by omega) (by omega)⟩
theorem lvs_le {w s : Nat} (h : 32 <= w) : lvs w s <= s := by
  unfold lvs
  split
  · omega
  · exact up_self _ _ (by have := lea_ge h; omega)
end Go.Proofs.YtdmpiipllmjloaaGreat
namespace Go.Proofs.YtdmpiipllmjloaaGreat
open Go.RowKit
theorem below_step {B : Nat} {a b c : World} (h : Below B a b) (k : Below b.heap.size b c) (hB : B <= b.heap.size) : Below B a c := h.trans (k.mono hB)
theorem below_then {a b c : World} (h : Below a.heap.size a b) (k : Below b.heap.size b c) : Below a.heap.size a c := below_step h k h.size
theorem below_alloc (w : World) (o : Obj) : Below w.heap.size w (w.alloc o) := (Below.refl _ w).alloc (Nat.le_refl _) o
theorem below_drew (B : Nat) (w : World) : Below B w w.drew := ⟨rfl, rfl, rfl, Nat.le_refl _, fun _ _ => rfl⟩
theorem held {w w' : World} {a : Addr} {v : Value} (h : w.cell? a = some v) (hb : Below w.heap.size w w') : w'.cell? a = some v := (hb.cell (World.block_lt_of_cell? w _ h)).trans h
theorem ret_int {k : IntKind} {a b : Int} (h : a = b) : Ending.returned (.int k a) = .returned (.int k b) := by rw [h]
theorem ret_bool {a b : Bool} (h : a = b) : Ending.returned (.bool a) = .returned (.bool b) := by rw [h]
theorem blk_held {w w0 w1 : World} {cs : Array Value} {t : TypeId} (h0 : w0 = w.alloc (.cells cs t)) (hb : Below w0.heap.size w0 w1) (i : Nat) {v : Value} (hi : cs[i]? = some v) : w1.cell? ⟨w.heap.size, i, none⟩ = some v := by
  subst h0
  rw [World.cell?_of_block (hb.block w.heap.size (by simp)), cell_of_row _ _ _ _ _ _ (heap_alloc_new w _)]
  exact hi
theorem blk_free {w w0 w1 : World} {cs : Array Value} {t : TypeId} (h0 : w0 = w.alloc (.cells cs t)) (hb : Below w0.heap.size w0 w1) (i : Nat) : w1.frozen? ⟨w.heap.size, i, none⟩ = false := by
  subst h0
  rw [World.frozen?_of_block (hb.block w.heap.size (by simp))]
  unfold World.frozen?
  rw [heap_alloc_new w _]
  simp
theorem par_held {w w0 w1 : World} {x0 x1 x2 x3 : Value} {t : TypeId} (h0 : w0 = w.alloc (.cells #[x0, x1, x2, x3] t)) (hb : Below w0.heap.size w0 w1) :
    w1.cell? ⟨w.heap.size, 0, none⟩ = some x0 /\ w1.cell? ⟨w.heap.size, 1, none⟩ = some x1 /\ w1.cell? ⟨w.heap.size, 2, none⟩ = some x2 /\ w1.cell? ⟨w.heap.size, 3, none⟩ = some x3 :=
  ⟨blk_held h0 hb 0 rfl, blk_held h0 hb 1 rfl, blk_held h0 hb 2 rfl, blk_held h0 hb 3 rfl⟩
theorem mea_held {w w0 w1 : World} {x0 x1 x2 x3 x4 : Value} {t : TypeId} (h0 : w0 = w.alloc (.cells #[x0, x1, x2, x3, x4] t)) (hb : Below w0.heap.size w0 w1) :
    w1.cell? ⟨w.heap.size, 0, none⟩ = some x0 /\ w1.cell? ⟨w.heap.size, 1, none⟩ = some x1 /\ w1.cell? ⟨w.heap.size, 2, none⟩ = some x2 /\ w1.cell? ⟨w.heap.size, 3, none⟩ = some x3 /\ w1.cell? ⟨w.heap.size, 4, none⟩ = some x4 :=
  ⟨blk_held h0 hb 0 rfl, blk_held h0 hb 1 rfl, blk_held h0 hb 2 rfl, blk_held h0 hb 3 rfl, blk_held h0 hb 4 rfl⟩
theorem w64 (n : Int) (h : -9223372036854775808 <= n /\ n <= 9223372036854775807) : wrap64 n = n := by unfold wrap64; omega
theorem wrap_wide {k c : Int} (h1 : 1 <= k) (h2 : k <= 12) (h3 : 8 <= c) (h4 : c <= 64) : wrap64 (k * c) = k * c := by
  have := may_wide h1 h2 h3 h4
  unfold wrap64; omega
set_option maxHeartbeats 400000 in
theorem within_any (n a b : Int) (w : World) :
    Calls Tryz.prog 55 #[.int .i64 n, .int .i64 a, .int .i64 b] w fun e w' => e = .returned (.bool (decide (a <= n /\ n <= b))) /\ w' = w := by
  rw [Bool.decide_and]
  go_enter Tryz.func55, Tryz.ntmps55
  go_wp2
  · go_ret
    exact ⟨ret_bool (by rw [decide_eq_true (show a <= n by omega)]; rfl), rfl⟩
  · go_ret
    exact ⟨ret_bool (by rw [decide_eq_false (show ¬ a <= n by omega)]; rfl), rfl⟩
theorem may_decide (k r c q : Int) : may k r c q = decide (1 <= k /\ k <= 12 /\ 0 <= r /\ r <= 4 /\ 8 <= c /\ c <= 64 /\ 32 <= k * c /\ 8 <= q /\ q <= 256) := rfl
def erP (k r c q : Int) : Int := if may k r c q = true then 0 else 2
set_option maxHeartbeats 400000 in
set_option maxRecDepth 100000 in
theorem Check_any (k r c q : Int) (w : World) :
    Calls Tryz.prog 27 #[.agg #[.int .i64 k, .int .i64 r, .int .i64 c, .int .i64 q]] w fun e w' => e = .returned (.int .i64 (erP k r c q)) /\ Below w.heap.size w w' := by
  have HW : Hid (1 <= k -> k <= 12 -> 8 <= c -> c <= 64 -> wrap64 (k * c) = k * c) := wrap_wide
  go_enter Tryz.func27, Tryz.ntmps27
  go_wp2_with (go_at_call 55; refine (within_any _ _ _ _).mono ?_; rintro e w' ⟨rfl, hw'⟩; obtain rfl := hw'.symm)
  all_goals (go_ret; have := HW.out; refine ⟨ret_int ?_, below_alloc _ _⟩; unfold erP; rw [may_decide]; first | (rw [if_pos (decide_eq_true (by omega))]; done) | (rw [if_neg (by rw [decide_eq_true_eq]; omega)]; done))
def Par (k r c q : Int) (N W : Nat) (e : Int) : Prop := (may k r c q = true /\ (W : Int) = k * c /\ (N : Int) = k + r /\ e = 0) \/ (may k r c q = false /\ W = 0 /\ N = 0 /\ e = 2)
theorem par_any (k r c q : Int) : ∃ N W e, Par k r c q N W e := by
  cases h : may k r c q
  · exact ⟨0, 0, 2, .inr ⟨h, rfl, rfl, rfl⟩⟩
  · obtain ⟨h1, h2, h3, h4, h5, h6, h7, h8, h9⟩ := may_true h
    exact ⟨(k + r).toNat, (k * c).toNat, 0, .inl ⟨h, by omega, by omega, rfl⟩⟩
theorem Par.wide {k r c q : Int} {N W : Nat} {e : Int} (h : Par k r c q N W e) : W <= 768 := by
  rcases h with ⟨h, h0, _⟩ | ⟨_, h0, _⟩
  · obtain ⟨h1, h2, h3, h4, h5, h6, h7, h8, h9⟩ := may_true h
    have := may_wide h1 h2 h5 h6
    omega
  · omega
end Go.Proofs.YtdmpiipllmjloaaGreat
namespace Go.Proofs.YtdmpiipllmjloaaGreat
open Go.RowKit
set_option maxHeartbeats 400000 in
set_option maxRecDepth 100000 in
theorem measure_good (k r c q : Int) (w : World) (W N : Nat) (h : wrap64 (k * c) = (W : Int)) (h1 : 32 <= W) (h2 : W <= 768) (he : erP k r c q = 0) (hN : (N : Int) = k + r) (hk : N <= 16) :
    Calls Tryz.prog 70 #[.agg #[.int .i64 k, .int .i64 r, .int .i64 c, .int .i64 q]] w fun e w' => e = .returned (.tuple #[.agg #[.int .i64 (N : Int), .int .i64 (W : Int), .int .i64 ((dir W : Nat) : Int), .int .i64 ((lea W : Nat) : Int), .int .i64 ((mst W : Nat) : Int)], .int .i64 0]) /\ Below w.heap.size w w' := by
  have HC := fun w => Check_any k r c q w
  rw [he] at HC
  have HE : Hid (mst W = min 32768 (dir W * lea W * W)) := rfl
  have hd : ((W : Int) - 7) / 6 = ((dir W : Nat) : Int) := by unfold dir; omega
  have hl : (W : Int) / 6 = ((lea W : Nat) : Int) := by unfold lea; omega
  have HD : Hid (((W : Int) - 7) / 6 = ((dir W : Nat) : Int)) := hd
  have HL : Hid ((W : Int) / 6 = ((lea W : Nat) : Int)) := hl
  have HN : Hid (k + r = (N : Int)) := hN.symm
  have p1 := dl_le h2
  have p2 := dlw_le h2
  obtain ⟨p, hp, hpm, hpp⟩ : ∃ p : Nat, wrap64 (wrap64 (((W : Int) - 7) / 6 * ((W : Int) / 6)) * (W : Int)) = (p : Int) /\ mst W = min 32768 p /\ p <= 12386304 := by
    refine ⟨dir W * lea W * W, ?_, rfl, p2⟩
    rw [hd, hl, <- Int.natCast_mul, w64 ((dir W * lea W : Nat) : Int) (by omega), <- Int.natCast_mul, w64 _ (by omega)]
  have HPM : Hid (mst W = min 32768 p) := hpm
  clear hpm hd hl p1 p2 HE
  obtain ⟨w0, hw0⟩ : ∃ w0, w0 = w.alloc (.cells #[.int .i64 k, .int .i64 r, .int .i64 c, .int .i64 q] 23) := ⟨_, rfl⟩
  obtain ⟨w1, hw1⟩ : ∃ w1, w1 = w0.alloc (.cells #[.int .i64 0, .int .i64 0, .int .i64 0, .int .i64 0, .int .i64 0] 132) := ⟨_, rfl⟩
  have b0 : Below w.heap.size w w0 := by rw [hw0]; exact below_alloc _ _
  have b1 : Below w0.heap.size w0 w1 := by rw [hw1]; exact below_alloc _ _
  have z0 : w0.heap.size = w.heap.size + 1 := by rw [hw0]; simp
  go_enter Tryz.func70, Tryz.ntmps70
  go_wp2_with fail
  rw [<- hw0, <- hw1]
  refine (HC _).mono ?_
  rintro e wa ⟨rfl, ha⟩
  obtain ⟨s0, s1, s2, s3⟩ := par_held hw0 (below_then b1 ha)
  obtain ⟨m0, m1, m2, m3, m4⟩ := mea_held hw1 ha
  have f := blk_free hw1 ha
  rw [z0] at m0 m1 m2 m3 m4 f
  have n0 : ∀ o, (wa.alloc o).cell? ⟨w.heap.size + 1, 0, none⟩ = some (.int .i64 0) := fun o => held m0 (below_alloc _ _)
  have n1 : ∀ o, (wa.alloc o).cell? ⟨w.heap.size + 1, 1, none⟩ = some (.int .i64 0) := fun o => held m1 (below_alloc _ _)
  have n2 : ∀ o, (wa.alloc o).cell? ⟨w.heap.size + 1, 2, none⟩ = some (.int .i64 0) := fun o => held m2 (below_alloc _ _)
  have n3 : ∀ o, (wa.alloc o).cell? ⟨w.heap.size + 1, 3, none⟩ = some (.int .i64 0) := fun o => held m3 (below_alloc _ _)
  have n4 : ∀ o, (wa.alloc o).cell? ⟨w.heap.size + 1, 4, none⟩ = some (.int .i64 0) := fun o => held m4 (below_alloc _ _)
  have f' : ∀ o i, (wa.alloc o).frozen? ⟨w.heap.size + 1, i, none⟩ = false := fun o i => (World.frozen?_of_block (a := ⟨w.heap.size + 1, i, none⟩) (Below.heap_alloc _ _ _ (World.block_lt_of_cell? wa ⟨w.heap.size + 1, 0, none⟩ m0))).trans (f i)
  clear hw0 hw1 f m0 m1 m2 m3 m4
  by_cases hlt : (p : Int) < 32768
  · go_wp2_with fail
    refine bodyPost_ret (v := .tuple #[.agg #[.int .i64 (k + r), .int .i64 (W : Int), .int .i64 (((W : Int) - 7) / 6), .int .i64 ((W : Int) / 6), .int .i64 (p : Int)], .int .i64 0]) (by simp [results, Tryz.results70, go_sem, n0, n1, n2, n3, n4]) rfl ⟨?_, ?_⟩
    · rw [HN.out, HD.out, HL.out, HPM.out]
      rw [show min 32768 p = p by omega]
    · have hB := below_then (below_then b0 b1) ha
      exact (((((hB.alloc hB.size _).setCell (Nat.le_succ _) _).setCell (Nat.le_succ _) _).setCell (Nat.le_succ _) _).setCell (Nat.le_succ _) _).setCell (Nat.le_succ _) _
  · go_wp2_with fail
    refine bodyPost_ret (v := .tuple #[.agg #[.int .i64 (k + r), .int .i64 (W : Int), .int .i64 (((W : Int) - 7) / 6), .int .i64 ((W : Int) / 6), .int .i64 32768], .int .i64 0]) (by simp [results, Tryz.results70, go_sem, n0, n1, n2, n3, n4]) rfl ⟨?_, ?_⟩
    · rw [HN.out, HD.out, HL.out, HPM.out]
      rw [show min 32768 p = 32768 by omega]; rfl
    · have hB := below_then (below_then b0 b1) ha
      exact (((((hB.alloc hB.size _).setCell (Nat.le_succ _) _).setCell (Nat.le_succ _) _).setCell (Nat.le_succ _) _).setCell (Nat.le_succ _) _).setCell (Nat.le_succ _) _
set_option maxHeartbeats 400000 in
set_option maxRecDepth 100000 in
theorem measure_bad (k r c q : Int) (w : World) (he : erP k r c q = 2) :
    Calls Tryz.prog 70 #[.agg #[.int .i64 k, .int .i64 r, .int .i64 c, .int .i64 q]] w fun e w' => e = .returned (.tuple #[.agg #[.int .i64 0, .int .i64 0, .int .i64 0, .int .i64 0, .int .i64 0], .int .i64 2]) /\ Below w.heap.size w w' := by
  have HC := fun w => Check_any k r c q w
  rw [he] at HC
  obtain ⟨w0, hw0⟩ : ∃ w0, w0 = w.alloc (.cells #[.int .i64 k, .int .i64 r, .int .i64 c, .int .i64 q] 23) := ⟨_, rfl⟩
  have b0 : Below w.heap.size w w0 := by rw [hw0]; exact below_alloc _ _
  have z0 : w0.heap.size = w.heap.size + 1 := by rw [hw0]; simp
  obtain ⟨w1, hw1⟩ : ∃ w1, w1 = w0.alloc (.cells #[.int .i64 0, .int .i64 0, .int .i64 0, .int .i64 0, .int .i64 0] 132) := ⟨_, rfl⟩
  have b1 : Below w0.heap.size w0 w1 := by rw [hw1]; exact below_alloc _ _
  go_enter Tryz.func70, Tryz.ntmps70
  go_wp2_with fail
  rw [<- hw0, <- hw1]
  refine (HC _).mono ?_
  rintro e wa ⟨rfl, ha⟩
  obtain ⟨m0, m1, m2, m3, m4⟩ := mea_held hw1 ha
  have f := blk_free hw1 ha
  rw [z0] at m0 m1 m2 m3 m4 f
  clear hw0 hw1
  go_wp2_with fail
  refine bodyPost_ret (v := .tuple #[.agg #[.int .i64 0, .int .i64 0, .int .i64 0, .int .i64 0, .int .i64 0], .int .i64 2]) (by simp [results, Tryz.results70, go_sem, m0, m1, m2, m3, m4]) rfl ⟨rfl, ?_⟩
  have hB := below_then (below_then b0 b1) ha
  exact ((((hB.setCell (Nat.le_succ _) _).setCell (Nat.le_succ _) _).setCell (Nat.le_succ _) _).setCell (Nat.le_succ _) _).setCell (Nat.le_succ _) _
theorem measure_any {k r c q : Int} {N W : Nat} {x : Int} (h : Par k r c q N W x) (w : World) :
    Calls Tryz.prog 70 #[.agg #[.int .i64 k, .int .i64 r, .int .i64 c, .int .i64 q]] w fun e w' => e = .returned (.tuple #[.agg #[.int .i64 (N : Int), .int .i64 (W : Int), .int .i64 ((dir W : Nat) : Int), .int .i64 ((lea W : Nat) : Int), .int .i64 ((mst W : Nat) : Int)], .int .i64 x]) /\ Below w.heap.size w w' := by
  have hw := h.wide
  rcases h with ⟨h0, h1, h2, rfl⟩ | ⟨h0, rfl, rfl, rfl⟩
  · obtain ⟨p1, p2, p3, p4, p5, p6, p7, p8, p9⟩ := may_true h0
    exact measure_good k r c q w W N (by rw [h1]; exact wrap_wide p1 p2 p5 p6) (by omega) hw (by unfold erP; rw [if_pos h0]) h2 (by omega)
  · exact measure_bad k r c q w (by unfold erP; rw [if_neg (by rw [h0]; decide)])
set_option maxHeartbeats 400000 in
set_option maxRecDepth 100000 in
theorem Drives_any {k r c q : Int} {N W : Nat} {x : Int} (h : Par k r c q N W x) (w : World) :
    Calls Tryz.prog 51 #[.agg #[.int .i64 k, .int .i64 r, .int .i64 c, .int .i64 q]] w fun e w' => e = .returned (.tuple #[.int .i64 (N : Int), .int .i64 x]) /\ Below w.heap.size w w' := by
  have HC := fun w => measure_any h w
  clear h
  generalize dir W = d at *
  generalize lea W = l at *
  generalize mst W = m at *
  obtain ⟨w0, hw0⟩ : ∃ w0, w0 = w.alloc (.cells #[.int .i64 k, .int .i64 r, .int .i64 c, .int .i64 q] 23) := ⟨_, rfl⟩
  have b0 : Below w.heap.size w w0 := by rw [hw0]; exact below_alloc _ _
  go_enter Tryz.func51, Tryz.ntmps51
  go_wp2_with fail
  rw [<- hw0]
  refine (HC _).mono ?_
  rintro e wa ⟨rfl, ha⟩
  go_wp2_with fail
  go_ret2
  exact ⟨rfl, have hB := below_then b0 ha; hB.alloc hB.size _⟩
set_option maxHeartbeats 400000 in
set_option maxRecDepth 100000 in
theorem Width_any {k r c q : Int} {N W : Nat} {x : Int} (h : Par k r c q N W x) (w : World) :
    Calls Tryz.prog 36 #[.agg #[.int .i64 k, .int .i64 r, .int .i64 c, .int .i64 q]] w fun e w' => e = .returned (.tuple #[.int .i64 (W : Int), .int .i64 x]) /\ Below w.heap.size w w' := by
  have HC := fun w => measure_any h w
  clear h
  generalize dir W = d at *
  generalize lea W = l at *
  generalize mst W = m at *
  obtain ⟨w0, hw0⟩ : ∃ w0, w0 = w.alloc (.cells #[.int .i64 k, .int .i64 r, .int .i64 c, .int .i64 q] 23) := ⟨_, rfl⟩
  have b0 : Below w.heap.size w w0 := by rw [hw0]; exact below_alloc _ _
  go_enter Tryz.func36, Tryz.ntmps36
  go_wp2_with fail
  rw [<- hw0]
  refine (HC _).mono ?_
  rintro e wa ⟨rfl, ha⟩
  go_wp2_with fail
  go_ret2
  exact ⟨rfl, have hB := below_then b0 ha; hB.alloc hB.size _⟩
end Go.Proofs.YtdmpiipllmjloaaGreat
