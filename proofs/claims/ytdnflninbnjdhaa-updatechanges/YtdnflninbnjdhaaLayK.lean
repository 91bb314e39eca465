/- What Spans of the program answers. -/
import Derived.Test.YtdnflninbnjdhaaLayJ
import Derived.Test.YtdnflninbnjdhaaLayB
namespace Go.Proofs.Ytdnflninbnjdhaa
open Go.RowKit

/-- What a range comes to: the error e, or n parts. -/
def Rng (k r c q off m : Int) (W : Nat) (e : Int) : Prop :=
  (may k r c q = true ∧ 0 ≤ off ∧ 0 ≤ m ∧ off + m ≤ (mst W : Int) ∧ e = 0) ∨
  ((may k r c q = false ∨ off < 0 ∨ m < 0) ∧ e = 2) ∨
  (may k r c q = true ∧ 0 ≤ off ∧ 0 ≤ m ∧ (mst W : Int) < off + m ∧ e = 3)
theorem rng_any (k r c q off m : Int) (W : Nat) : ∃ e, Rng k r c q off m W e := by
  cases h : may k r c q
  · exact ⟨2, .inr (.inl ⟨.inl h, rfl⟩)⟩
  · by_cases h1 : off < 0
    · exact ⟨2, .inr (.inl ⟨.inr (.inl h1), rfl⟩)⟩
    · by_cases h2 : m < 0
      · exact ⟨2, .inr (.inl ⟨.inr (.inr h2), rfl⟩)⟩
      · by_cases h3 : (mst W : Int) < off + m
        · exact ⟨3, .inr (.inr ⟨h, by omega, by omega, h3, rfl⟩)⟩
        · exact ⟨0, .inl ⟨h, by omega, by omega, by omega, rfl⟩⟩
theorem owns_base {w : World} {base base' e size n : Nat} {v : Value} {xs : List Value} (h : w.ownsRow base e size v n xs) (hb : base' ≤ base) : w.ownsRow base' e size v n xs :=
  ⟨h.1, h.2.elim Or.inl (fun ⟨g, cap, cur, hv, hg, r⟩ => Or.inr ⟨g, cap, cur, hv, Nat.le_trans hb hg, r⟩)⟩
set_option maxHeartbeats 2000000 in
set_option maxRecDepth 100000 in
theorem spans_bad {k r c q : Int} {N W : Nat} {y : Int} (h : Par k r c q N W y) (off m : Int) (w : World) (e : Int) (hoff : off ≤ 9223372036854775807) (he : (y = 2 ∧ e = 2) ∨ (y = 0 ∧ off < 0 ∧ e = 2) ∨ (y = 0 ∧ 0 ≤ off ∧ m < 0 ∧ e = 2) ∨ (y = 0 ∧ 0 ≤ off ∧ 0 ≤ m ∧ (mst W : Int) < off + m ∧ e = 3)) :
    Calls Try.prog 13 #[.agg #[.int .i64 k, .int .i64 r, .int .i64 c, .int .i64 q], .int .i64 off, .int .i64 m] w fun e' w' => e' = .returned (.tuple #[.slice none 0 0, .int .i64 e]) ∧ Below w.heap.size w w' := by
  have HC := fun w => measure_any h w
  have hm := mst_le W
  clear h
  generalize dir W = d at *
  generalize lea W = l at *
  generalize mst W = z at *
  rcases he with ⟨rfl, rfl⟩ | ⟨rfl, h1, rfl⟩ | ⟨rfl, h0, h1, rfl⟩ | ⟨rfl, h1, h2, h3, rfl⟩
  all_goals (
    obtain ⟨w0, hw0⟩ : ∃ w0, w0 = w.alloc (.cells #[.int .i64 k, .int .i64 r, .int .i64 c, .int .i64 q] 23) := ⟨_, rfl⟩
    have b0 : Below w.heap.size w w0 := by rw [hw0]; exact below_alloc _ _
    go_enter Try.func13, Try.ntmps13
    go_wp2_with fail
    rw [← hw0]
    refine (HC _).mono ?_
    rintro e wa ⟨rfl, ha⟩
    clear hw0
    go_wp2_with fail
    go_ret2
    exact ⟨rfl, have hB := below_then b0 ha; hB.alloc hB.size _⟩)
set_option maxHeartbeats 2000000 in
set_option maxRecDepth 100000 in
theorem spans_good {k r c q : Nat} {N W : Nat} (h : Par (k : Int) r (c : Int) q N W 0) (o nn : Nat) (w : World) (hon : o + nn ≤ mst W) (hWk : W = k * c) (hk : 1 ≤ k) (hc1 : 8 ≤ c) (hc2 : c ≤ 64) :
    Calls Try.prog 13 #[.agg #[.int .i64 (k : Int), .int .i64 (r : Int), .int .i64 (c : Int), .int .i64 (q : Int)], .int .i64 (o : Int), .int .i64 (nn : Int)] w fun e' w' => ∃ n ao cap, e' = .returned (.tuple #[.slice ao n cap, .int .i64 0]) ∧ End o (o + nn) c n ∧ w'.ownsRow w.heap.size 42 4 (.slice ao n cap) n (spOf (stp o c k) (cel o c k) (frm o c) (til o (o + nn) c) n) ∧ Below w.heap.size w w' := by
  have HC := fun w => measure_any h w
  have hm := mst_le W
  have hW2 := h.wide
  clear h
  generalize dir W = d at *
  generalize lea W = l at *
  generalize mst W = z at *
  obtain ⟨w0, hw0⟩ : ∃ w0, w0 = w.alloc (.cells #[.int .i64 (k : Int), .int .i64 (r : Int), .int .i64 (c : Int), .int .i64 (q : Int)] 23) := ⟨_, rfl⟩
  have b0 : Below w.heap.size w w0 := by rw [hw0]; exact below_alloc _ _
  go_enter Try.func13, Try.ntmps13
  go_wp2_with fail
  rw [← hw0]
  refine (HC _).mono ?_
  rintro e wa ⟨rfl, ha⟩
  obtain ⟨wb, hwb⟩ : ∃ wb, wb = wa.alloc (.cells #[.int .i64 (N : Int), .int .i64 (W : Int), .int .i64 (d : Int), .int .i64 (l : Int), .int .i64 (z : Int)] 51) := ⟨_, rfl⟩
  obtain ⟨wc, hwc⟩ : ∃ wc, wc = wb.alloc (.cells #[.slice none 0 0] 38) := ⟨_, rfl⟩
  have b2 : Below wa.heap.size wa wb := by rw [hwb]; exact below_alloc _ _
  have b3 : Below wb.heap.size wb wc := by rw [hwc]; exact below_alloc _ _
  have z2 : wb.heap.size = wa.heap.size + 1 := by rw [hwb]; simp
  have z3 : wc.heap.size = wb.heap.size + 1 := by rw [hwc]; simp
  have x1 := blk_held hwc (Below.refl _ _) 0 rfl
  have x2 := blk_free hwc (Below.refl _ _) 0
  have x3 := (mea_held hwb b3).2.1
  have x4 := (par_held hw0 (below_then (below_then ha b2) b3)).2.2.1
  have x5 : wb.cell? ⟨w.heap.size, 2, none⟩ = some (.int .i64 (c : Int)) := (par_held hw0 (below_then ha b2)).2.2.1
  have x6 : wa.cell? ⟨w.heap.size, 2, none⟩ = some (.int .i64 (c : Int)) := (par_held hw0 ha).2.2.1
  have s1 := b0.size
  have s2 := ha.size
  have s3 : w.heap.size < w0.heap.size := by rw [hw0]; simp
  have CU := cut_any wc wb.heap.size wa.heap.size w.heap.size o nn c W k x1 x2 x3 x4 (by omega) (by omega) hWk hk hc1 hc2 hW2 (by omega)
  rw [z2] at CU
  have HB := below_then (below_then (below_then b0 ha) b2) b3
  have x7 : ∀ o o', ((wa.alloc o).alloc o').cell? ⟨w.heap.size, 2, none⟩ = some (.int .i64 (c : Int)) := fun o o' => held (held x6 (below_alloc wa o)) (below_alloc _ o')
  clear hw0 hWk x5 x6 x1 x2 x3 x4
  go_wp2_with fail
  rw [← hwb, ← hwc]
  clear hwb hwc x7
  refine CU.mono ?_
  rintro e w' ⟨n, ao, cap, rfl, hE, hcs, hown, ht⟩
  have HO : Hid (w'.ownsRow wc.heap.size 42 4 (.slice ao n cap) n (spOf (stp o c k) (cel o c k) (frm o c) (til o (o + nn) c) n)) := hown
  have HE : Hid (End o (o + nn) c n) := hE
  have s4 := HB.size
  have HBB : Hid (Below w.heap.size w w') := ⟨ht.os.trans HB.os, ht.tape.trans HB.tape, ht.output.trans HB.output, Nat.le_trans HB.size ht.size, fun k hk => (ht.block k (by omega) (by omega)).trans (HB.block k hk)⟩
  clear hE hown ht CU HB
  go_wp2_with fail
  go_ret2
  exact ⟨n, ao, cap, rfl, HE.out, owns_base HO.out s4, HBB.out⟩
end Go.Proofs.Ytdnflninbnjdhaa
