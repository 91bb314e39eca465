/- Whether refs and descriptors may be, by the document. -/
import Derived.Test.YtjncnojplkljnaaDsI
import Derived.Deep.RegionHeld3
namespace Go.Proofs.Ytjncnojplkljnaa
open Go.RowKit

set_option maxHeartbeats 4000000 in
set_option maxRecDepth 100000 in
theorem refs_any (k r c q : Int) (w : World) (ro : Option Addr) (n rc : Nat) (R V : Nat → Int) (hR : RdR w ro n R V) (hn : n ≤ 1000) :
    Calls Try.prog 42 #[.agg #[.int .i64 k, .int .i64 r, .int .i64 c, .int .i64 q], .slice ro n rc] w fun e w' => e = .returned (.bool (okL q n R V)) ∧ Below w.heap.size w w' := by
  have HR : Hid (RdR w ro n R V) := hR
  clear hR
  obtain ⟨w0, hw0⟩ : ∃ w0, w0 = w.alloc (.cells #[.int .i64 k, .int .i64 r, .int .i64 c, .int .i64 q] 24) := ⟨_, rfl⟩
  have b0 : Below w.heap.size w w0 := by rw [hw0]; exact below_alloc _ _
  have HP : Hid (∀ u, Below w0.heap.size w0 u → u.cell? ⟨w.heap.size, 0, none⟩ = some (.int .i64 k) ∧ u.cell? ⟨w.heap.size, 1, none⟩ = some (.int .i64 r) ∧ u.cell? ⟨w.heap.size, 2, none⟩ = some (.int .i64 c) ∧ u.cell? ⟨w.heap.size, 3, none⟩ = some (.int .i64 q)) := fun u hu => par_held hw0 hu
  have HBB : Hid (Below w.heap.size w w0) := b0
  by_cases hall : ∀ i, i < n → okR q (R i) (V i) = true
  · rw [show okL q n R V = true from decide_eq_true hall]
    have HA : Hid (∀ i, i < n → okR q (R i) (V i) = true) := hall
    clear hall
    go_enter Try.func42, Try.ntmps42
    go_wp2_with fail
    rw [← hw0]
    clear hw0 b0
    go_loopw [5] (fun x wr => ∃ i : Nat, i ≤ n ∧ x = .int .i64 i ∧ Hid (Below w0.heap.size w0 wr)) (fun x _ => n - (intOf x).toNat)
    case atStart => exact ⟨0, Nat.zero_le _, rfl, Below.refl _ _⟩
    case round =>
      obtain ⟨i, hi, rfl, hbel⟩ := hrel
      by_cases hlt : i < n
      · skip
        obtain ⟨b, off, rfl, hc⟩ := (HR.out.below (below_then HBB.out hbel.out)) (by omega)
        obtain ⟨q0, q1⟩ := hc i hlt
        obtain ⟨p0, p1, p2, p3⟩ := HP.out _ hbel.out
        have HC := fun v => Ref_any k r c q (R i) (V i) v
        rw [HA.out i hlt] at HC
        have HTT : Hid (∀ v, Below wr.drew.heap.size wr.drew v → Below w0.heap.size w0 v ∧ v.cell? ⟨b, off + i * 2, none⟩ = some (.int .i64 (R i)) ∧ v.cell? ⟨b, off + i * 2 + 1, none⟩ = some (.int .i64 (V i))) := fun v hv => ⟨below_then hbel.out (of_drew hv), held q0 (of_drew hv), held q1 (of_drew hv)⟩
        have i1 : (0 : Int) ≤ (i : Int) := by omega
        have i2 : (i : Int) < (n : Int) := by omega
        clear hc
        go_wp2_with fail
        go_region_held3 (fun v => (v.cell? ⟨w.heap.size, 0, none⟩ = some (.int .i64 k) ∧ v.cell? ⟨w.heap.size, 1, none⟩ = some (.int .i64 r) ∧ v.cell? ⟨w.heap.size, 2, none⟩ = some (.int .i64 c) ∧ v.cell? ⟨w.heap.size, 3, none⟩ = some (.int .i64 q)) ∧ v.cell? ⟨b, off + i * 2, none⟩ = some (.int .i64 (R i)) ∧ v.cell? ⟨b, off + i * 2 + 1, none⟩ = some (.int .i64 (V i))) (go_keep)
          ((go_at_call 64; refine (HC _).mono ?_; rintro e wa ⟨rfl, ha⟩; obtain ⟨hb1, h2, h3⟩ := HTT.out _ ha; obtain ⟨g0, g1, g2, g3⟩ := HP.out _ hb1))
        have HB2 : Hid (Below w0.heap.size w0 wa) := hb1
        clear hb1 h2 h3 g0 g1 g2 g3 ha
        go_wp2_with fail
        exact ⟨⟨i + 1, by omega, by go_num, HB2⟩, by simp [intOf]; omega⟩
      · go_wp2
        go_ret
        exact ⟨rfl, below_then HBB.out hbel.out⟩
  · rw [show okL q n R V = false from decide_eq_false hall]
    obtain ⟨z, hz, hne, heq⟩ := first_not hall
    have HE : Hid (∀ i, i < z → okR q (R i) (V i) = true) := heq
    have HN : Hid (okR q (R z) (V z) = false) := by show _ = _; cases h : okR q (R z) (V z); rfl; exact absurd h hne
    clear hall hne heq
    go_enter Try.func42, Try.ntmps42
    go_wp2_with fail
    rw [← hw0]
    clear hw0 b0
    go_loopw [5] (fun x wr => ∃ i : Nat, i ≤ z ∧ x = .int .i64 i ∧ Hid (Below w0.heap.size w0 wr)) (fun x _ => n - (intOf x).toNat)
    case atStart => exact ⟨0, Nat.zero_le _, rfl, Below.refl _ _⟩
    case round =>
      obtain ⟨i, hi, rfl, hbel⟩ := hrel
      have hlt : i < n := by omega
      by_cases hiz : i < z
      · skip
        obtain ⟨b, off, rfl, hc⟩ := (HR.out.below (below_then HBB.out hbel.out)) (by omega)
        obtain ⟨q0, q1⟩ := hc i hlt
        obtain ⟨p0, p1, p2, p3⟩ := HP.out _ hbel.out
        have HC := fun v => Ref_any k r c q (R i) (V i) v
        rw [HE.out i hiz] at HC
        have HTT : Hid (∀ v, Below wr.drew.heap.size wr.drew v → Below w0.heap.size w0 v ∧ v.cell? ⟨b, off + i * 2, none⟩ = some (.int .i64 (R i)) ∧ v.cell? ⟨b, off + i * 2 + 1, none⟩ = some (.int .i64 (V i))) := fun v hv => ⟨below_then hbel.out (of_drew hv), held q0 (of_drew hv), held q1 (of_drew hv)⟩
        have i1 : (0 : Int) ≤ (i : Int) := by omega
        have i2 : (i : Int) < (n : Int) := by omega
        clear hc
        go_wp2_with fail
        go_region_held3 (fun v => (v.cell? ⟨w.heap.size, 0, none⟩ = some (.int .i64 k) ∧ v.cell? ⟨w.heap.size, 1, none⟩ = some (.int .i64 r) ∧ v.cell? ⟨w.heap.size, 2, none⟩ = some (.int .i64 c) ∧ v.cell? ⟨w.heap.size, 3, none⟩ = some (.int .i64 q)) ∧ v.cell? ⟨b, off + i * 2, none⟩ = some (.int .i64 (R i)) ∧ v.cell? ⟨b, off + i * 2 + 1, none⟩ = some (.int .i64 (V i))) (go_keep)
          ((go_at_call 64; refine (HC _).mono ?_; rintro e wa ⟨rfl, ha⟩; obtain ⟨hb1, h2, h3⟩ := HTT.out _ ha; obtain ⟨g0, g1, g2, g3⟩ := HP.out _ hb1))
        have HB2 : Hid (Below w0.heap.size w0 wa) := hb1
        clear hb1 h2 h3 g0 g1 g2 g3 ha
        go_wp2_with fail
        exact ⟨⟨i + 1, by omega, by go_num, HB2⟩, by simp [intOf]; omega⟩
      · obtain rfl : i = z := by omega
        obtain ⟨b, off, rfl, hc⟩ := (HR.out.below (below_then HBB.out hbel.out)) (by omega)
        obtain ⟨q0, q1⟩ := hc i hlt
        obtain ⟨p0, p1, p2, p3⟩ := HP.out _ hbel.out
        have HC := fun v => Ref_any k r c q (R i) (V i) v
        rw [HN.out] at HC
        have HTT : Hid (∀ v, Below wr.drew.heap.size wr.drew v → Below w0.heap.size w0 v ∧ v.cell? ⟨b, off + i * 2, none⟩ = some (.int .i64 (R i)) ∧ v.cell? ⟨b, off + i * 2 + 1, none⟩ = some (.int .i64 (V i))) := fun v hv => ⟨below_then hbel.out (of_drew hv), held q0 (of_drew hv), held q1 (of_drew hv)⟩
        have i1 : (0 : Int) ≤ (i : Int) := by omega
        have i2 : (i : Int) < (n : Int) := by omega
        clear hc
        go_wp2_with fail
        go_region_held3 (fun v => (v.cell? ⟨w.heap.size, 0, none⟩ = some (.int .i64 k) ∧ v.cell? ⟨w.heap.size, 1, none⟩ = some (.int .i64 r) ∧ v.cell? ⟨w.heap.size, 2, none⟩ = some (.int .i64 c) ∧ v.cell? ⟨w.heap.size, 3, none⟩ = some (.int .i64 q)) ∧ v.cell? ⟨b, off + i * 2, none⟩ = some (.int .i64 (R i)) ∧ v.cell? ⟨b, off + i * 2 + 1, none⟩ = some (.int .i64 (V i))) (go_keep)
          ((go_at_call 64; refine (HC _).mono ?_; rintro e wa ⟨rfl, ha⟩; obtain ⟨hb1, h2, h3⟩ := HTT.out _ ha; obtain ⟨g0, g1, g2, g3⟩ := HP.out _ hb1))
        have HB2 : Hid (Below w0.heap.size w0 wa) := hb1
        clear hb1 h2 h3 g0 g1 g2 g3 ha
        go_wp2_with fail
        go_ret
        exact ⟨rfl, below_then HBB.out HB2.out⟩
set_option maxHeartbeats 4000000 in
set_option maxRecDepth 100000 in
theorem DMay_neg {k r c q : Int} (w : World) (len dep : Int) (ro : Option Addr) (n rc : Nat) (hl : len < 0) :
    Calls Try.prog 45 #[.agg #[.int .i64 k, .int .i64 r, .int .i64 c, .int .i64 q], .agg #[.int .i64 len, .int .i64 dep, .slice ro n rc]] w fun e w' => e = .returned (.bool false) ∧ Below w.heap.size w w' := by
  obtain ⟨w0, hw0⟩ : ∃ w0, w0 = w.alloc (.cells #[.int .i64 k, .int .i64 r, .int .i64 c, .int .i64 q] 24) := ⟨_, rfl⟩
  obtain ⟨w1, hw1⟩ : ∃ w1, w1 = w0.alloc (.cells #[.int .i64 len, .int .i64 dep, .slice ro n rc] 35) := ⟨_, rfl⟩
  have b0 : Below w.heap.size w w0 := by rw [hw0]; exact below_alloc _ _
  have b1 : Below w0.heap.size w0 w1 := by rw [hw1]; exact below_alloc _ _
  have z0 : w0.heap.size = w.heap.size + 1 := by rw [hw0]; simp
  have HBB : Hid (Below w.heap.size w w1) := below_then b0 b1
  have HP : Hid (∀ u, Below w1.heap.size w1 u → (u.cell? ⟨w.heap.size, 0, none⟩ = some (.int .i64 k) ∧ u.cell? ⟨w.heap.size, 1, none⟩ = some (.int .i64 r) ∧ u.cell? ⟨w.heap.size, 2, none⟩ = some (.int .i64 c) ∧ u.cell? ⟨w.heap.size, 3, none⟩ = some (.int .i64 q)) ∧ u.cell? ⟨w.heap.size + 1, 0, none⟩ = some (.int .i64 len) ∧ u.cell? ⟨w.heap.size + 1, 1, none⟩ = some (.int .i64 dep) ∧ u.cell? ⟨w.heap.size + 1, 2, none⟩ = some (.slice ro n rc)) := fun u hu => ⟨par_held hw0 (below_then b1 hu), by rw [← z0]; exact ⟨blk_held hw1 hu 0 rfl, blk_held hw1 hu 1 rfl, blk_held hw1 hu 2 rfl⟩⟩
  obtain ⟨⟨p0, p1, p2, p3⟩, d0, d1, d2⟩ := HP.out _ (Below.refl _ _)
  have e1 : decide (len < 0) = true := decide_eq_true hl
  go_enter Try.func45, Try.ntmps45
  go_wp2_with fail
  rw [← hw0, ← hw1]
  clear hw0 hw1 z0 b0 b1
  go_big_quiet (fail)
  go_wp2_with fail
  go_ret
  exact ⟨rfl, below_then HBB.out (below_drewN _ _ _)⟩
set_option maxHeartbeats 4000000 in
set_option maxRecDepth 100000 in
theorem DMay_big {k r c q : Int} {N W : Nat} (h : Par k r c q N W 0) (w : World) (len dep : Int) (ro : Option Addr) (n rc : Nat) (hl : 0 ≤ len) (hl2 : (mst W : Int) < len) :
    Calls Try.prog 45 #[.agg #[.int .i64 k, .int .i64 r, .int .i64 c, .int .i64 q], .agg #[.int .i64 len, .int .i64 dep, .slice ro n rc]] w fun e w' => e = .returned (.bool false) ∧ Below w.heap.size w w' := by
  obtain ⟨hmy, _⟩ := h.fine
  obtain ⟨g1, g2, g3, _, _⟩ := h.good hmy
  have HM := fun w => M_good k r c q w W g1 g2 g3
  have gm := mst_le W
  generalize mst W = mm at *
  have e1 : decide (len < 0) = false := decide_eq_false (by omega)
  have e2 : decide ((mm : Int) < len) = true := decide_eq_true hl2
  clear h hmy g1 g2 g3
  obtain ⟨w0, hw0⟩ : ∃ w0, w0 = w.alloc (.cells #[.int .i64 k, .int .i64 r, .int .i64 c, .int .i64 q] 24) := ⟨_, rfl⟩
  obtain ⟨w1, hw1⟩ : ∃ w1, w1 = w0.alloc (.cells #[.int .i64 len, .int .i64 dep, .slice ro n rc] 35) := ⟨_, rfl⟩
  have b0 : Below w.heap.size w w0 := by rw [hw0]; exact below_alloc _ _
  have b1 : Below w0.heap.size w0 w1 := by rw [hw1]; exact below_alloc _ _
  have z0 : w0.heap.size = w.heap.size + 1 := by rw [hw0]; simp
  have HBB : Hid (Below w.heap.size w w1) := below_then b0 b1
  have HP : Hid (∀ u, Below w1.heap.size w1 u → (u.cell? ⟨w.heap.size, 0, none⟩ = some (.int .i64 k) ∧ u.cell? ⟨w.heap.size, 1, none⟩ = some (.int .i64 r) ∧ u.cell? ⟨w.heap.size, 2, none⟩ = some (.int .i64 c) ∧ u.cell? ⟨w.heap.size, 3, none⟩ = some (.int .i64 q)) ∧ u.cell? ⟨w.heap.size + 1, 0, none⟩ = some (.int .i64 len) ∧ u.cell? ⟨w.heap.size + 1, 1, none⟩ = some (.int .i64 dep) ∧ u.cell? ⟨w.heap.size + 1, 2, none⟩ = some (.slice ro n rc)) := fun u hu => ⟨par_held hw0 (below_then b1 hu), by rw [← z0]; exact ⟨blk_held hw1 hu 0 rfl, blk_held hw1 hu 1 rfl, blk_held hw1 hu 2 rfl⟩⟩
  obtain ⟨⟨p0, p1, p2, p3⟩, d0, d1, d2⟩ := HP.out _ (Below.refl _ _)
  go_enter Try.func45, Try.ntmps45
  go_wp2_with fail
  rw [← hw0, ← hw1]
  clear hw0 hw1 z0 b0 b1
  have HT : Hid (∀ v, Below w1.drew.heap.size w1.drew v → Below w1.heap.size w1 v) := fun v hv => of_drew hv
  go_region_held3 (fun v => (v.cell? ⟨w.heap.size, 0, none⟩ = some (.int .i64 k) ∧ v.cell? ⟨w.heap.size, 1, none⟩ = some (.int .i64 r) ∧ v.cell? ⟨w.heap.size, 2, none⟩ = some (.int .i64 c) ∧ v.cell? ⟨w.heap.size, 3, none⟩ = some (.int .i64 q)) ∧ v.cell? ⟨w.heap.size + 1, 0, none⟩ = some (.int .i64 len) ∧ v.cell? ⟨w.heap.size + 1, 1, none⟩ = some (.int .i64 dep) ∧ v.cell? ⟨w.heap.size + 1, 2, none⟩ = some (.slice ro n rc)) (go_keep)
    ((go_at_call 65; refine (HM _).mono ?_; rintro e wa ⟨rfl, ha⟩; have ha2 := HT.out _ ha; obtain ⟨⟨q0, q1, q2, q3⟩, f0, f1, f2⟩ := HP.out _ ha2))
  go_wp2_with fail
  go_ret
  exact ⟨rfl, below_then HBB.out ha2⟩
set_option maxHeartbeats 4000000 in
set_option maxRecDepth 100000 in
theorem DMay_0dep {k r c q : Int} {N W : Nat} (h : Par k r c q N W 0) (w : World) (len dep : Int) (ro : Option Addr) (n rc : Nat) (hl : 0 ≤ len) (hl2 : len ≤ (mst W : Int)) {s x nn : Nat} (h' : Made k r c q len W s 0 x nn 0) (h1 : ¬ dep = 0) :
    Calls Try.prog 45 #[.agg #[.int .i64 k, .int .i64 r, .int .i64 c, .int .i64 q], .agg #[.int .i64 len, .int .i64 dep, .slice ro n rc]] w fun e w' => e = .returned (.bool (false)) ∧ Below w.heap.size w w' := by
  obtain ⟨hmy, _⟩ := h.fine
  obtain ⟨g1, g2, g3, _, _⟩ := h.good hmy
  have HM := fun w => M_good k r c q w W g1 g2 g3
  have gm := mst_le W
  generalize mst W = mm at *
  have e1 : decide (len < 0) = false := decide_eq_false (by omega)
  have e2 : decide ((mm : Int) < len) = false := decide_eq_false (by omega)
  have CS := fun v => RStripes_any h h' v
  have CD := fun v => RDepth_any h h' v
  have CV := fun v => RLeaves_any h h' v
  have e3 : (dep == (0 : Int)) = false := by simpa using h1
  clear h1
  clear h h' hmy g1 g2 g3
  obtain ⟨w0, hw0⟩ : ∃ w0, w0 = w.alloc (.cells #[.int .i64 k, .int .i64 r, .int .i64 c, .int .i64 q] 24) := ⟨_, rfl⟩
  obtain ⟨w1, hw1⟩ : ∃ w1, w1 = w0.alloc (.cells #[.int .i64 len, .int .i64 dep, .slice ro n rc] 35) := ⟨_, rfl⟩
  have b0 : Below w.heap.size w w0 := by rw [hw0]; exact below_alloc _ _
  have b1 : Below w0.heap.size w0 w1 := by rw [hw1]; exact below_alloc _ _
  have z0 : w0.heap.size = w.heap.size + 1 := by rw [hw0]; simp
  have HBB : Hid (Below w.heap.size w w1) := below_then b0 b1
  have HP : Hid (∀ u, Below w1.heap.size w1 u → (u.cell? ⟨w.heap.size, 0, none⟩ = some (.int .i64 k) ∧ u.cell? ⟨w.heap.size, 1, none⟩ = some (.int .i64 r) ∧ u.cell? ⟨w.heap.size, 2, none⟩ = some (.int .i64 c) ∧ u.cell? ⟨w.heap.size, 3, none⟩ = some (.int .i64 q)) ∧ u.cell? ⟨w.heap.size + 1, 0, none⟩ = some (.int .i64 len) ∧ u.cell? ⟨w.heap.size + 1, 1, none⟩ = some (.int .i64 dep) ∧ u.cell? ⟨w.heap.size + 1, 2, none⟩ = some (.slice ro n rc)) := fun u hu => ⟨par_held hw0 (below_then b1 hu), by rw [← z0]; exact ⟨blk_held hw1 hu 0 rfl, blk_held hw1 hu 1 rfl, blk_held hw1 hu 2 rfl⟩⟩
  obtain ⟨⟨p0, p1, p2, p3⟩, d0, d1, d2⟩ := HP.out _ (Below.refl _ _)
  go_enter Try.func45, Try.ntmps45
  go_wp2_with fail
  rw [← hw0, ← hw1]
  clear hw0 hw1 z0 b0 b1
  have HT : Hid (∀ v, Below w1.drew.heap.size w1.drew v → Below w1.heap.size w1 v) := fun v hv => of_drew hv
  go_region_held3 (fun v => (v.cell? ⟨w.heap.size, 0, none⟩ = some (.int .i64 k) ∧ v.cell? ⟨w.heap.size, 1, none⟩ = some (.int .i64 r) ∧ v.cell? ⟨w.heap.size, 2, none⟩ = some (.int .i64 c) ∧ v.cell? ⟨w.heap.size, 3, none⟩ = some (.int .i64 q)) ∧ v.cell? ⟨w.heap.size + 1, 0, none⟩ = some (.int .i64 len) ∧ v.cell? ⟨w.heap.size + 1, 1, none⟩ = some (.int .i64 dep) ∧ v.cell? ⟨w.heap.size + 1, 2, none⟩ = some (.slice ro n rc)) (go_keep)
    ((go_at_call 65; refine (HM _).mono ?_; rintro e wa ⟨rfl, ha⟩; have ha2 := HT.out _ ha; obtain ⟨⟨q0, q1, q2, q3⟩, f0, f1, f2⟩ := HP.out _ ha2))
  have k1 : Hid (Below w1.heap.size w1 wa) := ha2
  clear ha ha2 p0 p1 p2 p3 d0 d1 d2
  go_wp2_with fail
  refine (CS _).mono ?_
  rintro e wb ⟨rfl, hb⟩
  have k2 : Hid (Below w1.heap.size w1 wb) := below_then k1.out hb
  clear hb q0 q1 q2 q3 f0 f1 f2
  obtain ⟨⟨p0, p1, p2, p3⟩, d0, d1, d2⟩ := HP.out _ k2.out
  go_wp2_with fail
  refine (CD _).mono ?_
  rintro e wc ⟨rfl, hc⟩
  have k3 : Hid (Below w1.heap.size w1 wc) := below_then k2.out hc
  clear hc p0 p1 p2 p3 d0 d1 d2
  obtain ⟨⟨p0, p1, p2, p3⟩, d0, d1, d2⟩ := HP.out _ k3.out
  go_wp2_with fail
  refine (CV _).mono ?_
  rintro e wd ⟨rfl, hd⟩
  have k4 : Hid (Below w1.heap.size w1 wd) := below_then k3.out hd
  clear hd p0 p1 p2 p3 d0 d1 d2
  obtain ⟨⟨p0, p1, p2, p3⟩, d0, d1, d2⟩ := HP.out _ k4.out
  go_wp2_with fail
  go_ret
  exact ⟨rfl, below_then HBB.out k4.out⟩
set_option maxHeartbeats 4000000 in
set_option maxRecDepth 100000 in
theorem DMay_0n {k r c q : Int} {N W : Nat} (h : Par k r c q N W 0) (w : World) (len dep : Int) (ro : Option Addr) (n rc : Nat) (hl : 0 ≤ len) (hl2 : len ≤ (mst W : Int)) {s x nn : Nat} (h' : Made k r c q len W s 0 x nn 0) (h1 : dep = 0) (h2 : ¬ n = s) :
    Calls Try.prog 45 #[.agg #[.int .i64 k, .int .i64 r, .int .i64 c, .int .i64 q], .agg #[.int .i64 len, .int .i64 dep, .slice ro n rc]] w fun e w' => e = .returned (.bool (false)) ∧ Below w.heap.size w w' := by
  obtain ⟨hmy, _⟩ := h.fine
  obtain ⟨g1, g2, g3, _, _⟩ := h.good hmy
  have HM := fun w => M_good k r c q w W g1 g2 g3
  have gm := mst_le W
  generalize mst W = mm at *
  have e1 : decide (len < 0) = false := decide_eq_false (by omega)
  have e2 : decide ((mm : Int) < len) = false := decide_eq_false (by omega)
  have CS := fun v => RStripes_any h h' v
  have CD := fun v => RDepth_any h h' v
  have CV := fun v => RLeaves_any h h' v
  have e3 : (dep == (0 : Int)) = true := by simpa using h1
  have e4 : ((n : Int) == (s : Int)) = false := by have : ¬ (n : Int) = (s : Int) := (by omega); simpa using this
  clear h1 h2
  clear h h' hmy g1 g2 g3
  obtain ⟨w0, hw0⟩ : ∃ w0, w0 = w.alloc (.cells #[.int .i64 k, .int .i64 r, .int .i64 c, .int .i64 q] 24) := ⟨_, rfl⟩
  obtain ⟨w1, hw1⟩ : ∃ w1, w1 = w0.alloc (.cells #[.int .i64 len, .int .i64 dep, .slice ro n rc] 35) := ⟨_, rfl⟩
  have b0 : Below w.heap.size w w0 := by rw [hw0]; exact below_alloc _ _
  have b1 : Below w0.heap.size w0 w1 := by rw [hw1]; exact below_alloc _ _
  have z0 : w0.heap.size = w.heap.size + 1 := by rw [hw0]; simp
  have HBB : Hid (Below w.heap.size w w1) := below_then b0 b1
  have HP : Hid (∀ u, Below w1.heap.size w1 u → (u.cell? ⟨w.heap.size, 0, none⟩ = some (.int .i64 k) ∧ u.cell? ⟨w.heap.size, 1, none⟩ = some (.int .i64 r) ∧ u.cell? ⟨w.heap.size, 2, none⟩ = some (.int .i64 c) ∧ u.cell? ⟨w.heap.size, 3, none⟩ = some (.int .i64 q)) ∧ u.cell? ⟨w.heap.size + 1, 0, none⟩ = some (.int .i64 len) ∧ u.cell? ⟨w.heap.size + 1, 1, none⟩ = some (.int .i64 dep) ∧ u.cell? ⟨w.heap.size + 1, 2, none⟩ = some (.slice ro n rc)) := fun u hu => ⟨par_held hw0 (below_then b1 hu), by rw [← z0]; exact ⟨blk_held hw1 hu 0 rfl, blk_held hw1 hu 1 rfl, blk_held hw1 hu 2 rfl⟩⟩
  obtain ⟨⟨p0, p1, p2, p3⟩, d0, d1, d2⟩ := HP.out _ (Below.refl _ _)
  go_enter Try.func45, Try.ntmps45
  go_wp2_with fail
  rw [← hw0, ← hw1]
  clear hw0 hw1 z0 b0 b1
  have HT : Hid (∀ v, Below w1.drew.heap.size w1.drew v → Below w1.heap.size w1 v) := fun v hv => of_drew hv
  go_region_held3 (fun v => (v.cell? ⟨w.heap.size, 0, none⟩ = some (.int .i64 k) ∧ v.cell? ⟨w.heap.size, 1, none⟩ = some (.int .i64 r) ∧ v.cell? ⟨w.heap.size, 2, none⟩ = some (.int .i64 c) ∧ v.cell? ⟨w.heap.size, 3, none⟩ = some (.int .i64 q)) ∧ v.cell? ⟨w.heap.size + 1, 0, none⟩ = some (.int .i64 len) ∧ v.cell? ⟨w.heap.size + 1, 1, none⟩ = some (.int .i64 dep) ∧ v.cell? ⟨w.heap.size + 1, 2, none⟩ = some (.slice ro n rc)) (go_keep)
    ((go_at_call 65; refine (HM _).mono ?_; rintro e wa ⟨rfl, ha⟩; have ha2 := HT.out _ ha; obtain ⟨⟨q0, q1, q2, q3⟩, f0, f1, f2⟩ := HP.out _ ha2))
  have k1 : Hid (Below w1.heap.size w1 wa) := ha2
  clear ha ha2 p0 p1 p2 p3 d0 d1 d2
  go_wp2_with fail
  refine (CS _).mono ?_
  rintro e wb ⟨rfl, hb⟩
  have k2 : Hid (Below w1.heap.size w1 wb) := below_then k1.out hb
  clear hb q0 q1 q2 q3 f0 f1 f2
  obtain ⟨⟨p0, p1, p2, p3⟩, d0, d1, d2⟩ := HP.out _ k2.out
  go_wp2_with fail
  refine (CD _).mono ?_
  rintro e wc ⟨rfl, hc⟩
  have k3 : Hid (Below w1.heap.size w1 wc) := below_then k2.out hc
  clear hc p0 p1 p2 p3 d0 d1 d2
  obtain ⟨⟨p0, p1, p2, p3⟩, d0, d1, d2⟩ := HP.out _ k3.out
  go_wp2_with fail
  refine (CV _).mono ?_
  rintro e wd ⟨rfl, hd⟩
  have k4 : Hid (Below w1.heap.size w1 wd) := below_then k3.out hd
  clear hd p0 p1 p2 p3 d0 d1 d2
  obtain ⟨⟨p0, p1, p2, p3⟩, d0, d1, d2⟩ := HP.out _ k4.out
  go_wp2_with fail
  go_ret
  exact ⟨rfl, below_then HBB.out k4.out⟩
set_option maxHeartbeats 4000000 in
set_option maxRecDepth 100000 in
theorem DMay_0ok {k r c q : Int} {N W : Nat} (h : Par k r c q N W 0) (w : World) (len dep : Int) (ro : Option Addr) (n rc : Nat) (hl : 0 ≤ len) (hl2 : len ≤ (mst W : Int)) {s x nn : Nat} (h' : Made k r c q len W s 0 x nn 0) (h1 : dep = 0) (h2 : n = s) (R V : Nat → Int) (hR : RdR w ro n R V) (hn : n ≤ 1000) :
    Calls Try.prog 45 #[.agg #[.int .i64 k, .int .i64 r, .int .i64 c, .int .i64 q], .agg #[.int .i64 len, .int .i64 dep, .slice ro n rc]] w fun e w' => e = .returned (.bool (okL q n R V)) ∧ Below w.heap.size w w' := by
  obtain ⟨hmy, _⟩ := h.fine
  obtain ⟨g1, g2, g3, _, _⟩ := h.good hmy
  have HM := fun w => M_good k r c q w W g1 g2 g3
  have gm := mst_le W
  generalize mst W = mm at *
  have e1 : decide (len < 0) = false := decide_eq_false (by omega)
  have e2 : decide ((mm : Int) < len) = false := decide_eq_false (by omega)
  have CS := fun v => RStripes_any h h' v
  have CD := fun v => RDepth_any h h' v
  have CV := fun v => RLeaves_any h h' v
  have e3 : (dep == (0 : Int)) = true := by simpa using h1
  have e4 : ((n : Int) == (s : Int)) = true := by rw [h2]; simp
  have CR := fun v hv => refs_any k r c q v ro n rc R V hv hn
  have HR : Hid (RdR w ro n R V) := hR
  generalize okL q n R V = ok at *
  clear h1 h2 hR
  clear h h' hmy g1 g2 g3
  obtain ⟨w0, hw0⟩ : ∃ w0, w0 = w.alloc (.cells #[.int .i64 k, .int .i64 r, .int .i64 c, .int .i64 q] 24) := ⟨_, rfl⟩
  obtain ⟨w1, hw1⟩ : ∃ w1, w1 = w0.alloc (.cells #[.int .i64 len, .int .i64 dep, .slice ro n rc] 35) := ⟨_, rfl⟩
  have b0 : Below w.heap.size w w0 := by rw [hw0]; exact below_alloc _ _
  have b1 : Below w0.heap.size w0 w1 := by rw [hw1]; exact below_alloc _ _
  have z0 : w0.heap.size = w.heap.size + 1 := by rw [hw0]; simp
  have HBB : Hid (Below w.heap.size w w1) := below_then b0 b1
  have HP : Hid (∀ u, Below w1.heap.size w1 u → (u.cell? ⟨w.heap.size, 0, none⟩ = some (.int .i64 k) ∧ u.cell? ⟨w.heap.size, 1, none⟩ = some (.int .i64 r) ∧ u.cell? ⟨w.heap.size, 2, none⟩ = some (.int .i64 c) ∧ u.cell? ⟨w.heap.size, 3, none⟩ = some (.int .i64 q)) ∧ u.cell? ⟨w.heap.size + 1, 0, none⟩ = some (.int .i64 len) ∧ u.cell? ⟨w.heap.size + 1, 1, none⟩ = some (.int .i64 dep) ∧ u.cell? ⟨w.heap.size + 1, 2, none⟩ = some (.slice ro n rc)) := fun u hu => ⟨par_held hw0 (below_then b1 hu), by rw [← z0]; exact ⟨blk_held hw1 hu 0 rfl, blk_held hw1 hu 1 rfl, blk_held hw1 hu 2 rfl⟩⟩
  obtain ⟨⟨p0, p1, p2, p3⟩, d0, d1, d2⟩ := HP.out _ (Below.refl _ _)
  go_enter Try.func45, Try.ntmps45
  go_wp2_with fail
  rw [← hw0, ← hw1]
  clear hw0 hw1 z0 b0 b1
  have HT : Hid (∀ v, Below w1.drew.heap.size w1.drew v → Below w1.heap.size w1 v) := fun v hv => of_drew hv
  go_region_held3 (fun v => (v.cell? ⟨w.heap.size, 0, none⟩ = some (.int .i64 k) ∧ v.cell? ⟨w.heap.size, 1, none⟩ = some (.int .i64 r) ∧ v.cell? ⟨w.heap.size, 2, none⟩ = some (.int .i64 c) ∧ v.cell? ⟨w.heap.size, 3, none⟩ = some (.int .i64 q)) ∧ v.cell? ⟨w.heap.size + 1, 0, none⟩ = some (.int .i64 len) ∧ v.cell? ⟨w.heap.size + 1, 1, none⟩ = some (.int .i64 dep) ∧ v.cell? ⟨w.heap.size + 1, 2, none⟩ = some (.slice ro n rc)) (go_keep)
    ((go_at_call 65; refine (HM _).mono ?_; rintro e wa ⟨rfl, ha⟩; have ha2 := HT.out _ ha; obtain ⟨⟨q0, q1, q2, q3⟩, f0, f1, f2⟩ := HP.out _ ha2))
  have k1 : Hid (Below w1.heap.size w1 wa) := ha2
  clear ha ha2 p0 p1 p2 p3 d0 d1 d2
  go_wp2_with fail
  refine (CS _).mono ?_
  rintro e wb ⟨rfl, hb⟩
  have k2 : Hid (Below w1.heap.size w1 wb) := below_then k1.out hb
  clear hb q0 q1 q2 q3 f0 f1 f2
  obtain ⟨⟨p0, p1, p2, p3⟩, d0, d1, d2⟩ := HP.out _ k2.out
  go_wp2_with fail
  refine (CD _).mono ?_
  rintro e wc ⟨rfl, hc⟩
  have k3 : Hid (Below w1.heap.size w1 wc) := below_then k2.out hc
  clear hc p0 p1 p2 p3 d0 d1 d2
  obtain ⟨⟨p0, p1, p2, p3⟩, d0, d1, d2⟩ := HP.out _ k3.out
  go_wp2_with fail
  refine (CV _).mono ?_
  rintro e wd ⟨rfl, hd⟩
  have k4 : Hid (Below w1.heap.size w1 wd) := below_then k3.out hd
  clear hd p0 p1 p2 p3 d0 d1 d2
  obtain ⟨⟨p0, p1, p2, p3⟩, d0, d1, d2⟩ := HP.out _ k4.out
  go_wp2_with fail
  refine (CR _ (HR.out.below (below_then HBB.out k4.out))).mono ?_
  rintro e we ⟨rfl, he⟩
  have k5 : Hid (Below w1.heap.size w1 we) := below_then k4.out he
  clear he
  go_wp2_with fail
  go_ret
  exact ⟨rfl, below_then HBB.out k5.out⟩
set_option maxHeartbeats 4000000 in
set_option maxRecDepth 100000 in
theorem DMay_1dep {k r c q : Int} {N W : Nat} (h : Par k r c q N W 0) (w : World) (len dep : Int) (ro : Option Addr) (n rc : Nat) (hl : 0 ≤ len) (hl2 : len ≤ (mst W : Int)) {s x nn : Nat} (h' : Made k r c q len W s 1 x nn 0) (h1 : ¬ dep = 1) :
    Calls Try.prog 45 #[.agg #[.int .i64 k, .int .i64 r, .int .i64 c, .int .i64 q], .agg #[.int .i64 len, .int .i64 dep, .slice ro n rc]] w fun e w' => e = .returned (.bool (false)) ∧ Below w.heap.size w w' := by
  obtain ⟨hmy, _⟩ := h.fine
  obtain ⟨g1, g2, g3, _, _⟩ := h.good hmy
  have HM := fun w => M_good k r c q w W g1 g2 g3
  have gm := mst_le W
  generalize mst W = mm at *
  have e1 : decide (len < 0) = false := decide_eq_false (by omega)
  have e2 : decide ((mm : Int) < len) = false := decide_eq_false (by omega)
  have CS := fun v => RStripes_any h h' v
  have CD := fun v => RDepth_any h h' v
  have CV := fun v => RLeaves_any h h' v
  have e3 : (dep == (1 : Int)) = false := by simpa using h1
  clear h1
  clear h h' hmy g1 g2 g3
  obtain ⟨w0, hw0⟩ : ∃ w0, w0 = w.alloc (.cells #[.int .i64 k, .int .i64 r, .int .i64 c, .int .i64 q] 24) := ⟨_, rfl⟩
  obtain ⟨w1, hw1⟩ : ∃ w1, w1 = w0.alloc (.cells #[.int .i64 len, .int .i64 dep, .slice ro n rc] 35) := ⟨_, rfl⟩
  have b0 : Below w.heap.size w w0 := by rw [hw0]; exact below_alloc _ _
  have b1 : Below w0.heap.size w0 w1 := by rw [hw1]; exact below_alloc _ _
  have z0 : w0.heap.size = w.heap.size + 1 := by rw [hw0]; simp
  have HBB : Hid (Below w.heap.size w w1) := below_then b0 b1
  have HP : Hid (∀ u, Below w1.heap.size w1 u → (u.cell? ⟨w.heap.size, 0, none⟩ = some (.int .i64 k) ∧ u.cell? ⟨w.heap.size, 1, none⟩ = some (.int .i64 r) ∧ u.cell? ⟨w.heap.size, 2, none⟩ = some (.int .i64 c) ∧ u.cell? ⟨w.heap.size, 3, none⟩ = some (.int .i64 q)) ∧ u.cell? ⟨w.heap.size + 1, 0, none⟩ = some (.int .i64 len) ∧ u.cell? ⟨w.heap.size + 1, 1, none⟩ = some (.int .i64 dep) ∧ u.cell? ⟨w.heap.size + 1, 2, none⟩ = some (.slice ro n rc)) := fun u hu => ⟨par_held hw0 (below_then b1 hu), by rw [← z0]; exact ⟨blk_held hw1 hu 0 rfl, blk_held hw1 hu 1 rfl, blk_held hw1 hu 2 rfl⟩⟩
  obtain ⟨⟨p0, p1, p2, p3⟩, d0, d1, d2⟩ := HP.out _ (Below.refl _ _)
  go_enter Try.func45, Try.ntmps45
  go_wp2_with fail
  rw [← hw0, ← hw1]
  clear hw0 hw1 z0 b0 b1
  have HT : Hid (∀ v, Below w1.drew.heap.size w1.drew v → Below w1.heap.size w1 v) := fun v hv => of_drew hv
  go_region_held3 (fun v => (v.cell? ⟨w.heap.size, 0, none⟩ = some (.int .i64 k) ∧ v.cell? ⟨w.heap.size, 1, none⟩ = some (.int .i64 r) ∧ v.cell? ⟨w.heap.size, 2, none⟩ = some (.int .i64 c) ∧ v.cell? ⟨w.heap.size, 3, none⟩ = some (.int .i64 q)) ∧ v.cell? ⟨w.heap.size + 1, 0, none⟩ = some (.int .i64 len) ∧ v.cell? ⟨w.heap.size + 1, 1, none⟩ = some (.int .i64 dep) ∧ v.cell? ⟨w.heap.size + 1, 2, none⟩ = some (.slice ro n rc)) (go_keep)
    ((go_at_call 65; refine (HM _).mono ?_; rintro e wa ⟨rfl, ha⟩; have ha2 := HT.out _ ha; obtain ⟨⟨q0, q1, q2, q3⟩, f0, f1, f2⟩ := HP.out _ ha2))
  have k1 : Hid (Below w1.heap.size w1 wa) := ha2
  clear ha ha2 p0 p1 p2 p3 d0 d1 d2
  go_wp2_with fail
  refine (CS _).mono ?_
  rintro e wb ⟨rfl, hb⟩
  have k2 : Hid (Below w1.heap.size w1 wb) := below_then k1.out hb
  clear hb q0 q1 q2 q3 f0 f1 f2
  obtain ⟨⟨p0, p1, p2, p3⟩, d0, d1, d2⟩ := HP.out _ k2.out
  go_wp2_with fail
  refine (CD _).mono ?_
  rintro e wc ⟨rfl, hc⟩
  have k3 : Hid (Below w1.heap.size w1 wc) := below_then k2.out hc
  clear hc p0 p1 p2 p3 d0 d1 d2
  obtain ⟨⟨p0, p1, p2, p3⟩, d0, d1, d2⟩ := HP.out _ k3.out
  go_wp2_with fail
  refine (CV _).mono ?_
  rintro e wd ⟨rfl, hd⟩
  have k4 : Hid (Below w1.heap.size w1 wd) := below_then k3.out hd
  clear hd p0 p1 p2 p3 d0 d1 d2
  obtain ⟨⟨p0, p1, p2, p3⟩, d0, d1, d2⟩ := HP.out _ k4.out
  go_wp2_with fail
  go_ret
  exact ⟨rfl, below_then HBB.out k4.out⟩
set_option maxHeartbeats 4000000 in
set_option maxRecDepth 100000 in
theorem DMay_1n {k r c q : Int} {N W : Nat} (h : Par k r c q N W 0) (w : World) (len dep : Int) (ro : Option Addr) (n rc : Nat) (hl : 0 ≤ len) (hl2 : len ≤ (mst W : Int)) {s x nn : Nat} (h' : Made k r c q len W s 1 x nn 0) (h1 : dep = 1) (h2 : ¬ n = x) :
    Calls Try.prog 45 #[.agg #[.int .i64 k, .int .i64 r, .int .i64 c, .int .i64 q], .agg #[.int .i64 len, .int .i64 dep, .slice ro n rc]] w fun e w' => e = .returned (.bool (false)) ∧ Below w.heap.size w w' := by
  obtain ⟨hmy, _⟩ := h.fine
  obtain ⟨g1, g2, g3, _, _⟩ := h.good hmy
  have HM := fun w => M_good k r c q w W g1 g2 g3
  have gm := mst_le W
  generalize mst W = mm at *
  have e1 : decide (len < 0) = false := decide_eq_false (by omega)
  have e2 : decide ((mm : Int) < len) = false := decide_eq_false (by omega)
  have CS := fun v => RStripes_any h h' v
  have CD := fun v => RDepth_any h h' v
  have CV := fun v => RLeaves_any h h' v
  have e3 : (dep == (1 : Int)) = true := by simpa using h1
  have e4 : ((n : Int) == (x : Int)) = false := by have : ¬ (n : Int) = (x : Int) := (by omega); simpa using this
  clear h1 h2
  clear h h' hmy g1 g2 g3
  obtain ⟨w0, hw0⟩ : ∃ w0, w0 = w.alloc (.cells #[.int .i64 k, .int .i64 r, .int .i64 c, .int .i64 q] 24) := ⟨_, rfl⟩
  obtain ⟨w1, hw1⟩ : ∃ w1, w1 = w0.alloc (.cells #[.int .i64 len, .int .i64 dep, .slice ro n rc] 35) := ⟨_, rfl⟩
  have b0 : Below w.heap.size w w0 := by rw [hw0]; exact below_alloc _ _
  have b1 : Below w0.heap.size w0 w1 := by rw [hw1]; exact below_alloc _ _
  have z0 : w0.heap.size = w.heap.size + 1 := by rw [hw0]; simp
  have HBB : Hid (Below w.heap.size w w1) := below_then b0 b1
  have HP : Hid (∀ u, Below w1.heap.size w1 u → (u.cell? ⟨w.heap.size, 0, none⟩ = some (.int .i64 k) ∧ u.cell? ⟨w.heap.size, 1, none⟩ = some (.int .i64 r) ∧ u.cell? ⟨w.heap.size, 2, none⟩ = some (.int .i64 c) ∧ u.cell? ⟨w.heap.size, 3, none⟩ = some (.int .i64 q)) ∧ u.cell? ⟨w.heap.size + 1, 0, none⟩ = some (.int .i64 len) ∧ u.cell? ⟨w.heap.size + 1, 1, none⟩ = some (.int .i64 dep) ∧ u.cell? ⟨w.heap.size + 1, 2, none⟩ = some (.slice ro n rc)) := fun u hu => ⟨par_held hw0 (below_then b1 hu), by rw [← z0]; exact ⟨blk_held hw1 hu 0 rfl, blk_held hw1 hu 1 rfl, blk_held hw1 hu 2 rfl⟩⟩
  obtain ⟨⟨p0, p1, p2, p3⟩, d0, d1, d2⟩ := HP.out _ (Below.refl _ _)
  go_enter Try.func45, Try.ntmps45
  go_wp2_with fail
  rw [← hw0, ← hw1]
  clear hw0 hw1 z0 b0 b1
  have HT : Hid (∀ v, Below w1.drew.heap.size w1.drew v → Below w1.heap.size w1 v) := fun v hv => of_drew hv
  go_region_held3 (fun v => (v.cell? ⟨w.heap.size, 0, none⟩ = some (.int .i64 k) ∧ v.cell? ⟨w.heap.size, 1, none⟩ = some (.int .i64 r) ∧ v.cell? ⟨w.heap.size, 2, none⟩ = some (.int .i64 c) ∧ v.cell? ⟨w.heap.size, 3, none⟩ = some (.int .i64 q)) ∧ v.cell? ⟨w.heap.size + 1, 0, none⟩ = some (.int .i64 len) ∧ v.cell? ⟨w.heap.size + 1, 1, none⟩ = some (.int .i64 dep) ∧ v.cell? ⟨w.heap.size + 1, 2, none⟩ = some (.slice ro n rc)) (go_keep)
    ((go_at_call 65; refine (HM _).mono ?_; rintro e wa ⟨rfl, ha⟩; have ha2 := HT.out _ ha; obtain ⟨⟨q0, q1, q2, q3⟩, f0, f1, f2⟩ := HP.out _ ha2))
  have k1 : Hid (Below w1.heap.size w1 wa) := ha2
  clear ha ha2 p0 p1 p2 p3 d0 d1 d2
  go_wp2_with fail
  refine (CS _).mono ?_
  rintro e wb ⟨rfl, hb⟩
  have k2 : Hid (Below w1.heap.size w1 wb) := below_then k1.out hb
  clear hb q0 q1 q2 q3 f0 f1 f2
  obtain ⟨⟨p0, p1, p2, p3⟩, d0, d1, d2⟩ := HP.out _ k2.out
  go_wp2_with fail
  refine (CD _).mono ?_
  rintro e wc ⟨rfl, hc⟩
  have k3 : Hid (Below w1.heap.size w1 wc) := below_then k2.out hc
  clear hc p0 p1 p2 p3 d0 d1 d2
  obtain ⟨⟨p0, p1, p2, p3⟩, d0, d1, d2⟩ := HP.out _ k3.out
  go_wp2_with fail
  refine (CV _).mono ?_
  rintro e wd ⟨rfl, hd⟩
  have k4 : Hid (Below w1.heap.size w1 wd) := below_then k3.out hd
  clear hd p0 p1 p2 p3 d0 d1 d2
  obtain ⟨⟨p0, p1, p2, p3⟩, d0, d1, d2⟩ := HP.out _ k4.out
  go_wp2_with fail
  go_ret
  exact ⟨rfl, below_then HBB.out k4.out⟩
set_option maxHeartbeats 4000000 in
set_option maxRecDepth 100000 in
theorem DMay_1ok {k r c q : Int} {N W : Nat} (h : Par k r c q N W 0) (w : World) (len dep : Int) (ro : Option Addr) (n rc : Nat) (hl : 0 ≤ len) (hl2 : len ≤ (mst W : Int)) {s x nn : Nat} (h' : Made k r c q len W s 1 x nn 0) (h1 : dep = 1) (h2 : n = x) (R V : Nat → Int) (hR : RdR w ro n R V) (hn : n ≤ 1000) :
    Calls Try.prog 45 #[.agg #[.int .i64 k, .int .i64 r, .int .i64 c, .int .i64 q], .agg #[.int .i64 len, .int .i64 dep, .slice ro n rc]] w fun e w' => e = .returned (.bool (okL q n R V)) ∧ Below w.heap.size w w' := by
  obtain ⟨hmy, _⟩ := h.fine
  obtain ⟨g1, g2, g3, _, _⟩ := h.good hmy
  have HM := fun w => M_good k r c q w W g1 g2 g3
  have gm := mst_le W
  generalize mst W = mm at *
  have e1 : decide (len < 0) = false := decide_eq_false (by omega)
  have e2 : decide ((mm : Int) < len) = false := decide_eq_false (by omega)
  have CS := fun v => RStripes_any h h' v
  have CD := fun v => RDepth_any h h' v
  have CV := fun v => RLeaves_any h h' v
  have e3 : (dep == (1 : Int)) = true := by simpa using h1
  have e4 : ((n : Int) == (x : Int)) = true := by rw [h2]; simp
  have CR := fun v hv => refs_any k r c q v ro n rc R V hv hn
  have HR : Hid (RdR w ro n R V) := hR
  generalize okL q n R V = ok at *
  clear h1 h2 hR
  clear h h' hmy g1 g2 g3
  obtain ⟨w0, hw0⟩ : ∃ w0, w0 = w.alloc (.cells #[.int .i64 k, .int .i64 r, .int .i64 c, .int .i64 q] 24) := ⟨_, rfl⟩
  obtain ⟨w1, hw1⟩ : ∃ w1, w1 = w0.alloc (.cells #[.int .i64 len, .int .i64 dep, .slice ro n rc] 35) := ⟨_, rfl⟩
  have b0 : Below w.heap.size w w0 := by rw [hw0]; exact below_alloc _ _
  have b1 : Below w0.heap.size w0 w1 := by rw [hw1]; exact below_alloc _ _
  have z0 : w0.heap.size = w.heap.size + 1 := by rw [hw0]; simp
  have HBB : Hid (Below w.heap.size w w1) := below_then b0 b1
  have HP : Hid (∀ u, Below w1.heap.size w1 u → (u.cell? ⟨w.heap.size, 0, none⟩ = some (.int .i64 k) ∧ u.cell? ⟨w.heap.size, 1, none⟩ = some (.int .i64 r) ∧ u.cell? ⟨w.heap.size, 2, none⟩ = some (.int .i64 c) ∧ u.cell? ⟨w.heap.size, 3, none⟩ = some (.int .i64 q)) ∧ u.cell? ⟨w.heap.size + 1, 0, none⟩ = some (.int .i64 len) ∧ u.cell? ⟨w.heap.size + 1, 1, none⟩ = some (.int .i64 dep) ∧ u.cell? ⟨w.heap.size + 1, 2, none⟩ = some (.slice ro n rc)) := fun u hu => ⟨par_held hw0 (below_then b1 hu), by rw [← z0]; exact ⟨blk_held hw1 hu 0 rfl, blk_held hw1 hu 1 rfl, blk_held hw1 hu 2 rfl⟩⟩
  obtain ⟨⟨p0, p1, p2, p3⟩, d0, d1, d2⟩ := HP.out _ (Below.refl _ _)
  go_enter Try.func45, Try.ntmps45
  go_wp2_with fail
  rw [← hw0, ← hw1]
  clear hw0 hw1 z0 b0 b1
  have HT : Hid (∀ v, Below w1.drew.heap.size w1.drew v → Below w1.heap.size w1 v) := fun v hv => of_drew hv
  go_region_held3 (fun v => (v.cell? ⟨w.heap.size, 0, none⟩ = some (.int .i64 k) ∧ v.cell? ⟨w.heap.size, 1, none⟩ = some (.int .i64 r) ∧ v.cell? ⟨w.heap.size, 2, none⟩ = some (.int .i64 c) ∧ v.cell? ⟨w.heap.size, 3, none⟩ = some (.int .i64 q)) ∧ v.cell? ⟨w.heap.size + 1, 0, none⟩ = some (.int .i64 len) ∧ v.cell? ⟨w.heap.size + 1, 1, none⟩ = some (.int .i64 dep) ∧ v.cell? ⟨w.heap.size + 1, 2, none⟩ = some (.slice ro n rc)) (go_keep)
    ((go_at_call 65; refine (HM _).mono ?_; rintro e wa ⟨rfl, ha⟩; have ha2 := HT.out _ ha; obtain ⟨⟨q0, q1, q2, q3⟩, f0, f1, f2⟩ := HP.out _ ha2))
  have k1 : Hid (Below w1.heap.size w1 wa) := ha2
  clear ha ha2 p0 p1 p2 p3 d0 d1 d2
  go_wp2_with fail
  refine (CS _).mono ?_
  rintro e wb ⟨rfl, hb⟩
  have k2 : Hid (Below w1.heap.size w1 wb) := below_then k1.out hb
  clear hb q0 q1 q2 q3 f0 f1 f2
  obtain ⟨⟨p0, p1, p2, p3⟩, d0, d1, d2⟩ := HP.out _ k2.out
  go_wp2_with fail
  refine (CD _).mono ?_
  rintro e wc ⟨rfl, hc⟩
  have k3 : Hid (Below w1.heap.size w1 wc) := below_then k2.out hc
  clear hc p0 p1 p2 p3 d0 d1 d2
  obtain ⟨⟨p0, p1, p2, p3⟩, d0, d1, d2⟩ := HP.out _ k3.out
  go_wp2_with fail
  refine (CV _).mono ?_
  rintro e wd ⟨rfl, hd⟩
  have k4 : Hid (Below w1.heap.size w1 wd) := below_then k3.out hd
  clear hd p0 p1 p2 p3 d0 d1 d2
  obtain ⟨⟨p0, p1, p2, p3⟩, d0, d1, d2⟩ := HP.out _ k4.out
  go_wp2_with fail
  refine (CR _ (HR.out.below (below_then HBB.out k4.out))).mono ?_
  rintro e we ⟨rfl, he⟩
  have k5 : Hid (Below w1.heap.size w1 we) := below_then k4.out he
  clear he
  go_wp2_with fail
  go_ret
  exact ⟨rfl, below_then HBB.out k5.out⟩
theorem DMay_any {k r c q : Int} {N W : Nat} (h : Par k r c q N W 0) (w : World) (len dep : Int) (ro : Option Addr) (n rc : Nat) (R V : Nat → Int) (hR : RdR w ro n R V) :
    Calls Try.prog 45 #[.agg #[.int .i64 k, .int .i64 r, .int .i64 c, .int .i64 q], .agg #[.int .i64 len, .int .i64 dep, .slice ro n rc]] w fun e w' => e = .returned (.bool (okD W q len dep n R V)) ∧ Below w.heap.size w w' := by
  obtain ⟨hmy, hW, hW2, _⟩ := h.fine
  by_cases hl : len < 0
  · rw [show okD W q len dep n R V = false from decide_eq_false fun h => by have := h.1; omega]
    exact DMay_neg w len dep ro n rc hl
  · by_cases hl2 : (mst W : Int) < len
    · rw [show okD W q len dep n R V = false from decide_eq_false fun h => by have := h.2.1; omega]
      exact DMay_big h w len dep ro n rc (by omega) hl2
    · obtain ⟨s, d, x, nn, er, h'⟩ := made_any k r c q len W
      have hf := cns_few h h'
      have hdl := dir_le hW2
      rw [okD_made h h']
      have he : er = 0 := by
        rcases h' with ⟨_, _, _, _, _, _, _, h3⟩ | ⟨h1, _⟩ | ⟨_, _, h1, _⟩
        · exact h3
        · rcases h1 with h1 | h1
          · rw [hmy] at h1; cases h1
          · omega
        · omega
      subst he
      rcases h'.zero with ⟨_, hd⟩ | ⟨hd, _⟩
      · rcases (show d = 0 ∨ d = 1 by omega) with rfl | rfl
        · by_cases h1 : dep = 0
          · by_cases h2 : n = s
            · rw [decide_eq_true (show (0 : Int) = 0 ∧ dep = ((0 : Nat) : Int) ∧ (n : Int) = ((cns 0 s x : Nat) : Int) from ⟨rfl, h1, by rw [h2]; rfl⟩), Bool.true_and]
              exact DMay_0ok h w len dep ro n rc (by omega) (by omega) h' h1 h2 R V hR (by have : cns 0 s x = s := rfl; omega)
            · rw [decide_eq_false (fun h => h2 (by have h3 := h.2.2; have : cns 0 s x = s := rfl; omega)), Bool.false_and]
              exact DMay_0n h w len dep ro n rc (by omega) (by omega) h' h1 h2
          · rw [decide_eq_false (fun h => h1 h.2.1), Bool.false_and]
            exact DMay_0dep h w len dep ro n rc (by omega) (by omega) h' h1
        · by_cases h1 : dep = 1
          · by_cases h2 : n = x
            · rw [decide_eq_true (show (0 : Int) = 0 ∧ dep = ((1 : Nat) : Int) ∧ (n : Int) = ((cns 1 s x : Nat) : Int) from ⟨rfl, h1, by rw [h2]; rfl⟩), Bool.true_and]
              exact DMay_1ok h w len dep ro n rc (by omega) (by omega) h' h1 h2 R V hR (by have : cns 1 s x = x := rfl; omega)
            · rw [decide_eq_false (fun h => h2 (by have h3 := h.2.2; have : cns 1 s x = x := rfl; omega)), Bool.false_and]
              exact DMay_1n h w len dep ro n rc (by omega) (by omega) h' h1 h2
          · rw [decide_eq_false (fun h => h1 h.2.1), Bool.false_and]
            exact DMay_1dep h w len dep ro n rc (by omega) (by omega) h' h1
      · exact absurd rfl hd
end Go.Proofs.Ytjncnojplkljnaa
