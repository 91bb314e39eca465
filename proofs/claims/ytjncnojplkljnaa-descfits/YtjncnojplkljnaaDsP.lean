/- DescFits: a descriptor is taken just if it has the depth and the number of refs that its length needs. -/
import Derived.Test.YtjncnojplkljnaaDsO
namespace Go.Proofs.Ytjncnojplkljnaa
open Go.RowKit

theorem okL_step (q : Int) (i : Nat) (R V : Nat → Int) : okL q (i + 1) R V = (okL q i R V && okR q (R i) (V i)) := by
  unfold okL
  rw [show okR q (R i) (V i) = decide (okR q (R i) (V i) = true) by simp, ← Bool.decide_and]
  apply decide_eq_decide.2
  constructor
  · intro h; exact ⟨fun t ht => h t (by omega), by simpa using h i (by omega)⟩
  · rintro ⟨h1, h2⟩ t ht
    by_cases e : t = i
    · subst e; simpa using h2
    · exact h1 t (by omega)
theorem okL_none (q : Int) (R V : Nat → Int) : okL q 0 R V = true := decide_eq_true fun _ h => absurd h (Nat.not_lt_zero _)
set_option maxHeartbeats 8000000 in
set_option maxRecDepth 100000 in
theorem fits_long (k r c q : Int) (w : World) (len dep : Int) (ro : Option Addr) (n rc : Nat) (hn : 500 < n) :
    Calls Try.prog 8 #[.agg #[.int .i64 k, .int .i64 r, .int .i64 c, .int .i64 q], .agg #[.int .i64 len, .int .i64 dep, .slice ro n rc]] w fun e w' => e = .returned (.bool true) ∧ Below w.heap.size w w' := by
  obtain ⟨w0, hw0⟩ : ∃ w0, w0 = w.alloc (.cells #[.int .i64 k, .int .i64 r, .int .i64 c, .int .i64 q] 24) := ⟨_, rfl⟩
  obtain ⟨w1, hw1⟩ : ∃ w1, w1 = w0.alloc (.cells #[.int .i64 len, .int .i64 dep, .slice ro n rc] 35) := ⟨_, rfl⟩
  have b0 : Below w.heap.size w w0 := by rw [hw0]; exact below_alloc _ _
  have b1 : Below w0.heap.size w0 w1 := by rw [hw1]; exact below_alloc _ _
  have z0 : w0.heap.size = w.heap.size + 1 := by rw [hw0]; simp
  go_enter Try.func8, Try.ntmps8
  go_wp2_with fail
  rw [← hw0, ← hw1]
  refine (alive_any _).mono ?_
  rintro e wa ⟨rfl, ha⟩
  have d2 := blk_held hw1 ha 2 rfl
  rw [z0] at d2
  clear hw0 hw1
  go_wp2_with fail
  go_ret
  exact ⟨rfl, below_then (below_then b0 b1) ha⟩
set_option maxHeartbeats 8000000 in
set_option maxRecDepth 100000 in
theorem fits_bad {k r c q : Int} {N W : Nat} (h : Par k r c q N W 2) (w : World) (len dep : Int) (ro : Option Addr) (n rc : Nat) (R V : Nat → Int) (hR : RdR w ro n R V) (hn : n ≤ 500) :
    Calls Try.prog 8 #[.agg #[.int .i64 k, .int .i64 r, .int .i64 c, .int .i64 q], .agg #[.int .i64 len, .int .i64 dep, .slice ro n rc]] w fun e w' => e = .returned (.bool true) ∧ Below w.heap.size w w' := by
  have CC := fun v hv => DCheck_any h v len dep ro n rc R V hv
  rw [show erD 2 W q len dep n R V = 2 from rfl] at CC
  have CL := fun v => Check_any k r c q v
  rw [h.erP] at CL
  have HR : Hid (RdR w ro n R V) := hR
  clear h hR
  obtain ⟨w0, hw0⟩ : ∃ w0, w0 = w.alloc (.cells #[.int .i64 k, .int .i64 r, .int .i64 c, .int .i64 q] 24) := ⟨_, rfl⟩
  obtain ⟨w1, hw1⟩ : ∃ w1, w1 = w0.alloc (.cells #[.int .i64 len, .int .i64 dep, .slice ro n rc] 35) := ⟨_, rfl⟩
  have b0 : Below w.heap.size w w0 := by rw [hw0]; exact below_alloc _ _
  have b1 : Below w0.heap.size w0 w1 := by rw [hw1]; exact below_alloc _ _
  have z0 : w0.heap.size = w.heap.size + 1 := by rw [hw0]; simp
  have HBB : Hid (Below w.heap.size w w1) := below_then b0 b1
  have HP : Hid (∀ u, Below w1.heap.size w1 u → (u.cell? ⟨w.heap.size, 0, none⟩ = some (.int .i64 k) ∧ u.cell? ⟨w.heap.size, 1, none⟩ = some (.int .i64 r) ∧ u.cell? ⟨w.heap.size, 2, none⟩ = some (.int .i64 c) ∧ u.cell? ⟨w.heap.size, 3, none⟩ = some (.int .i64 q)) ∧ u.cell? ⟨w.heap.size + 1, 0, none⟩ = some (.int .i64 len) ∧ u.cell? ⟨w.heap.size + 1, 1, none⟩ = some (.int .i64 dep) ∧ u.cell? ⟨w.heap.size + 1, 2, none⟩ = some (.slice ro n rc)) := fun u hu => ⟨par_held hw0 (below_then b1 hu), by rw [← z0]; exact ⟨blk_held hw1 hu 0 rfl, blk_held hw1 hu 1 rfl, blk_held hw1 hu 2 rfl⟩⟩
  go_enter Try.func8, Try.ntmps8
  go_wp2_with fail
  rw [← hw0, ← hw1]
  clear hw0 hw1 z0 b0 b1
  refine (alive_any _).mono ?_
  rintro e wa ⟨rfl, ha⟩
  obtain ⟨⟨p0, p1, p2, p3⟩, d0, d1, d2⟩ := HP.out _ ha
  go_wp2_with fail
  refine (CC _ (HR.out.below (below_then HBB.out ha))).mono ?_
  rintro e wb ⟨rfl, hb⟩
  have k2 := below_then ha hb
  clear p0 p1 p2 p3 d0 d1 d2
  obtain ⟨⟨p0, p1, p2, p3⟩, d0, d1, d2⟩ := HP.out _ k2
  go_wp2_with fail
  refine (CL _).mono ?_
  rintro e wc ⟨rfl, hc⟩
  go_wp2_with fail
  go_ret
  exact ⟨rfl, below_then (below_then HBB.out k2) hc⟩
set_option maxHeartbeats 8000000 in
set_option maxRecDepth 100000 in
theorem fits_er {k r c q : Int} {N W : Nat} (h : Par k r c q N W 0) (w : World) (len dep : Int) (ro : Option Addr) (n rc : Nat) (R V : Nat → Int) (hR : RdR w ro n R V) (hn : n ≤ 500) {s d x nn : Nat} {er : Int} (h' : Made k r c q len W s d x nn er) (he : er ≠ 0) :
    Calls Try.prog 8 #[.agg #[.int .i64 k, .int .i64 r, .int .i64 c, .int .i64 q], .agg #[.int .i64 len, .int .i64 dep, .slice ro n rc]] w fun e w' => e = .returned (.bool true) ∧ Below w.heap.size w w' := by
  obtain ⟨E, hE⟩ : ∃ E, E = erD 0 W q len dep n R V := ⟨_, rfl⟩
  have HE : Hid (E = if (false && okL q n R V) = true then 0 else 150) := by
    show _ = _
    rw [hE]
    show (if okD W q len dep n R V = true then (0 : Int) else 150) = _
    rw [okD_made h h', decide_eq_false (fun h => he h.1)]
  have CC := fun v hv => DCheck_any h v len dep ro n rc R V hv
  rw [← hE] at CC
  have CL := fun v => Check_any k r c q v
  rw [h.erP] at CL
  have CD := fun v => Depth_any h h' v
  have CS := fun v => Stripes_any h h' v
  have CV := fun v => Leaves_any h h' v
  have hz := h'.zero
  have HR : Hid (RdR w ro n R V) := hR
  clear h h' hR hE
  obtain ⟨w0, hw0⟩ : ∃ w0, w0 = w.alloc (.cells #[.int .i64 k, .int .i64 r, .int .i64 c, .int .i64 q] 24) := ⟨_, rfl⟩
  obtain ⟨w1, hw1⟩ : ∃ w1, w1 = w0.alloc (.cells #[.int .i64 len, .int .i64 dep, .slice ro n rc] 35) := ⟨_, rfl⟩
  have b0 : Below w.heap.size w w0 := by rw [hw0]; exact below_alloc _ _
  have b1 : Below w0.heap.size w0 w1 := by rw [hw1]; exact below_alloc _ _
  have z0 : w0.heap.size = w.heap.size + 1 := by rw [hw0]; simp
  have HBB : Hid (Below w.heap.size w w1) := below_then b0 b1
  have HP : Hid (∀ u, Below w1.heap.size w1 u → (u.cell? ⟨w.heap.size, 0, none⟩ = some (.int .i64 k) ∧ u.cell? ⟨w.heap.size, 1, none⟩ = some (.int .i64 r) ∧ u.cell? ⟨w.heap.size, 2, none⟩ = some (.int .i64 c) ∧ u.cell? ⟨w.heap.size, 3, none⟩ = some (.int .i64 q)) ∧ u.cell? ⟨w.heap.size + 1, 0, none⟩ = some (.int .i64 len) ∧ u.cell? ⟨w.heap.size + 1, 1, none⟩ = some (.int .i64 dep) ∧ u.cell? ⟨w.heap.size + 1, 2, none⟩ = some (.slice ro n rc)) := fun u hu => ⟨par_held hw0 (below_then b1 hu), by rw [← z0]; exact ⟨blk_held hw1 hu 0 rfl, blk_held hw1 hu 1 rfl, blk_held hw1 hu 2 rfl⟩⟩
  have he2 : (er == 0) = false := by simpa using he
  rcases hz with ⟨hz, _⟩ | ⟨_, rfl, rfl, rfl⟩
  · exact absurd hz he
  clear he
  go_enter Try.func8, Try.ntmps8
  go_wp2_with fail
  rw [← hw0, ← hw1]
  clear hw0 hw1 z0 b0 b1
  refine (alive_any _).mono ?_
  rintro e wa ⟨rfl, ha⟩
  obtain ⟨⟨p0, p1, p2, p3⟩, d0, d1, d2⟩ := HP.out _ ha
  go_wp2_with fail
  refine (CC _ (HR.out.below (below_then HBB.out ha))).mono ?_
  rintro e wb ⟨rfl, hb⟩
  have k2 := below_then ha hb
  clear p0 p1 p2 p3 d0 d1 d2
  obtain ⟨⟨p0, p1, p2, p3⟩, d0, d1, d2⟩ := HP.out _ k2
  go_wp2_with fail
  refine (CL _).mono ?_
  rintro e wc ⟨rfl, hc⟩
  have k3 := below_then k2 hc
  clear p0 p1 p2 p3 d0 d1 d2
  obtain ⟨⟨p0, p1, p2, p3⟩, d0, d1, d2⟩ := HP.out _ k3
  go_wp2_with fail
  refine (CD _).mono ?_
  rintro e wd ⟨rfl, hd⟩
  have k4 := below_then k3 hd
  clear p0 p1 p2 p3 d0 d1 d2
  obtain ⟨⟨p0, p1, p2, p3⟩, d0, d1, d2⟩ := HP.out _ k4
  go_wp2_with fail
  refine (CS _).mono ?_
  rintro e we ⟨rfl, he⟩
  have k5 := below_then k4 he
  clear p0 p1 p2 p3 d0 d1 d2
  obtain ⟨⟨p0, p1, p2, p3⟩, d0, d1, d2⟩ := HP.out _ k5
  have HK : Hid (Below w1.heap.size w1 we) := k5
  clear k2 k3 k4 k5 ha hb hc hd he p0 p1 p2 p3 d0 d1 d2
  obtain ⟨⟨p0, p1, p2, p3⟩, d0, d1, d2⟩ := HP.out _ HK.out
  go_wp2_with fail
  clear p0 p1 p2 p3 d0 d1 d2
  have HF : Hid (E = 150) := HE.out
  go_loopw [11, 12] (fun y x wr => ∃ i : Nat, i ≤ n ∧ x = .int .i64 (i : Int) ∧ y = .bool false ∧ Hid (Below w1.heap.size w1 wr)) (fun _ x _ => n - (intOf x).toNat)
  case atStart => exact ⟨0, Nat.zero_le _, rfl, rfl, HK⟩
  case round =>
    obtain ⟨i, hi, rfl, rfl, hbel⟩ := hrel
    obtain ⟨⟨p0, p1, p2, p3⟩, d0, d1, d2⟩ := HP.out _ hbel.out
    have HBD : Hid (∀ nq, Below w1.heap.size w1 (wr.drewN nq)) := fun nq => below_step hbel.out (below_drewN _ _ _) hbel.out.size
    by_cases hlt : i < n
    · have i1 : (0 : Int) ≤ (i : Int) := by omega
      have i2 : (i : Int) < (n : Int) := by omega
      go_wp2_with fail
      go_big_quiet (fail)
      go_wp2_with fail
      exact ⟨⟨i + 1, by omega, by go_num, rfl, HBD.out _⟩, by simp [intOf]; omega⟩
    · rw [HF.out]
      go_wp2_with fail
      go_ret
      exact ⟨rfl, below_then HBB.out hbel.out⟩
set_option maxHeartbeats 8000000 in
set_option maxRecDepth 100000 in
theorem fits_d0_dep {k r c q : Int} {N W : Nat} (h : Par k r c q N W 0) (w : World) (len dep : Int) (ro : Option Addr) (n rc : Nat) (R V : Nat → Int) (hR : RdR w ro n R V) (hn : n ≤ 500) {s d x nn : Nat} {er : Int} (h' : Made k r c q len W s d x nn er) (he : er = 0) (hd : d = 0) (h1 : ¬ dep = 0) :
    Calls Try.prog 8 #[.agg #[.int .i64 k, .int .i64 r, .int .i64 c, .int .i64 q], .agg #[.int .i64 len, .int .i64 dep, .slice ro n rc]] w fun e w' => e = .returned (.bool true) ∧ Below w.heap.size w w' := by
  obtain ⟨E, hE⟩ : ∃ E, E = erD 0 W q len dep n R V := ⟨_, rfl⟩
  have HE : Hid (E = if (false && okL q n R V) = true then 0 else 150) := by
    show _ = _
    rw [hE]
    show (if okD W q len dep n R V = true then (0 : Int) else 150) = _
    rw [okD_made h h', decide_eq_false (fun h => h1 (by rw [h.2.1, hd]; rfl))]
  have CC := fun v hv => DCheck_any h v len dep ro n rc R V hv
  rw [← hE] at CC
  have CL := fun v => Check_any k r c q v
  rw [h.erP] at CL
  have CD := fun v => Depth_any h h' v
  have CS := fun v => Stripes_any h h' v
  have CV := fun v => Leaves_any h h' v
  have hz := h'.zero
  have HR : Hid (RdR w ro n R V) := hR
  clear h h' hR hE
  obtain ⟨w0, hw0⟩ : ∃ w0, w0 = w.alloc (.cells #[.int .i64 k, .int .i64 r, .int .i64 c, .int .i64 q] 24) := ⟨_, rfl⟩
  obtain ⟨w1, hw1⟩ : ∃ w1, w1 = w0.alloc (.cells #[.int .i64 len, .int .i64 dep, .slice ro n rc] 35) := ⟨_, rfl⟩
  have b0 : Below w.heap.size w w0 := by rw [hw0]; exact below_alloc _ _
  have b1 : Below w0.heap.size w0 w1 := by rw [hw1]; exact below_alloc _ _
  have z0 : w0.heap.size = w.heap.size + 1 := by rw [hw0]; simp
  have HBB : Hid (Below w.heap.size w w1) := below_then b0 b1
  have HP : Hid (∀ u, Below w1.heap.size w1 u → (u.cell? ⟨w.heap.size, 0, none⟩ = some (.int .i64 k) ∧ u.cell? ⟨w.heap.size, 1, none⟩ = some (.int .i64 r) ∧ u.cell? ⟨w.heap.size, 2, none⟩ = some (.int .i64 c) ∧ u.cell? ⟨w.heap.size, 3, none⟩ = some (.int .i64 q)) ∧ u.cell? ⟨w.heap.size + 1, 0, none⟩ = some (.int .i64 len) ∧ u.cell? ⟨w.heap.size + 1, 1, none⟩ = some (.int .i64 dep) ∧ u.cell? ⟨w.heap.size + 1, 2, none⟩ = some (.slice ro n rc)) := fun u hu => ⟨par_held hw0 (below_then b1 hu), by rw [← z0]; exact ⟨blk_held hw1 hu 0 rfl, blk_held hw1 hu 1 rfl, blk_held hw1 hu 2 rfl⟩⟩
  subst he
  subst hd
  clear hz
  have e1 : ((0 : Int) == dep) = false := by simpa using fun e => h1 e.symm
  clear h1
  go_enter Try.func8, Try.ntmps8
  go_wp2_with fail
  rw [← hw0, ← hw1]
  clear hw0 hw1 z0 b0 b1
  refine (alive_any _).mono ?_
  rintro e wa ⟨rfl, ha⟩
  obtain ⟨⟨p0, p1, p2, p3⟩, d0, d1, d2⟩ := HP.out _ ha
  go_wp2_with fail
  refine (CC _ (HR.out.below (below_then HBB.out ha))).mono ?_
  rintro e wb ⟨rfl, hb⟩
  have k2 := below_then ha hb
  clear p0 p1 p2 p3 d0 d1 d2
  obtain ⟨⟨p0, p1, p2, p3⟩, d0, d1, d2⟩ := HP.out _ k2
  go_wp2_with fail
  refine (CL _).mono ?_
  rintro e wc ⟨rfl, hc⟩
  have k3 := below_then k2 hc
  clear p0 p1 p2 p3 d0 d1 d2
  obtain ⟨⟨p0, p1, p2, p3⟩, d0, d1, d2⟩ := HP.out _ k3
  go_wp2_with fail
  refine (CD _).mono ?_
  rintro e wd ⟨rfl, hd⟩
  have k4 := below_then k3 hd
  clear p0 p1 p2 p3 d0 d1 d2
  obtain ⟨⟨p0, p1, p2, p3⟩, d0, d1, d2⟩ := HP.out _ k4
  go_wp2_with fail
  refine (CS _).mono ?_
  rintro e we ⟨rfl, he⟩
  have k5 := below_then k4 he
  clear p0 p1 p2 p3 d0 d1 d2
  obtain ⟨⟨p0, p1, p2, p3⟩, d0, d1, d2⟩ := HP.out _ k5
  have HK : Hid (Below w1.heap.size w1 we) := k5
  clear k2 k3 k4 k5 ha hb hc hd he p0 p1 p2 p3 d0 d1 d2
  obtain ⟨⟨p0, p1, p2, p3⟩, d0, d1, d2⟩ := HP.out _ HK.out
  go_wp2_with fail
  clear p0 p1 p2 p3 d0 d1 d2
  have HF : Hid (E = 150) := HE.out
  go_loopw [11, 12] (fun y x wr => ∃ i : Nat, i ≤ n ∧ x = .int .i64 (i : Int) ∧ y = .bool false ∧ Hid (Below w1.heap.size w1 wr)) (fun _ x _ => n - (intOf x).toNat)
  case atStart => exact ⟨0, Nat.zero_le _, rfl, rfl, HK⟩
  case round =>
    obtain ⟨i, hi, rfl, rfl, hbel⟩ := hrel
    obtain ⟨⟨p0, p1, p2, p3⟩, d0, d1, d2⟩ := HP.out _ hbel.out
    have HBD : Hid (∀ nq, Below w1.heap.size w1 (wr.drewN nq)) := fun nq => below_step hbel.out (below_drewN _ _ _) hbel.out.size
    by_cases hlt : i < n
    · have i1 : (0 : Int) ≤ (i : Int) := by omega
      have i2 : (i : Int) < (n : Int) := by omega
      go_wp2_with fail
      go_big_quiet (fail)
      go_wp2_with fail
      exact ⟨⟨i + 1, by omega, by go_num, rfl, HBD.out _⟩, by simp [intOf]; omega⟩
    · rw [HF.out]
      go_wp2_with fail
      go_ret
      exact ⟨rfl, below_then HBB.out hbel.out⟩
set_option maxHeartbeats 8000000 in
set_option maxRecDepth 100000 in
theorem fits_d0_n {k r c q : Int} {N W : Nat} (h : Par k r c q N W 0) (w : World) (len dep : Int) (ro : Option Addr) (n rc : Nat) (R V : Nat → Int) (hR : RdR w ro n R V) (hn : n ≤ 500) {s d x nn : Nat} {er : Int} (h' : Made k r c q len W s d x nn er) (he : er = 0) (hd : d = 0) (h1 : dep = 0) (h2 : ¬ n = s) :
    Calls Try.prog 8 #[.agg #[.int .i64 k, .int .i64 r, .int .i64 c, .int .i64 q], .agg #[.int .i64 len, .int .i64 dep, .slice ro n rc]] w fun e w' => e = .returned (.bool true) ∧ Below w.heap.size w w' := by
  obtain ⟨E, hE⟩ : ∃ E, E = erD 0 W q len dep n R V := ⟨_, rfl⟩
  have HE : Hid (E = if (false && okL q n R V) = true then 0 else 150) := by
    show _ = _
    rw [hE]
    show (if okD W q len dep n R V = true then (0 : Int) else 150) = _
    rw [okD_made h h', decide_eq_false (fun h => h2 (by have := h.2.2; rw [hd] at this; unfold cns at this; simp at this; omega))]
  have CC := fun v hv => DCheck_any h v len dep ro n rc R V hv
  rw [← hE] at CC
  have CL := fun v => Check_any k r c q v
  rw [h.erP] at CL
  have CD := fun v => Depth_any h h' v
  have CS := fun v => Stripes_any h h' v
  have CV := fun v => Leaves_any h h' v
  have hz := h'.zero
  have HR : Hid (RdR w ro n R V) := hR
  clear h h' hR hE
  obtain ⟨w0, hw0⟩ : ∃ w0, w0 = w.alloc (.cells #[.int .i64 k, .int .i64 r, .int .i64 c, .int .i64 q] 24) := ⟨_, rfl⟩
  obtain ⟨w1, hw1⟩ : ∃ w1, w1 = w0.alloc (.cells #[.int .i64 len, .int .i64 dep, .slice ro n rc] 35) := ⟨_, rfl⟩
  have b0 : Below w.heap.size w w0 := by rw [hw0]; exact below_alloc _ _
  have b1 : Below w0.heap.size w0 w1 := by rw [hw1]; exact below_alloc _ _
  have z0 : w0.heap.size = w.heap.size + 1 := by rw [hw0]; simp
  have HBB : Hid (Below w.heap.size w w1) := below_then b0 b1
  have HP : Hid (∀ u, Below w1.heap.size w1 u → (u.cell? ⟨w.heap.size, 0, none⟩ = some (.int .i64 k) ∧ u.cell? ⟨w.heap.size, 1, none⟩ = some (.int .i64 r) ∧ u.cell? ⟨w.heap.size, 2, none⟩ = some (.int .i64 c) ∧ u.cell? ⟨w.heap.size, 3, none⟩ = some (.int .i64 q)) ∧ u.cell? ⟨w.heap.size + 1, 0, none⟩ = some (.int .i64 len) ∧ u.cell? ⟨w.heap.size + 1, 1, none⟩ = some (.int .i64 dep) ∧ u.cell? ⟨w.heap.size + 1, 2, none⟩ = some (.slice ro n rc)) := fun u hu => ⟨par_held hw0 (below_then b1 hu), by rw [← z0]; exact ⟨blk_held hw1 hu 0 rfl, blk_held hw1 hu 1 rfl, blk_held hw1 hu 2 rfl⟩⟩
  subst he
  subst hd
  clear hz
  have e1 : ((0 : Int) == dep) = true := by rw [h1]; rfl
  have e2 : ((s : Int) == (n : Int)) = false := by have : ¬ (s : Int) = (n : Int) := (by omega); simpa using this
  clear h1 h2
  go_enter Try.func8, Try.ntmps8
  go_wp2_with fail
  rw [← hw0, ← hw1]
  clear hw0 hw1 z0 b0 b1
  refine (alive_any _).mono ?_
  rintro e wa ⟨rfl, ha⟩
  obtain ⟨⟨p0, p1, p2, p3⟩, d0, d1, d2⟩ := HP.out _ ha
  go_wp2_with fail
  refine (CC _ (HR.out.below (below_then HBB.out ha))).mono ?_
  rintro e wb ⟨rfl, hb⟩
  have k2 := below_then ha hb
  clear p0 p1 p2 p3 d0 d1 d2
  obtain ⟨⟨p0, p1, p2, p3⟩, d0, d1, d2⟩ := HP.out _ k2
  go_wp2_with fail
  refine (CL _).mono ?_
  rintro e wc ⟨rfl, hc⟩
  have k3 := below_then k2 hc
  clear p0 p1 p2 p3 d0 d1 d2
  obtain ⟨⟨p0, p1, p2, p3⟩, d0, d1, d2⟩ := HP.out _ k3
  go_wp2_with fail
  refine (CD _).mono ?_
  rintro e wd ⟨rfl, hd⟩
  have k4 := below_then k3 hd
  clear p0 p1 p2 p3 d0 d1 d2
  obtain ⟨⟨p0, p1, p2, p3⟩, d0, d1, d2⟩ := HP.out _ k4
  go_wp2_with fail
  refine (CS _).mono ?_
  rintro e we ⟨rfl, he⟩
  have k5 := below_then k4 he
  clear p0 p1 p2 p3 d0 d1 d2
  obtain ⟨⟨p0, p1, p2, p3⟩, d0, d1, d2⟩ := HP.out _ k5
  have HK : Hid (Below w1.heap.size w1 we) := k5
  clear k2 k3 k4 k5 ha hb hc hd he p0 p1 p2 p3 d0 d1 d2
  obtain ⟨⟨p0, p1, p2, p3⟩, d0, d1, d2⟩ := HP.out _ HK.out
  go_wp2_with fail
  clear p0 p1 p2 p3 d0 d1 d2
  have HF : Hid (E = 150) := HE.out
  go_loopw [11, 12] (fun y x wr => ∃ i : Nat, i ≤ n ∧ x = .int .i64 (i : Int) ∧ y = .bool false ∧ Hid (Below w1.heap.size w1 wr)) (fun _ x _ => n - (intOf x).toNat)
  case atStart => exact ⟨0, Nat.zero_le _, rfl, rfl, HK⟩
  case round =>
    obtain ⟨i, hi, rfl, rfl, hbel⟩ := hrel
    obtain ⟨⟨p0, p1, p2, p3⟩, d0, d1, d2⟩ := HP.out _ hbel.out
    have HBD : Hid (∀ nq, Below w1.heap.size w1 (wr.drewN nq)) := fun nq => below_step hbel.out (below_drewN _ _ _) hbel.out.size
    by_cases hlt : i < n
    · have i1 : (0 : Int) ≤ (i : Int) := by omega
      have i2 : (i : Int) < (n : Int) := by omega
      go_wp2_with fail
      go_big_quiet (fail)
      go_wp2_with fail
      exact ⟨⟨i + 1, by omega, by go_num, rfl, HBD.out _⟩, by simp [intOf]; omega⟩
    · rw [HF.out]
      go_wp2_with fail
      go_ret
      exact ⟨rfl, below_then HBB.out hbel.out⟩
set_option maxHeartbeats 8000000 in
set_option maxRecDepth 100000 in
theorem fits_d0_ok {k r c q : Int} {N W : Nat} (h : Par k r c q N W 0) (w : World) (len dep : Int) (ro : Option Addr) (n rc : Nat) (R V : Nat → Int) (hR : RdR w ro n R V) (hn : n ≤ 500) {s d x nn : Nat} {er : Int} (h' : Made k r c q len W s d x nn er) (he : er = 0) (hd : d = 0) (h1 : dep = 0) (h2 : n = s) :
    Calls Try.prog 8 #[.agg #[.int .i64 k, .int .i64 r, .int .i64 c, .int .i64 q], .agg #[.int .i64 len, .int .i64 dep, .slice ro n rc]] w fun e w' => e = .returned (.bool true) ∧ Below w.heap.size w w' := by
  obtain ⟨E, hE⟩ : ∃ E, E = erD 0 W q len dep n R V := ⟨_, rfl⟩
  have HE : Hid (E = if (true && okL q n R V) = true then 0 else 150) := by
    show _ = _
    rw [hE]
    show (if okD W q len dep n R V = true then (0 : Int) else 150) = _
    rw [okD_made h h', decide_eq_true (show er = 0 ∧ dep = (d : Int) ∧ (n : Int) = ((cns d s x : Nat) : Int) from ⟨he, by rw [h1, hd]; rfl, by rw [hd, h2]; rfl⟩)]
  have CC := fun v hv => DCheck_any h v len dep ro n rc R V hv
  rw [← hE] at CC
  have CL := fun v => Check_any k r c q v
  rw [h.erP] at CL
  have CD := fun v => Depth_any h h' v
  have CS := fun v => Stripes_any h h' v
  have CV := fun v => Leaves_any h h' v
  have hz := h'.zero
  have HR : Hid (RdR w ro n R V) := hR
  clear h h' hR hE
  obtain ⟨w0, hw0⟩ : ∃ w0, w0 = w.alloc (.cells #[.int .i64 k, .int .i64 r, .int .i64 c, .int .i64 q] 24) := ⟨_, rfl⟩
  obtain ⟨w1, hw1⟩ : ∃ w1, w1 = w0.alloc (.cells #[.int .i64 len, .int .i64 dep, .slice ro n rc] 35) := ⟨_, rfl⟩
  have b0 : Below w.heap.size w w0 := by rw [hw0]; exact below_alloc _ _
  have b1 : Below w0.heap.size w0 w1 := by rw [hw1]; exact below_alloc _ _
  have z0 : w0.heap.size = w.heap.size + 1 := by rw [hw0]; simp
  have HBB : Hid (Below w.heap.size w w1) := below_then b0 b1
  have HP : Hid (∀ u, Below w1.heap.size w1 u → (u.cell? ⟨w.heap.size, 0, none⟩ = some (.int .i64 k) ∧ u.cell? ⟨w.heap.size, 1, none⟩ = some (.int .i64 r) ∧ u.cell? ⟨w.heap.size, 2, none⟩ = some (.int .i64 c) ∧ u.cell? ⟨w.heap.size, 3, none⟩ = some (.int .i64 q)) ∧ u.cell? ⟨w.heap.size + 1, 0, none⟩ = some (.int .i64 len) ∧ u.cell? ⟨w.heap.size + 1, 1, none⟩ = some (.int .i64 dep) ∧ u.cell? ⟨w.heap.size + 1, 2, none⟩ = some (.slice ro n rc)) := fun u hu => ⟨par_held hw0 (below_then b1 hu), by rw [← z0]; exact ⟨blk_held hw1 hu 0 rfl, blk_held hw1 hu 1 rfl, blk_held hw1 hu 2 rfl⟩⟩
  subst he
  subst hd
  clear hz
  have e1 : ((0 : Int) == dep) = true := by rw [h1]; rfl
  have e2 : ((s : Int) == (n : Int)) = true := by rw [h2]; simp
  clear h1 h2
  go_enter Try.func8, Try.ntmps8
  go_wp2_with fail
  rw [← hw0, ← hw1]
  clear hw0 hw1 z0 b0 b1
  refine (alive_any _).mono ?_
  rintro e wa ⟨rfl, ha⟩
  obtain ⟨⟨p0, p1, p2, p3⟩, d0, d1, d2⟩ := HP.out _ ha
  go_wp2_with fail
  refine (CC _ (HR.out.below (below_then HBB.out ha))).mono ?_
  rintro e wb ⟨rfl, hb⟩
  have k2 := below_then ha hb
  clear p0 p1 p2 p3 d0 d1 d2
  obtain ⟨⟨p0, p1, p2, p3⟩, d0, d1, d2⟩ := HP.out _ k2
  go_wp2_with fail
  refine (CL _).mono ?_
  rintro e wc ⟨rfl, hc⟩
  have k3 := below_then k2 hc
  clear p0 p1 p2 p3 d0 d1 d2
  obtain ⟨⟨p0, p1, p2, p3⟩, d0, d1, d2⟩ := HP.out _ k3
  go_wp2_with fail
  refine (CD _).mono ?_
  rintro e wd ⟨rfl, hd⟩
  have k4 := below_then k3 hd
  clear p0 p1 p2 p3 d0 d1 d2
  obtain ⟨⟨p0, p1, p2, p3⟩, d0, d1, d2⟩ := HP.out _ k4
  go_wp2_with fail
  refine (CS _).mono ?_
  rintro e we ⟨rfl, he⟩
  have k5 := below_then k4 he
  clear p0 p1 p2 p3 d0 d1 d2
  obtain ⟨⟨p0, p1, p2, p3⟩, d0, d1, d2⟩ := HP.out _ k5
  have HK : Hid (Below w1.heap.size w1 we) := k5
  clear k2 k3 k4 k5 ha hb hc hd he p0 p1 p2 p3 d0 d1 d2
  obtain ⟨⟨p0, p1, p2, p3⟩, d0, d1, d2⟩ := HP.out _ HK.out
  go_wp2_with fail
  clear p0 p1 p2 p3 d0 d1 d2
  go_loopw [11, 12] (fun y x wr => ∃ i : Nat, i ≤ n ∧ x = .int .i64 (i : Int) ∧ (∃ b : UInt8, y = .bool (decide (b = 1)) ∧ Hid (decide (b = 1) = (true && okL q i R V))) ∧ Hid (Below w1.heap.size w1 wr)) (fun _ x _ => n - (intOf x).toNat)
  case atStart => exact ⟨0, Nat.zero_le _, rfl, ⟨1, rfl, by rw [okL_none]; rfl⟩, HK⟩
  case round =>
    obtain ⟨i, hi, rfl, ⟨b, rfl, hb⟩, hbel⟩ := hrel
    obtain ⟨⟨p0, p1, p2, p3⟩, d0, d1, d2⟩ := HP.out _ hbel.out
    by_cases hlt : i < n
    · obtain ⟨g, off, rfl, hc⟩ := (HR.out.below (below_then HBB.out hbel.out)) (by omega)
      obtain ⟨q0, q1⟩ := hc i hlt
      have i1 : (0 : Int) ≤ (i : Int) := by omega
      have i2 : (i : Int) < (n : Int) := by omega
      have HS := okL_step q i R V
      have HBD : Hid (∀ nq, Below w1.heap.size w1 (wr.drewN nq)) := fun nq => below_step hbel.out (below_drewN _ _ _) hbel.out.size
      clear hc
      by_cases hbt : b = 1
      · have hb1 : decide (b = 1) = true := decide_eq_true hbt
        rw [hb1] at hb ⊢
        have hok : okL q i R V = true := by have := hb.out; revert this; cases okL q i R V <;> simp
        rw [hok, Bool.true_and] at HS
        obtain ⟨rr, hrr⟩ : ∃ rr, rr = R i := ⟨_, rfl⟩
        obtain ⟨vv, hvv⟩ : ∃ vv, vv = V i := ⟨_, rfl⟩
        rw [← hrr] at q0 HS
        rw [← hvv] at q1 HS
        have HO : Hid (okL q (i + 1) R V = decide (0 ≤ rr ∧ rr < q ∧ 1 ≤ vv ∧ vv ≤ 1073741824)) := HS
        clear HS hrr hvv hok hb hb1 hbt
        by_cases c0 : 0 ≤ rr
        · have e0 : decide (0 ≤ rr) = true := decide_eq_true c0
          by_cases c1 : rr < q
          · have e1 : decide (rr < q) = true := decide_eq_true c1
            by_cases c2 : 1 ≤ vv
            · have e2 : decide (1 ≤ vv) = true := decide_eq_true c2
              by_cases c3 : vv ≤ 1073741824
              · have e3 : decide (vv ≤ 1073741824) = true := decide_eq_true c3
                have HF : Hid (okL q (i + 1) R V = true) := by show _ = _; rw [HO.out]; exact decide_eq_true ⟨c0, c1, c2, c3⟩
                go_wp2_with fail
                go_big_quiet (fail)
                go_wp2_with fail
                exact ⟨⟨i + 1, by omega, by go_num, ⟨1, rfl, by rw [HF.out]; rfl⟩, HBD.out _⟩, by simp [intOf]; omega⟩
              · have e3 : decide (vv ≤ 1073741824) = false := decide_eq_false c3
                have HF : Hid (okL q (i + 1) R V = false) := by show _ = _; rw [HO.out]; exact decide_eq_false fun h => c3 h.2.2.2
                go_wp2_with fail
                go_big_quiet (fail)
                go_wp2_with fail
                exact ⟨⟨i + 1, by omega, by go_num, ⟨0, rfl, by rw [HF.out]; rfl⟩, HBD.out _⟩, by simp [intOf]; omega⟩
            · have e2 : decide (1 ≤ vv) = false := decide_eq_false c2
              have HF : Hid (okL q (i + 1) R V = false) := by show _ = _; rw [HO.out]; exact decide_eq_false fun h => c2 h.2.2.1
              go_wp2_with fail
              go_big_quiet (fail)
              go_wp2_with fail
              exact ⟨⟨i + 1, by omega, by go_num, ⟨0, rfl, by rw [HF.out]; rfl⟩, HBD.out _⟩, by simp [intOf]; omega⟩
          · have e1 : decide (rr < q) = false := decide_eq_false c1
            have HF : Hid (okL q (i + 1) R V = false) := by show _ = _; rw [HO.out]; exact decide_eq_false fun h => c1 h.2.1
            go_wp2_with fail
            go_big_quiet (fail)
            go_wp2_with fail
            exact ⟨⟨i + 1, by omega, by go_num, ⟨0, rfl, by rw [HF.out]; rfl⟩, HBD.out _⟩, by simp [intOf]; omega⟩
        · have e0 : decide (0 ≤ rr) = false := decide_eq_false c0
          have HF : Hid (okL q (i + 1) R V = false) := by show _ = _; rw [HO.out]; exact decide_eq_false fun h => c0 h.1
          go_wp2_with fail
          go_big_quiet (fail)
          go_wp2_with fail
          exact ⟨⟨i + 1, by omega, by go_num, ⟨0, rfl, by rw [HF.out]; rfl⟩, HBD.out _⟩, by simp [intOf]; omega⟩
      · have hb0 : decide (b = 1) = false := decide_eq_false hbt
        rw [hb0] at hb ⊢
        have HF : Hid ((true && okL q (i + 1) R V) = false) := by
          show _ = _
          rw [HS]
          have := hb.out
          revert this
          cases okL q i R V <;> simp
        clear HS hb hb0 hbt
        go_wp2_with fail
        go_big_quiet (fail)
        go_wp2_with fail
        exact ⟨⟨i + 1, by omega, by go_num, ⟨0, rfl, HF.out.symm⟩, HBD.out _⟩, by simp [intOf]; omega⟩
    · obtain rfl : i = n := by omega
      by_cases hbt : b = 1
      · have hb1 : decide (b = 1) = true := decide_eq_true hbt
        rw [hb1] at hb ⊢
        have HF : Hid (E = 0) := by show _ = _; rw [HE.out, ← hb.out]; rfl
        clear hb hb1 hbt
        rw [HF.out]
        go_wp2_with fail
        go_ret
        exact ⟨rfl, below_then HBB.out hbel.out⟩
      · have hb0 : decide (b = 1) = false := decide_eq_false hbt
        rw [hb0] at hb ⊢
        have HF : Hid (E = 150) := by show _ = _; rw [HE.out, ← hb.out]; rfl
        clear hb hb0 hbt
        rw [HF.out]
        go_wp2_with fail
        go_ret
        exact ⟨rfl, below_then HBB.out hbel.out⟩
set_option maxHeartbeats 8000000 in
set_option maxRecDepth 100000 in
theorem fits_d1_dep {k r c q : Int} {N W : Nat} (h : Par k r c q N W 0) (w : World) (len dep : Int) (ro : Option Addr) (n rc : Nat) (R V : Nat → Int) (hR : RdR w ro n R V) (hn : n ≤ 500) {s d x nn : Nat} {er : Int} (h' : Made k r c q len W s d x nn er) (he : er = 0) (hd : d = 1) (h1 : ¬ dep = 1) :
    Calls Try.prog 8 #[.agg #[.int .i64 k, .int .i64 r, .int .i64 c, .int .i64 q], .agg #[.int .i64 len, .int .i64 dep, .slice ro n rc]] w fun e w' => e = .returned (.bool true) ∧ Below w.heap.size w w' := by
  obtain ⟨E, hE⟩ : ∃ E, E = erD 0 W q len dep n R V := ⟨_, rfl⟩
  have HE : Hid (E = if (false && okL q n R V) = true then 0 else 150) := by
    show _ = _
    rw [hE]
    show (if okD W q len dep n R V = true then (0 : Int) else 150) = _
    rw [okD_made h h', decide_eq_false (fun h => h1 (by rw [h.2.1, hd]; rfl))]
  have CC := fun v hv => DCheck_any h v len dep ro n rc R V hv
  rw [← hE] at CC
  have CL := fun v => Check_any k r c q v
  rw [h.erP] at CL
  have CD := fun v => Depth_any h h' v
  have CS := fun v => Stripes_any h h' v
  have CV := fun v => Leaves_any h h' v
  have hz := h'.zero
  have HR : Hid (RdR w ro n R V) := hR
  clear h h' hR hE
  obtain ⟨w0, hw0⟩ : ∃ w0, w0 = w.alloc (.cells #[.int .i64 k, .int .i64 r, .int .i64 c, .int .i64 q] 24) := ⟨_, rfl⟩
  obtain ⟨w1, hw1⟩ : ∃ w1, w1 = w0.alloc (.cells #[.int .i64 len, .int .i64 dep, .slice ro n rc] 35) := ⟨_, rfl⟩
  have b0 : Below w.heap.size w w0 := by rw [hw0]; exact below_alloc _ _
  have b1 : Below w0.heap.size w0 w1 := by rw [hw1]; exact below_alloc _ _
  have z0 : w0.heap.size = w.heap.size + 1 := by rw [hw0]; simp
  have HBB : Hid (Below w.heap.size w w1) := below_then b0 b1
  have HP : Hid (∀ u, Below w1.heap.size w1 u → (u.cell? ⟨w.heap.size, 0, none⟩ = some (.int .i64 k) ∧ u.cell? ⟨w.heap.size, 1, none⟩ = some (.int .i64 r) ∧ u.cell? ⟨w.heap.size, 2, none⟩ = some (.int .i64 c) ∧ u.cell? ⟨w.heap.size, 3, none⟩ = some (.int .i64 q)) ∧ u.cell? ⟨w.heap.size + 1, 0, none⟩ = some (.int .i64 len) ∧ u.cell? ⟨w.heap.size + 1, 1, none⟩ = some (.int .i64 dep) ∧ u.cell? ⟨w.heap.size + 1, 2, none⟩ = some (.slice ro n rc)) := fun u hu => ⟨par_held hw0 (below_then b1 hu), by rw [← z0]; exact ⟨blk_held hw1 hu 0 rfl, blk_held hw1 hu 1 rfl, blk_held hw1 hu 2 rfl⟩⟩
  subst he
  subst hd
  clear hz
  have e1 : ((1 : Int) == dep) = false := by simpa using fun e => h1 e.symm
  clear h1
  go_enter Try.func8, Try.ntmps8
  go_wp2_with fail
  rw [← hw0, ← hw1]
  clear hw0 hw1 z0 b0 b1
  refine (alive_any _).mono ?_
  rintro e wa ⟨rfl, ha⟩
  obtain ⟨⟨p0, p1, p2, p3⟩, d0, d1, d2⟩ := HP.out _ ha
  go_wp2_with fail
  refine (CC _ (HR.out.below (below_then HBB.out ha))).mono ?_
  rintro e wb ⟨rfl, hb⟩
  have k2 := below_then ha hb
  clear p0 p1 p2 p3 d0 d1 d2
  obtain ⟨⟨p0, p1, p2, p3⟩, d0, d1, d2⟩ := HP.out _ k2
  go_wp2_with fail
  refine (CL _).mono ?_
  rintro e wc ⟨rfl, hc⟩
  have k3 := below_then k2 hc
  clear p0 p1 p2 p3 d0 d1 d2
  obtain ⟨⟨p0, p1, p2, p3⟩, d0, d1, d2⟩ := HP.out _ k3
  go_wp2_with fail
  refine (CD _).mono ?_
  rintro e wd ⟨rfl, hd⟩
  have k4 := below_then k3 hd
  clear p0 p1 p2 p3 d0 d1 d2
  obtain ⟨⟨p0, p1, p2, p3⟩, d0, d1, d2⟩ := HP.out _ k4
  go_wp2_with fail
  refine (CS _).mono ?_
  rintro e we ⟨rfl, he⟩
  have k5 := below_then k4 he
  clear p0 p1 p2 p3 d0 d1 d2
  obtain ⟨⟨p0, p1, p2, p3⟩, d0, d1, d2⟩ := HP.out _ k5
  go_wp2_with fail
  refine (CV _).mono ?_
  rintro e wf ⟨rfl, hf⟩
  have k6 := below_then k5 hf
  clear p0 p1 p2 p3 d0 d1 d2
  obtain ⟨⟨p0, p1, p2, p3⟩, d0, d1, d2⟩ := HP.out _ k6
  have HK : Hid (Below w1.heap.size w1 wf) := k6
  clear k2 k3 k4 k5 k6 hf ha hb hc hd he p0 p1 p2 p3 d0 d1 d2
  obtain ⟨⟨p0, p1, p2, p3⟩, d0, d1, d2⟩ := HP.out _ HK.out
  go_wp2_with fail
  clear p0 p1 p2 p3 d0 d1 d2
  have HF : Hid (E = 150) := HE.out
  go_loopw [11, 12] (fun y x wr => ∃ i : Nat, i ≤ n ∧ x = .int .i64 (i : Int) ∧ y = .bool false ∧ Hid (Below w1.heap.size w1 wr)) (fun _ x _ => n - (intOf x).toNat)
  case atStart => exact ⟨0, Nat.zero_le _, rfl, rfl, HK⟩
  case round =>
    obtain ⟨i, hi, rfl, rfl, hbel⟩ := hrel
    obtain ⟨⟨p0, p1, p2, p3⟩, d0, d1, d2⟩ := HP.out _ hbel.out
    have HBD : Hid (∀ nq, Below w1.heap.size w1 (wr.drewN nq)) := fun nq => below_step hbel.out (below_drewN _ _ _) hbel.out.size
    by_cases hlt : i < n
    · have i1 : (0 : Int) ≤ (i : Int) := by omega
      have i2 : (i : Int) < (n : Int) := by omega
      go_wp2_with fail
      go_big_quiet (fail)
      go_wp2_with fail
      exact ⟨⟨i + 1, by omega, by go_num, rfl, HBD.out _⟩, by simp [intOf]; omega⟩
    · rw [HF.out]
      go_wp2_with fail
      go_ret
      exact ⟨rfl, below_then HBB.out hbel.out⟩
set_option maxHeartbeats 8000000 in
set_option maxRecDepth 100000 in
theorem fits_d1_n {k r c q : Int} {N W : Nat} (h : Par k r c q N W 0) (w : World) (len dep : Int) (ro : Option Addr) (n rc : Nat) (R V : Nat → Int) (hR : RdR w ro n R V) (hn : n ≤ 500) {s d x nn : Nat} {er : Int} (h' : Made k r c q len W s d x nn er) (he : er = 0) (hd : d = 1) (h1 : dep = 1) (h2 : ¬ n = x) :
    Calls Try.prog 8 #[.agg #[.int .i64 k, .int .i64 r, .int .i64 c, .int .i64 q], .agg #[.int .i64 len, .int .i64 dep, .slice ro n rc]] w fun e w' => e = .returned (.bool true) ∧ Below w.heap.size w w' := by
  obtain ⟨E, hE⟩ : ∃ E, E = erD 0 W q len dep n R V := ⟨_, rfl⟩
  have HE : Hid (E = if (false && okL q n R V) = true then 0 else 150) := by
    show _ = _
    rw [hE]
    show (if okD W q len dep n R V = true then (0 : Int) else 150) = _
    rw [okD_made h h', decide_eq_false (fun h => h2 (by have := h.2.2; rw [hd] at this; unfold cns at this; simp at this; omega))]
  have CC := fun v hv => DCheck_any h v len dep ro n rc R V hv
  rw [← hE] at CC
  have CL := fun v => Check_any k r c q v
  rw [h.erP] at CL
  have CD := fun v => Depth_any h h' v
  have CS := fun v => Stripes_any h h' v
  have CV := fun v => Leaves_any h h' v
  have hz := h'.zero
  have HR : Hid (RdR w ro n R V) := hR
  clear h h' hR hE
  obtain ⟨w0, hw0⟩ : ∃ w0, w0 = w.alloc (.cells #[.int .i64 k, .int .i64 r, .int .i64 c, .int .i64 q] 24) := ⟨_, rfl⟩
  obtain ⟨w1, hw1⟩ : ∃ w1, w1 = w0.alloc (.cells #[.int .i64 len, .int .i64 dep, .slice ro n rc] 35) := ⟨_, rfl⟩
  have b0 : Below w.heap.size w w0 := by rw [hw0]; exact below_alloc _ _
  have b1 : Below w0.heap.size w0 w1 := by rw [hw1]; exact below_alloc _ _
  have z0 : w0.heap.size = w.heap.size + 1 := by rw [hw0]; simp
  have HBB : Hid (Below w.heap.size w w1) := below_then b0 b1
  have HP : Hid (∀ u, Below w1.heap.size w1 u → (u.cell? ⟨w.heap.size, 0, none⟩ = some (.int .i64 k) ∧ u.cell? ⟨w.heap.size, 1, none⟩ = some (.int .i64 r) ∧ u.cell? ⟨w.heap.size, 2, none⟩ = some (.int .i64 c) ∧ u.cell? ⟨w.heap.size, 3, none⟩ = some (.int .i64 q)) ∧ u.cell? ⟨w.heap.size + 1, 0, none⟩ = some (.int .i64 len) ∧ u.cell? ⟨w.heap.size + 1, 1, none⟩ = some (.int .i64 dep) ∧ u.cell? ⟨w.heap.size + 1, 2, none⟩ = some (.slice ro n rc)) := fun u hu => ⟨par_held hw0 (below_then b1 hu), by rw [← z0]; exact ⟨blk_held hw1 hu 0 rfl, blk_held hw1 hu 1 rfl, blk_held hw1 hu 2 rfl⟩⟩
  subst he
  subst hd
  clear hz
  have e1 : ((1 : Int) == dep) = true := by rw [h1]; rfl
  have e2 : ((x : Int) == (n : Int)) = false := by have : ¬ (x : Int) = (n : Int) := (by omega); simpa using this
  clear h1 h2
  go_enter Try.func8, Try.ntmps8
  go_wp2_with fail
  rw [← hw0, ← hw1]
  clear hw0 hw1 z0 b0 b1
  refine (alive_any _).mono ?_
  rintro e wa ⟨rfl, ha⟩
  obtain ⟨⟨p0, p1, p2, p3⟩, d0, d1, d2⟩ := HP.out _ ha
  go_wp2_with fail
  refine (CC _ (HR.out.below (below_then HBB.out ha))).mono ?_
  rintro e wb ⟨rfl, hb⟩
  have k2 := below_then ha hb
  clear p0 p1 p2 p3 d0 d1 d2
  obtain ⟨⟨p0, p1, p2, p3⟩, d0, d1, d2⟩ := HP.out _ k2
  go_wp2_with fail
  refine (CL _).mono ?_
  rintro e wc ⟨rfl, hc⟩
  have k3 := below_then k2 hc
  clear p0 p1 p2 p3 d0 d1 d2
  obtain ⟨⟨p0, p1, p2, p3⟩, d0, d1, d2⟩ := HP.out _ k3
  go_wp2_with fail
  refine (CD _).mono ?_
  rintro e wd ⟨rfl, hd⟩
  have k4 := below_then k3 hd
  clear p0 p1 p2 p3 d0 d1 d2
  obtain ⟨⟨p0, p1, p2, p3⟩, d0, d1, d2⟩ := HP.out _ k4
  go_wp2_with fail
  refine (CS _).mono ?_
  rintro e we ⟨rfl, he⟩
  have k5 := below_then k4 he
  clear p0 p1 p2 p3 d0 d1 d2
  obtain ⟨⟨p0, p1, p2, p3⟩, d0, d1, d2⟩ := HP.out _ k5
  go_wp2_with fail
  refine (CV _).mono ?_
  rintro e wf ⟨rfl, hf⟩
  have k6 := below_then k5 hf
  clear p0 p1 p2 p3 d0 d1 d2
  obtain ⟨⟨p0, p1, p2, p3⟩, d0, d1, d2⟩ := HP.out _ k6
  have HK : Hid (Below w1.heap.size w1 wf) := k6
  clear k2 k3 k4 k5 k6 hf ha hb hc hd he p0 p1 p2 p3 d0 d1 d2
  obtain ⟨⟨p0, p1, p2, p3⟩, d0, d1, d2⟩ := HP.out _ HK.out
  go_wp2_with fail
  clear p0 p1 p2 p3 d0 d1 d2
  have HF : Hid (E = 150) := HE.out
  go_loopw [11, 12] (fun y x wr => ∃ i : Nat, i ≤ n ∧ x = .int .i64 (i : Int) ∧ y = .bool false ∧ Hid (Below w1.heap.size w1 wr)) (fun _ x _ => n - (intOf x).toNat)
  case atStart => exact ⟨0, Nat.zero_le _, rfl, rfl, HK⟩
  case round =>
    obtain ⟨i, hi, rfl, rfl, hbel⟩ := hrel
    obtain ⟨⟨p0, p1, p2, p3⟩, d0, d1, d2⟩ := HP.out _ hbel.out
    have HBD : Hid (∀ nq, Below w1.heap.size w1 (wr.drewN nq)) := fun nq => below_step hbel.out (below_drewN _ _ _) hbel.out.size
    by_cases hlt : i < n
    · have i1 : (0 : Int) ≤ (i : Int) := by omega
      have i2 : (i : Int) < (n : Int) := by omega
      go_wp2_with fail
      go_big_quiet (fail)
      go_wp2_with fail
      exact ⟨⟨i + 1, by omega, by go_num, rfl, HBD.out _⟩, by simp [intOf]; omega⟩
    · rw [HF.out]
      go_wp2_with fail
      go_ret
      exact ⟨rfl, below_then HBB.out hbel.out⟩
set_option maxHeartbeats 8000000 in
set_option maxRecDepth 100000 in
theorem fits_d1_ok {k r c q : Int} {N W : Nat} (h : Par k r c q N W 0) (w : World) (len dep : Int) (ro : Option Addr) (n rc : Nat) (R V : Nat → Int) (hR : RdR w ro n R V) (hn : n ≤ 500) {s d x nn : Nat} {er : Int} (h' : Made k r c q len W s d x nn er) (he : er = 0) (hd : d = 1) (h1 : dep = 1) (h2 : n = x) :
    Calls Try.prog 8 #[.agg #[.int .i64 k, .int .i64 r, .int .i64 c, .int .i64 q], .agg #[.int .i64 len, .int .i64 dep, .slice ro n rc]] w fun e w' => e = .returned (.bool true) ∧ Below w.heap.size w w' := by
  obtain ⟨E, hE⟩ : ∃ E, E = erD 0 W q len dep n R V := ⟨_, rfl⟩
  have HE : Hid (E = if (true && okL q n R V) = true then 0 else 150) := by
    show _ = _
    rw [hE]
    show (if okD W q len dep n R V = true then (0 : Int) else 150) = _
    rw [okD_made h h', decide_eq_true (show er = 0 ∧ dep = (d : Int) ∧ (n : Int) = ((cns d s x : Nat) : Int) from ⟨he, by rw [h1, hd]; rfl, by rw [hd, h2]; rfl⟩)]
  have CC := fun v hv => DCheck_any h v len dep ro n rc R V hv
  rw [← hE] at CC
  have CL := fun v => Check_any k r c q v
  rw [h.erP] at CL
  have CD := fun v => Depth_any h h' v
  have CS := fun v => Stripes_any h h' v
  have CV := fun v => Leaves_any h h' v
  have hz := h'.zero
  have HR : Hid (RdR w ro n R V) := hR
  clear h h' hR hE
  obtain ⟨w0, hw0⟩ : ∃ w0, w0 = w.alloc (.cells #[.int .i64 k, .int .i64 r, .int .i64 c, .int .i64 q] 24) := ⟨_, rfl⟩
  obtain ⟨w1, hw1⟩ : ∃ w1, w1 = w0.alloc (.cells #[.int .i64 len, .int .i64 dep, .slice ro n rc] 35) := ⟨_, rfl⟩
  have b0 : Below w.heap.size w w0 := by rw [hw0]; exact below_alloc _ _
  have b1 : Below w0.heap.size w0 w1 := by rw [hw1]; exact below_alloc _ _
  have z0 : w0.heap.size = w.heap.size + 1 := by rw [hw0]; simp
  have HBB : Hid (Below w.heap.size w w1) := below_then b0 b1
  have HP : Hid (∀ u, Below w1.heap.size w1 u → (u.cell? ⟨w.heap.size, 0, none⟩ = some (.int .i64 k) ∧ u.cell? ⟨w.heap.size, 1, none⟩ = some (.int .i64 r) ∧ u.cell? ⟨w.heap.size, 2, none⟩ = some (.int .i64 c) ∧ u.cell? ⟨w.heap.size, 3, none⟩ = some (.int .i64 q)) ∧ u.cell? ⟨w.heap.size + 1, 0, none⟩ = some (.int .i64 len) ∧ u.cell? ⟨w.heap.size + 1, 1, none⟩ = some (.int .i64 dep) ∧ u.cell? ⟨w.heap.size + 1, 2, none⟩ = some (.slice ro n rc)) := fun u hu => ⟨par_held hw0 (below_then b1 hu), by rw [← z0]; exact ⟨blk_held hw1 hu 0 rfl, blk_held hw1 hu 1 rfl, blk_held hw1 hu 2 rfl⟩⟩
  subst he
  subst hd
  clear hz
  have e1 : ((1 : Int) == dep) = true := by rw [h1]; rfl
  have e2 : ((x : Int) == (n : Int)) = true := by rw [h2]; simp
  clear h1 h2
  go_enter Try.func8, Try.ntmps8
  go_wp2_with fail
  rw [← hw0, ← hw1]
  clear hw0 hw1 z0 b0 b1
  refine (alive_any _).mono ?_
  rintro e wa ⟨rfl, ha⟩
  obtain ⟨⟨p0, p1, p2, p3⟩, d0, d1, d2⟩ := HP.out _ ha
  go_wp2_with fail
  refine (CC _ (HR.out.below (below_then HBB.out ha))).mono ?_
  rintro e wb ⟨rfl, hb⟩
  have k2 := below_then ha hb
  clear p0 p1 p2 p3 d0 d1 d2
  obtain ⟨⟨p0, p1, p2, p3⟩, d0, d1, d2⟩ := HP.out _ k2
  go_wp2_with fail
  refine (CL _).mono ?_
  rintro e wc ⟨rfl, hc⟩
  have k3 := below_then k2 hc
  clear p0 p1 p2 p3 d0 d1 d2
  obtain ⟨⟨p0, p1, p2, p3⟩, d0, d1, d2⟩ := HP.out _ k3
  go_wp2_with fail
  refine (CD _).mono ?_
  rintro e wd ⟨rfl, hd⟩
  have k4 := below_then k3 hd
  clear p0 p1 p2 p3 d0 d1 d2
  obtain ⟨⟨p0, p1, p2, p3⟩, d0, d1, d2⟩ := HP.out _ k4
  go_wp2_with fail
  refine (CS _).mono ?_
  rintro e we ⟨rfl, he⟩
  have k5 := below_then k4 he
  clear p0 p1 p2 p3 d0 d1 d2
  obtain ⟨⟨p0, p1, p2, p3⟩, d0, d1, d2⟩ := HP.out _ k5
  go_wp2_with fail
  refine (CV _).mono ?_
  rintro e wf ⟨rfl, hf⟩
  have k6 := below_then k5 hf
  clear p0 p1 p2 p3 d0 d1 d2
  obtain ⟨⟨p0, p1, p2, p3⟩, d0, d1, d2⟩ := HP.out _ k6
  have HK : Hid (Below w1.heap.size w1 wf) := k6
  clear k2 k3 k4 k5 k6 hf ha hb hc hd he p0 p1 p2 p3 d0 d1 d2
  obtain ⟨⟨p0, p1, p2, p3⟩, d0, d1, d2⟩ := HP.out _ HK.out
  go_wp2_with fail
  clear p0 p1 p2 p3 d0 d1 d2
  go_loopw [11, 12] (fun y x wr => ∃ i : Nat, i ≤ n ∧ x = .int .i64 (i : Int) ∧ (∃ b : UInt8, y = .bool (decide (b = 1)) ∧ Hid (decide (b = 1) = (true && okL q i R V))) ∧ Hid (Below w1.heap.size w1 wr)) (fun _ x _ => n - (intOf x).toNat)
  case atStart => exact ⟨0, Nat.zero_le _, rfl, ⟨1, rfl, by rw [okL_none]; rfl⟩, HK⟩
  case round =>
    obtain ⟨i, hi, rfl, ⟨b, rfl, hb⟩, hbel⟩ := hrel
    obtain ⟨⟨p0, p1, p2, p3⟩, d0, d1, d2⟩ := HP.out _ hbel.out
    by_cases hlt : i < n
    · obtain ⟨g, off, rfl, hc⟩ := (HR.out.below (below_then HBB.out hbel.out)) (by omega)
      obtain ⟨q0, q1⟩ := hc i hlt
      have i1 : (0 : Int) ≤ (i : Int) := by omega
      have i2 : (i : Int) < (n : Int) := by omega
      have HS := okL_step q i R V
      have HBD : Hid (∀ nq, Below w1.heap.size w1 (wr.drewN nq)) := fun nq => below_step hbel.out (below_drewN _ _ _) hbel.out.size
      clear hc
      by_cases hbt : b = 1
      · have hb1 : decide (b = 1) = true := decide_eq_true hbt
        rw [hb1] at hb ⊢
        have hok : okL q i R V = true := by have := hb.out; revert this; cases okL q i R V <;> simp
        rw [hok, Bool.true_and] at HS
        obtain ⟨rr, hrr⟩ : ∃ rr, rr = R i := ⟨_, rfl⟩
        obtain ⟨vv, hvv⟩ : ∃ vv, vv = V i := ⟨_, rfl⟩
        rw [← hrr] at q0 HS
        rw [← hvv] at q1 HS
        have HO : Hid (okL q (i + 1) R V = decide (0 ≤ rr ∧ rr < q ∧ 1 ≤ vv ∧ vv ≤ 1073741824)) := HS
        clear HS hrr hvv hok hb hb1 hbt
        by_cases c0 : 0 ≤ rr
        · have e0 : decide (0 ≤ rr) = true := decide_eq_true c0
          by_cases c1 : rr < q
          · have e1 : decide (rr < q) = true := decide_eq_true c1
            by_cases c2 : 1 ≤ vv
            · have e2 : decide (1 ≤ vv) = true := decide_eq_true c2
              by_cases c3 : vv ≤ 1073741824
              · have e3 : decide (vv ≤ 1073741824) = true := decide_eq_true c3
                have HF : Hid (okL q (i + 1) R V = true) := by show _ = _; rw [HO.out]; exact decide_eq_true ⟨c0, c1, c2, c3⟩
                go_wp2_with fail
                go_big_quiet (fail)
                go_wp2_with fail
                exact ⟨⟨i + 1, by omega, by go_num, ⟨1, rfl, by rw [HF.out]; rfl⟩, HBD.out _⟩, by simp [intOf]; omega⟩
              · have e3 : decide (vv ≤ 1073741824) = false := decide_eq_false c3
                have HF : Hid (okL q (i + 1) R V = false) := by show _ = _; rw [HO.out]; exact decide_eq_false fun h => c3 h.2.2.2
                go_wp2_with fail
                go_big_quiet (fail)
                go_wp2_with fail
                exact ⟨⟨i + 1, by omega, by go_num, ⟨0, rfl, by rw [HF.out]; rfl⟩, HBD.out _⟩, by simp [intOf]; omega⟩
            · have e2 : decide (1 ≤ vv) = false := decide_eq_false c2
              have HF : Hid (okL q (i + 1) R V = false) := by show _ = _; rw [HO.out]; exact decide_eq_false fun h => c2 h.2.2.1
              go_wp2_with fail
              go_big_quiet (fail)
              go_wp2_with fail
              exact ⟨⟨i + 1, by omega, by go_num, ⟨0, rfl, by rw [HF.out]; rfl⟩, HBD.out _⟩, by simp [intOf]; omega⟩
          · have e1 : decide (rr < q) = false := decide_eq_false c1
            have HF : Hid (okL q (i + 1) R V = false) := by show _ = _; rw [HO.out]; exact decide_eq_false fun h => c1 h.2.1
            go_wp2_with fail
            go_big_quiet (fail)
            go_wp2_with fail
            exact ⟨⟨i + 1, by omega, by go_num, ⟨0, rfl, by rw [HF.out]; rfl⟩, HBD.out _⟩, by simp [intOf]; omega⟩
        · have e0 : decide (0 ≤ rr) = false := decide_eq_false c0
          have HF : Hid (okL q (i + 1) R V = false) := by show _ = _; rw [HO.out]; exact decide_eq_false fun h => c0 h.1
          go_wp2_with fail
          go_big_quiet (fail)
          go_wp2_with fail
          exact ⟨⟨i + 1, by omega, by go_num, ⟨0, rfl, by rw [HF.out]; rfl⟩, HBD.out _⟩, by simp [intOf]; omega⟩
      · have hb0 : decide (b = 1) = false := decide_eq_false hbt
        rw [hb0] at hb ⊢
        have HF : Hid ((true && okL q (i + 1) R V) = false) := by
          show _ = _
          rw [HS]
          have := hb.out
          revert this
          cases okL q i R V <;> simp
        clear HS hb hb0 hbt
        go_wp2_with fail
        go_big_quiet (fail)
        go_wp2_with fail
        exact ⟨⟨i + 1, by omega, by go_num, ⟨0, rfl, HF.out.symm⟩, HBD.out _⟩, by simp [intOf]; omega⟩
    · obtain rfl : i = n := by omega
      by_cases hbt : b = 1
      · have hb1 : decide (b = 1) = true := decide_eq_true hbt
        rw [hb1] at hb ⊢
        have HF : Hid (E = 0) := by show _ = _; rw [HE.out, ← hb.out]; rfl
        clear hb hb1 hbt
        rw [HF.out]
        go_wp2_with fail
        go_ret
        exact ⟨rfl, below_then HBB.out hbel.out⟩
      · have hb0 : decide (b = 1) = false := decide_eq_false hbt
        rw [hb0] at hb ⊢
        have HF : Hid (E = 150) := by show _ = _; rw [HE.out, ← hb.out]; rfl
        clear hb hb0 hbt
        rw [HF.out]
        go_wp2_with fail
        go_ret
        exact ⟨rfl, below_then HBB.out hbel.out⟩
theorem fits_law (k r c q : Int) (w : World) (len dep : Int) (ro : Option Addr) (n rc : Nat) (R V : Nat → Int) (hR : RdR w ro n R V) :
    Calls Try.prog 8 #[.agg #[.int .i64 k, .int .i64 r, .int .i64 c, .int .i64 q], .agg #[.int .i64 len, .int .i64 dep, .slice ro n rc]] w fun e w' => e = .returned (.bool true) ∧ Below w.heap.size w w' := by
  by_cases hn : 500 < n
  · exact fits_long k r c q w len dep ro n rc hn
  · have hn2 : n ≤ 500 := by omega
    obtain ⟨N, W, y, h⟩ := par_any k r c q
    rcases h.err with rfl | rfl
    · obtain ⟨s, d, x, nn, er, h'⟩ := made_any k r c q len W
      rcases h'.zero with ⟨he, hd⟩ | ⟨he, _⟩
      · rcases (show d = 0 ∨ d = 1 by omega) with hd | hd
        · by_cases h1 : dep = 0
          · by_cases h2 : n = s
            · exact fits_d0_ok h w len dep ro n rc R V hR hn2 h' he hd h1 h2
            · exact fits_d0_n h w len dep ro n rc R V hR hn2 h' he hd h1 h2
          · exact fits_d0_dep h w len dep ro n rc R V hR hn2 h' he hd h1
        · by_cases h1 : dep = 1
          · by_cases h2 : n = x
            · exact fits_d1_ok h w len dep ro n rc R V hR hn2 h' he hd h1 h2
            · exact fits_d1_n h w len dep ro n rc R V hR hn2 h' he hd h1 h2
          · exact fits_d1_dep h w len dep ro n rc R V hR hn2 h' he hd h1
      · exact fits_er h w len dep ro n rc R V hR hn2 h' he
    · exact fits_bad h w len dep ro n rc R V hR hn2
end Go.Proofs.Ytjncnojplkljnaa
