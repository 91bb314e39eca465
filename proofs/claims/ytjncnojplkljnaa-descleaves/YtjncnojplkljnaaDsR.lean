/- DescLeaves: a leaf that is written is read back as it was, and the other way round. -/
import Derived.Test.YtjncnojplkljnaaDsO
namespace Go.Proofs.Ytjncnojplkljnaa
open Go.RowKit

set_option maxHeartbeats 8000000 in
set_option maxRecDepth 100000 in
theorem leaves_long (k r c q : Int) (w : World) (ro : Option Addr) (n rc : Nat) (bo : Option Addr) (m bc : Nat) (b : Int) (hn : 500 < n ∨ 5000 < m) :
    Calls Try.prog 7 #[.agg #[.int .i64 k, .int .i64 r, .int .i64 c, .int .i64 q], .slice ro n rc, .slice bo m bc, .int .i64 b] w fun e w' => e = .returned (.bool true) ∧ Below w.heap.size w w' := by
  obtain ⟨w1, hw1⟩ : ∃ w1, w1 = w.alloc (.cells #[.int .i64 k, .int .i64 r, .int .i64 c, .int .i64 q] 24) := ⟨_, rfl⟩
  have b1 : Below w.heap.size w w1 := by rw [hw1]; exact below_alloc _ _
  have HBB : Hid (Below w.heap.size w w1) := b1
  have HP : Hid (∀ u, Below w1.heap.size w1 u → u.cell? ⟨w.heap.size, 0, none⟩ = some (.int .i64 k) ∧ u.cell? ⟨w.heap.size, 1, none⟩ = some (.int .i64 r) ∧ u.cell? ⟨w.heap.size, 2, none⟩ = some (.int .i64 c) ∧ u.cell? ⟨w.heap.size, 3, none⟩ = some (.int .i64 q)) := fun u hu => par_held hw1 hu
  by_cases h1 : 500 < n
  · clear hn
    go_enter Try.func7, Try.ntmps7
    go_wp2_with fail
    rw [← hw1]
    clear hw1 b1
    refine (alive_any _).mono ?_
    rintro e wa ⟨rfl, ha⟩
    have HK : Hid (Below w1.heap.size w1 wa) := ha
    clear ha
    obtain ⟨p0, p1, p2, p3⟩ := HP.out _ HK.out
    go_wp2_with fail
    go_ret
    exact ⟨rfl, below_then HBB.out HK.out⟩
  · have h2 : 5000 < m := by omega
    clear hn
    go_enter Try.func7, Try.ntmps7
    go_wp2_with fail
    rw [← hw1]
    clear hw1 b1
    refine (alive_any _).mono ?_
    rintro e wa ⟨rfl, ha⟩
    have HK : Hid (Below w1.heap.size w1 wa) := ha
    clear ha
    obtain ⟨p0, p1, p2, p3⟩ := HP.out _ HK.out
    go_wp2_with fail
    go_ret
    exact ⟨rfl, below_then HBB.out HK.out⟩

set_option maxHeartbeats 8000000 in
set_option maxRecDepth 100000 in
theorem leaves_00 {k r c q : Int} {N W : Nat} {y : Int} (h : Par k r c q N W y) (w : World) (ro : Option Addr) (n rc : Nat) (R V : Nat → Int) (hR : Rec w ro n rc R V) (bo : Option Addr) (m bc : Nat) (F : Nat → UInt8) (hB : Bec w bo m bc F) (b : Int) (hn : n ≤ 500) (hm : m ≤ 5000) {E1 E2 : Int} (hE1 : erL y W q n R V = E1) (hz1 : E1 ≠ 0) (hE2 : erR y W q m b F = E2) (hz2 : E2 ≠ 0) :
    Calls Try.prog 7 #[.agg #[.int .i64 k, .int .i64 r, .int .i64 c, .int .i64 q], .slice ro n rc, .slice bo m bc, .int .i64 b] w fun e w' => e = .returned (.bool true) ∧ Below w.heap.size w w' := by
  have C1 := fun v hv => DLeaf_any h v ro n rc R V hv E1 hE1
  have C3 := fun v hv => Refs_any h v bo m bc F hv b E2 hE2
  unfold AnsB at C1
  unfold AnsR at C3
  have HR : Hid (Rec w ro n rc R V) := hR
  have HB : Hid (Bec w bo m bc F) := hB
  have e1 : (E1 == 0) = false := by simpa using hz1
  simp only [lenE_not hz1] at C1
  clear hE1
  have e2 : (E2 != 0) = true := by simpa using hz2
  simp only [lenE_not hz2] at C3
  clear hE2
  clear h hR hB
  obtain ⟨w1, hw1⟩ : ∃ w1, w1 = w.alloc (.cells #[.int .i64 k, .int .i64 r, .int .i64 c, .int .i64 q] 24) := ⟨_, rfl⟩
  have b1 : Below w.heap.size w w1 := by rw [hw1]; exact below_alloc _ _
  have HBB : Hid (Below w.heap.size w w1) := b1
  have HP : Hid (∀ u, Below w1.heap.size w1 u → u.cell? ⟨w.heap.size, 0, none⟩ = some (.int .i64 k) ∧ u.cell? ⟨w.heap.size, 1, none⟩ = some (.int .i64 r) ∧ u.cell? ⟨w.heap.size, 2, none⟩ = some (.int .i64 c) ∧ u.cell? ⟨w.heap.size, 3, none⟩ = some (.int .i64 q)) := fun u hu => par_held hw1 hu
  go_enter Try.func7, Try.ntmps7
  go_wp2_with fail
  rw [← hw1]
  clear hw1 b1
  refine (alive_any _).mono ?_
  rintro e wa ⟨rfl, ha⟩
  have HK : Hid (Below w1.heap.size w1 wa) := ha
  clear ha
  obtain ⟨p0, p1, p2, p3⟩ := HP.out _ HK.out
  go_wp2_with fail
  refine (C1 _ (HR.out.below (below_then HBB.out HK.out))).mono ?_
  rintro e wb ⟨co, cc, rfl, hco, hb⟩
  have HK2 : Hid (Below w1.heap.size w1 wb) := below_then HK.out hb
  clear hb hco p0 p1 p2 p3
  clear HK
  have HK := HK2
  obtain ⟨p0, p1, p2, p3⟩ := HP.out _ HK.out
  go_wp2_with fail
  refine (C3 _ (HB.out.below (below_then HBB.out HK.out))).mono ?_
  rintro e wg ⟨zo, zc, rfl, hoz, hg⟩
  have HK6 : Hid (Below w1.heap.size w1 wg) := below_then HK.out hg
  clear hg p0 p1 p2 p3
  go_wp2_with fail
  go_ret
  exact ⟨rfl, below_then HBB.out HK6.out⟩

set_option maxHeartbeats 8000000 in
set_option maxRecDepth 100000 in
theorem leaves_01 {k r c q : Int} {N W : Nat} {y : Int} (h : Par k r c q N W y) (w : World) (ro : Option Addr) (n rc : Nat) (R V : Nat → Int) (hR : Rec w ro n rc R V) (bo : Option Addr) (m bc : Nat) (F : Nat → UInt8) (hB : Bec w bo m bc F) (b : Int) (hn : n ≤ 500) (hm : m ≤ 5000) {E1 E2 : Int} (hE1 : erL y W q n R V = E1) (hz1 : E1 ≠ 0) (hE2 : erR y W q m b F = E2) (hz2 : E2 = 0) :
    Calls Try.prog 7 #[.agg #[.int .i64 k, .int .i64 r, .int .i64 c, .int .i64 q], .slice ro n rc, .slice bo m bc, .int .i64 b] w fun e w' => e = .returned (.bool true) ∧ Below w.heap.size w w' := by
  have C1 := fun v hv => DLeaf_any h v ro n rc R V hv E1 hE1
  have C3 := fun v hv => Refs_any h v bo m bc F hv b E2 hE2
  unfold AnsB at C1
  unfold AnsR at C3
  have HR : Hid (Rec w ro n rc R V) := hR
  have HB : Hid (Bec w bo m bc F) := hB
  have e1 : (E1 == 0) = false := by simpa using hz1
  simp only [lenE_not hz1] at C1
  clear hE1
  subst hz2
  obtain ⟨hy0, rfl, hb1, hb2, hid⟩ := erR_of hE2
  subst hy0
  obtain ⟨t, rfl⟩ : ∃ t : Nat, b = (t : Int) := ⟨b.toNat, by omega⟩
  rw [Int.toNat_natCast] at C3 hid
  have hok2 := (isL_true hid).1
  have C4 := fun v zo zc hv => DLeaf_any h v zo t zc (rdR F 0) (rdV F 0) hv 0 (by unfold erL; rw [if_pos rfl, if_neg (by omega), if_pos hok2])
  unfold AnsB at C4
  simp only [lenE_zero] at C3 C4
  have HEN : Hid (lsF m (lfB t (rdR F 0) (rdV F 0)) = lsF m F) := lsF_eq.2 ⟨rfl, fun j hj => lfB_rd hid hj⟩
  have htt : ((t : Int) == (t : Int)) = true := by simp
  clear hE2 hid hok2 hb1 hb2
  generalize lfB t (rdR F 0) (rdV F 0) = GG at *
  generalize rdR F 0 = RR at *
  generalize rdV F 0 = VV at *
  clear h hR hB
  obtain ⟨w1, hw1⟩ : ∃ w1, w1 = w.alloc (.cells #[.int .i64 k, .int .i64 r, .int .i64 c, .int .i64 q] 24) := ⟨_, rfl⟩
  have b1 : Below w.heap.size w w1 := by rw [hw1]; exact below_alloc _ _
  have HBB : Hid (Below w.heap.size w w1) := b1
  have HP : Hid (∀ u, Below w1.heap.size w1 u → u.cell? ⟨w.heap.size, 0, none⟩ = some (.int .i64 k) ∧ u.cell? ⟨w.heap.size, 1, none⟩ = some (.int .i64 r) ∧ u.cell? ⟨w.heap.size, 2, none⟩ = some (.int .i64 c) ∧ u.cell? ⟨w.heap.size, 3, none⟩ = some (.int .i64 q)) := fun u hu => par_held hw1 hu
  go_enter Try.func7, Try.ntmps7
  go_wp2_with fail
  rw [← hw1]
  clear hw1 b1
  refine (alive_any _).mono ?_
  rintro e wa ⟨rfl, ha⟩
  have HK : Hid (Below w1.heap.size w1 wa) := ha
  clear ha
  obtain ⟨p0, p1, p2, p3⟩ := HP.out _ HK.out
  go_wp2_with fail
  refine (C1 _ (HR.out.below (below_then HBB.out HK.out))).mono ?_
  rintro e wb ⟨co, cc, rfl, hco, hb⟩
  have HK2 : Hid (Below w1.heap.size w1 wb) := below_then HK.out hb
  clear hb hco p0 p1 p2 p3
  clear HK
  have HK := HK2
  obtain ⟨p0, p1, p2, p3⟩ := HP.out _ HK.out
  go_wp2_with fail
  refine (C3 _ (HB.out.below (below_then HBB.out HK.out))).mono ?_
  rintro e wg ⟨zo, zc, rfl, hoz, hg⟩
  have HK6 : Hid (Below w1.heap.size w1 wg) := below_then HK.out hg
  clear hg p0 p1 p2 p3
  have HZR : Hid (Rec wg zo t zc RR VV) := hoz.rec
  clear hoz
  obtain ⟨p0, p1, p2, p3⟩ := HP.out _ HK6.out
  go_wp2_with fail
  refine (C4 _ _ _ HZR.out).mono ?_
  rintro e wi ⟨yo, yc, rfl, hoy, hi⟩
  have HK7 : Hid (Below w1.heap.size w1 wi) := below_then HK6.out hi
  have v1 : (convert 29 9 (.slice yo m yc)).run Try.prog wi = .ok (.string (sOf (lsF m F))) wi := by rw [← HEN.out]; exact conv_any hoy.bec
  have v2 : (convert 29 9 (.slice bo m bc)).run Try.prog wi = .ok (.string (sOf (lsF m F))) wi := conv_any (HB.out.below (below_then HBB.out HK7.out))
  clear hi hoy
  go_wp2_with fail
  go_ret
  exact ⟨rfl, below_then HBB.out HK7.out⟩

set_option maxHeartbeats 8000000 in
set_option maxRecDepth 100000 in
theorem leaves_10 {k r c q : Int} {N W : Nat} {y : Int} (h : Par k r c q N W y) (w : World) (ro : Option Addr) (n rc : Nat) (R V : Nat → Int) (hR : Rec w ro n rc R V) (bo : Option Addr) (m bc : Nat) (F : Nat → UInt8) (hB : Bec w bo m bc F) (b : Int) (hn : n ≤ 500) (hm : m ≤ 5000) {E1 E2 : Int} (hE1 : erL y W q n R V = E1) (hz1 : E1 = 0) (hE2 : erR y W q m b F = E2) (hz2 : E2 ≠ 0) :
    Calls Try.prog 7 #[.agg #[.int .i64 k, .int .i64 r, .int .i64 c, .int .i64 q], .slice ro n rc, .slice bo m bc, .int .i64 b] w fun e w' => e = .returned (.bool true) ∧ Below w.heap.size w w' := by
  have C1 := fun v hv => DLeaf_any h v ro n rc R V hv E1 hE1
  have C3 := fun v hv => Refs_any h v bo m bc F hv b E2 hE2
  unfold AnsB at C1
  unfold AnsR at C3
  have HR : Hid (Rec w ro n rc R V) := hR
  have HB : Hid (Bec w bo m bc F) := hB
  subst hz1
  obtain ⟨rfl, hn1, hn2, hok⟩ := erL_of hE1
  obtain ⟨hmy, hW, hW2, hq⟩ := h.fine
  have hlr := lea_room W
  obtain ⟨g1, g5⟩ := leaf_back (W := W) (F := lfB n R V) hq (by omega) hok (fun _ _ => rfl)
  have C2 := fun v co cc hv => Refs_any h v co W cc (lfB n R V) hv (n : Int) 0 (by unfold erR; rw [if_pos rfl, if_pos rfl, if_neg (by omega), Int.toNat_natCast, if_pos g1])
  unfold AnsR at C2
  rw [Int.toNat_natCast] at C2
  simp only [lenE_zero] at C1 C2
  have HBK : Hid (∀ i, i < n → rdR (lfB n R V) 0 i = R i ∧ rdV (lfB n R V) 0 i = V i) := g5
  have CS := fun v xo xc hx hr => SameRefs_any v xo n xc ro rc R V hx hr (by omega)
  clear g1 g5 hmy hq hok hE1 hlr hn1 hn2
  have e2 : (E2 != 0) = true := by simpa using hz2
  simp only [lenE_not hz2] at C3
  clear hE2
  clear h hR hB
  obtain ⟨w1, hw1⟩ : ∃ w1, w1 = w.alloc (.cells #[.int .i64 k, .int .i64 r, .int .i64 c, .int .i64 q] 24) := ⟨_, rfl⟩
  have b1 : Below w.heap.size w w1 := by rw [hw1]; exact below_alloc _ _
  have HBB : Hid (Below w.heap.size w w1) := b1
  have HP : Hid (∀ u, Below w1.heap.size w1 u → u.cell? ⟨w.heap.size, 0, none⟩ = some (.int .i64 k) ∧ u.cell? ⟨w.heap.size, 1, none⟩ = some (.int .i64 r) ∧ u.cell? ⟨w.heap.size, 2, none⟩ = some (.int .i64 c) ∧ u.cell? ⟨w.heap.size, 3, none⟩ = some (.int .i64 q)) := fun u hu => par_held hw1 hu
  go_enter Try.func7, Try.ntmps7
  go_wp2_with fail
  rw [← hw1]
  clear hw1 b1
  refine (alive_any _).mono ?_
  rintro e wa ⟨rfl, ha⟩
  have HK : Hid (Below w1.heap.size w1 wa) := ha
  clear ha
  obtain ⟨p0, p1, p2, p3⟩ := HP.out _ HK.out
  go_wp2_with fail
  refine (C1 _ (HR.out.below (below_then HBB.out HK.out))).mono ?_
  rintro e wb ⟨co, cc, rfl, hco, hb⟩
  have HK2 : Hid (Below w1.heap.size w1 wb) := below_then HK.out hb
  have HC : Hid (OwU wa.heap.size wb co W cc (lfB n R V)) := hco
  clear hb hco p0 p1 p2 p3
  clear HK
  have HK := HK2
  obtain ⟨p0, p1, p2, p3⟩ := HP.out _ HK.out
  go_wp2_with fail
  refine (C2 _ _ _ HC.out.bec).mono ?_
  rintro e wd ⟨xo, xc, rfl, hox, hd⟩
  have HX : Hid (RdR wd xo n R V) := (hox.congr HBK.out).rec.rd
  have HK4 : Hid (Below w1.heap.size w1 wd) := below_then HK.out hd
  clear hd hox p0 p1 p2 p3
  go_wp2_with fail
  refine (CS wd xo xc HX.out (HR.out.rd.below (below_then HBB.out HK4.out))).mono ?_
  rintro e wf ⟨rfl, hf⟩
  have HK5 : Hid (Below w1.heap.size w1 wf) := below_then HK4.out hf
  clear hf
  clear HK
  have HK := HK5
  obtain ⟨p0, p1, p2, p3⟩ := HP.out _ HK.out
  go_wp2_with fail
  refine (C3 _ (HB.out.below (below_then HBB.out HK.out))).mono ?_
  rintro e wg ⟨zo, zc, rfl, hoz, hg⟩
  have HK6 : Hid (Below w1.heap.size w1 wg) := below_then HK.out hg
  clear hg p0 p1 p2 p3
  go_wp2_with fail
  go_ret
  exact ⟨rfl, below_then HBB.out HK6.out⟩

set_option maxHeartbeats 8000000 in
set_option maxRecDepth 100000 in
theorem leaves_11 {k r c q : Int} {N W : Nat} {y : Int} (h : Par k r c q N W y) (w : World) (ro : Option Addr) (n rc : Nat) (R V : Nat → Int) (hR : Rec w ro n rc R V) (bo : Option Addr) (m bc : Nat) (F : Nat → UInt8) (hB : Bec w bo m bc F) (b : Int) (hn : n ≤ 500) (hm : m ≤ 5000) {E1 E2 : Int} (hE1 : erL y W q n R V = E1) (hz1 : E1 = 0) (hE2 : erR y W q m b F = E2) (hz2 : E2 = 0) :
    Calls Try.prog 7 #[.agg #[.int .i64 k, .int .i64 r, .int .i64 c, .int .i64 q], .slice ro n rc, .slice bo m bc, .int .i64 b] w fun e w' => e = .returned (.bool true) ∧ Below w.heap.size w w' := by
  have C1 := fun v hv => DLeaf_any h v ro n rc R V hv E1 hE1
  have C3 := fun v hv => Refs_any h v bo m bc F hv b E2 hE2
  unfold AnsB at C1
  unfold AnsR at C3
  have HR : Hid (Rec w ro n rc R V) := hR
  have HB : Hid (Bec w bo m bc F) := hB
  subst hz1
  obtain ⟨rfl, hn1, hn2, hok⟩ := erL_of hE1
  obtain ⟨hmy, hW, hW2, hq⟩ := h.fine
  have hlr := lea_room W
  obtain ⟨g1, g5⟩ := leaf_back (W := W) (F := lfB n R V) hq (by omega) hok (fun _ _ => rfl)
  have C2 := fun v co cc hv => Refs_any h v co W cc (lfB n R V) hv (n : Int) 0 (by unfold erR; rw [if_pos rfl, if_pos rfl, if_neg (by omega), Int.toNat_natCast, if_pos g1])
  unfold AnsR at C2
  rw [Int.toNat_natCast] at C2
  simp only [lenE_zero] at C1 C2
  have HBK : Hid (∀ i, i < n → rdR (lfB n R V) 0 i = R i ∧ rdV (lfB n R V) 0 i = V i) := g5
  have CS := fun v xo xc hx hr => SameRefs_any v xo n xc ro rc R V hx hr (by omega)
  clear g1 g5 hmy hq hok hE1 hlr hn1 hn2
  subst hz2
  obtain ⟨hy0, rfl, hb1, hb2, hid⟩ := erR_of hE2
  obtain ⟨t, rfl⟩ : ∃ t : Nat, b = (t : Int) := ⟨b.toNat, by omega⟩
  rw [Int.toNat_natCast] at C3 hid
  have hok2 := (isL_true hid).1
  have C4 := fun v zo zc hv => DLeaf_any h v zo t zc (rdR F 0) (rdV F 0) hv 0 (by unfold erL; rw [if_pos rfl, if_neg (by omega), if_pos hok2])
  unfold AnsB at C4
  simp only [lenE_zero] at C3 C4
  have HEN : Hid (lsF m (lfB t (rdR F 0) (rdV F 0)) = lsF m F) := lsF_eq.2 ⟨rfl, fun j hj => lfB_rd hid hj⟩
  have htt : ((t : Int) == (t : Int)) = true := by simp
  clear hE2 hid hok2 hb1 hb2
  generalize lfB t (rdR F 0) (rdV F 0) = GG at *
  generalize rdR F 0 = RR at *
  generalize rdV F 0 = VV at *
  clear h hR hB
  obtain ⟨w1, hw1⟩ : ∃ w1, w1 = w.alloc (.cells #[.int .i64 k, .int .i64 r, .int .i64 c, .int .i64 q] 24) := ⟨_, rfl⟩
  have b1 : Below w.heap.size w w1 := by rw [hw1]; exact below_alloc _ _
  have HBB : Hid (Below w.heap.size w w1) := b1
  have HP : Hid (∀ u, Below w1.heap.size w1 u → u.cell? ⟨w.heap.size, 0, none⟩ = some (.int .i64 k) ∧ u.cell? ⟨w.heap.size, 1, none⟩ = some (.int .i64 r) ∧ u.cell? ⟨w.heap.size, 2, none⟩ = some (.int .i64 c) ∧ u.cell? ⟨w.heap.size, 3, none⟩ = some (.int .i64 q)) := fun u hu => par_held hw1 hu
  go_enter Try.func7, Try.ntmps7
  go_wp2_with fail
  rw [← hw1]
  clear hw1 b1
  refine (alive_any _).mono ?_
  rintro e wa ⟨rfl, ha⟩
  have HK : Hid (Below w1.heap.size w1 wa) := ha
  clear ha
  obtain ⟨p0, p1, p2, p3⟩ := HP.out _ HK.out
  go_wp2_with fail
  refine (C1 _ (HR.out.below (below_then HBB.out HK.out))).mono ?_
  rintro e wb ⟨co, cc, rfl, hco, hb⟩
  have HK2 : Hid (Below w1.heap.size w1 wb) := below_then HK.out hb
  have HC : Hid (OwU wa.heap.size wb co m cc (lfB n R V)) := hco
  clear hb hco p0 p1 p2 p3
  clear HK
  have HK := HK2
  obtain ⟨p0, p1, p2, p3⟩ := HP.out _ HK.out
  go_wp2_with fail
  refine (C2 _ _ _ HC.out.bec).mono ?_
  rintro e wd ⟨xo, xc, rfl, hox, hd⟩
  have HX : Hid (RdR wd xo n R V) := (hox.congr HBK.out).rec.rd
  have HK4 : Hid (Below w1.heap.size w1 wd) := below_then HK.out hd
  clear hd hox p0 p1 p2 p3
  go_wp2_with fail
  refine (CS wd xo xc HX.out (HR.out.rd.below (below_then HBB.out HK4.out))).mono ?_
  rintro e wf ⟨rfl, hf⟩
  have HK5 : Hid (Below w1.heap.size w1 wf) := below_then HK4.out hf
  clear hf
  clear HK
  have HK := HK5
  obtain ⟨p0, p1, p2, p3⟩ := HP.out _ HK.out
  go_wp2_with fail
  refine (C3 _ (HB.out.below (below_then HBB.out HK.out))).mono ?_
  rintro e wg ⟨zo, zc, rfl, hoz, hg⟩
  have HK6 : Hid (Below w1.heap.size w1 wg) := below_then HK.out hg
  clear hg p0 p1 p2 p3
  have HZR : Hid (Rec wg zo t zc RR VV) := hoz.rec
  clear hoz
  obtain ⟨p0, p1, p2, p3⟩ := HP.out _ HK6.out
  go_wp2_with fail
  refine (C4 _ _ _ HZR.out).mono ?_
  rintro e wi ⟨yo, yc, rfl, hoy, hi⟩
  have HK7 : Hid (Below w1.heap.size w1 wi) := below_then HK6.out hi
  have v1 : (convert 29 9 (.slice yo m yc)).run Try.prog wi = .ok (.string (sOf (lsF m F))) wi := by rw [← HEN.out]; exact conv_any hoy.bec
  have v2 : (convert 29 9 (.slice bo m bc)).run Try.prog wi = .ok (.string (sOf (lsF m F))) wi := conv_any (HB.out.below (below_then HBB.out HK7.out))
  clear hi hoy
  go_wp2_with fail
  go_ret
  exact ⟨rfl, below_then HBB.out HK7.out⟩

theorem leaves_law (k r c q : Int) (w : World) (ro : Option Addr) (n rc : Nat) (R V : Nat → Int) (hR : Rec w ro n rc R V) (bo : Option Addr) (m bc : Nat) (F : Nat → UInt8) (hB : Bec w bo m bc F) (b : Int) :
    Calls Try.prog 7 #[.agg #[.int .i64 k, .int .i64 r, .int .i64 c, .int .i64 q], .slice ro n rc, .slice bo m bc, .int .i64 b] w fun e w' => e = .returned (.bool true) ∧ Below w.heap.size w w' := by
  by_cases hl : 500 < n ∨ 5000 < m
  · exact leaves_long k r c q w ro n rc bo m bc b hl
  · obtain ⟨N, W, y, h⟩ := par_any k r c q
    by_cases h1 : erL y W q n R V = 0
    · by_cases h2 : erR y W q m b F = 0
      · exact leaves_11 h w ro n rc R V hR bo m bc F hB b (by omega) (by omega) rfl h1 rfl h2
      · exact leaves_10 h w ro n rc R V hR bo m bc F hB b (by omega) (by omega) rfl h1 rfl h2
    · by_cases h2 : erR y W q m b F = 0
      · exact leaves_01 h w ro n rc R V hR bo m bc F hB b (by omega) (by omega) rfl h1 rfl h2
      · exact leaves_00 h w ro n rc R V hR bo m bc F hB b (by omega) (by omega) rfl h1 rfl h2
end Go.Proofs.Ytjncnojplkljnaa
