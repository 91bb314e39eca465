/- DescBack: a descriptor that is written is read back as it was, and the other way round. -/
import Derived.Test.YtjncnojplkljnaaDsO
namespace Go.Proofs.Ytjncnojplkljnaa
open Go.RowKit

set_option maxHeartbeats 8000000 in
set_option maxRecDepth 100000 in
theorem back_long (k r c q : Int) (w : World) (len dep : Int) (ro : Option Addr) (n rc : Nat) (bo : Option Addr) (m bc : Nat) (hn : 500 < n ∨ 5000 < m) :
    Calls Try.prog 6 #[.agg #[.int .i64 k, .int .i64 r, .int .i64 c, .int .i64 q], .agg #[.int .i64 len, .int .i64 dep, .slice ro n rc], .slice bo m bc] w fun e w' => e = .returned (.bool true) ∧ Below w.heap.size w w' := by
  obtain ⟨w0, hw0⟩ : ∃ w0, w0 = w.alloc (.cells #[.int .i64 k, .int .i64 r, .int .i64 c, .int .i64 q] 24) := ⟨_, rfl⟩
  obtain ⟨w1, hw1⟩ : ∃ w1, w1 = w0.alloc (.cells #[.int .i64 len, .int .i64 dep, .slice ro n rc] 35) := ⟨_, rfl⟩
  have b0 : Below w.heap.size w w0 := by rw [hw0]; exact below_alloc _ _
  have b1 : Below w0.heap.size w0 w1 := by rw [hw1]; exact below_alloc _ _
  have z0 : w0.heap.size = w.heap.size + 1 := by rw [hw0]; simp
  have HBB : Hid (Below w.heap.size w w1) := below_then b0 b1
  have HP : Hid (∀ u, Below w1.heap.size w1 u → (u.cell? ⟨w.heap.size, 0, none⟩ = some (.int .i64 k) ∧ u.cell? ⟨w.heap.size, 1, none⟩ = some (.int .i64 r) ∧ u.cell? ⟨w.heap.size, 2, none⟩ = some (.int .i64 c) ∧ u.cell? ⟨w.heap.size, 3, none⟩ = some (.int .i64 q)) ∧ u.cell? ⟨w.heap.size + 1, 0, none⟩ = some (.int .i64 len) ∧ u.cell? ⟨w.heap.size + 1, 1, none⟩ = some (.int .i64 dep) ∧ u.cell? ⟨w.heap.size + 1, 2, none⟩ = some (.slice ro n rc)) := fun u hu => ⟨par_held hw0 (below_then b1 hu), by rw [← z0]; exact ⟨blk_held hw1 hu 0 rfl, blk_held hw1 hu 1 rfl, blk_held hw1 hu 2 rfl⟩⟩
  by_cases h1 : 500 < n
  · clear hn
    go_enter Try.func6, Try.ntmps6
    go_wp2_with fail
    rw [← hw0, ← hw1]
    clear hw0 hw1 z0 b0 b1
    refine (alive_any _).mono ?_
    rintro e wa ⟨rfl, ha⟩
    have HK : Hid (Below w1.heap.size w1 wa) := ha
    clear ha
    obtain ⟨⟨p0, p1, p2, p3⟩, d0, d1, d2⟩ := HP.out _ HK.out
    go_wp2_with fail
    go_ret
    exact ⟨rfl, below_then HBB.out HK.out⟩
  · have h2 : 5000 < m := by omega
    clear hn
    go_enter Try.func6, Try.ntmps6
    go_wp2_with fail
    rw [← hw0, ← hw1]
    clear hw0 hw1 z0 b0 b1
    refine (alive_any _).mono ?_
    rintro e wa ⟨rfl, ha⟩
    have HK : Hid (Below w1.heap.size w1 wa) := ha
    clear ha
    obtain ⟨⟨p0, p1, p2, p3⟩, d0, d1, d2⟩ := HP.out _ HK.out
    go_wp2_with fail
    go_ret
    exact ⟨rfl, below_then HBB.out HK.out⟩

set_option maxHeartbeats 8000000 in
set_option maxRecDepth 100000 in
theorem back_00 {k r c q : Int} {N W : Nat} {y : Int} (h : Par k r c q N W y) (w : World) (len dep : Int) (ro : Option Addr) (n rc : Nat) (R V : Nat → Int) (hR : Rec w ro n rc R V) (bo : Option Addr) (m bc : Nat) (F : Nat → UInt8) (hB : Bec w bo m bc F) (hn : n ≤ 500) (hm : m ≤ 5000) {E1 E2 : Int} (hE1 : erD y W q len dep n R V = E1) (hz1 : E1 ≠ 0) (hE2 : erB y W q m F = E2) (hz2 : E2 ≠ 0) :
    Calls Try.prog 6 #[.agg #[.int .i64 k, .int .i64 r, .int .i64 c, .int .i64 q], .agg #[.int .i64 len, .int .i64 dep, .slice ro n rc], .slice bo m bc] w fun e w' => e = .returned (.bool true) ∧ Below w.heap.size w w' := by
  have C1 := fun v hv => Bytes_any h v len dep ro n rc R V hv E1 hE1
  have C3 := fun v hv => Parse_any h v bo m bc F hv E2 hE2
  unfold AnsB at C1
  unfold AnsD at C3
  have HR : Hid (Rec w ro n rc R V) := hR
  have HB : Hid (Bec w bo m bc F) := hB
  have e1 : (E1 == 0) = false := by simpa using hz1
  simp only [lenE_not hz1] at C1
  clear hE1
  have e2 : (E2 != 0) = true := by simpa using hz2
  simp only [lenE_not hz2, lenI_not hz2] at C3
  clear hE2
  clear h hR hB
  obtain ⟨w0, hw0⟩ : ∃ w0, w0 = w.alloc (.cells #[.int .i64 k, .int .i64 r, .int .i64 c, .int .i64 q] 24) := ⟨_, rfl⟩
  obtain ⟨w1, hw1⟩ : ∃ w1, w1 = w0.alloc (.cells #[.int .i64 len, .int .i64 dep, .slice ro n rc] 35) := ⟨_, rfl⟩
  have b0 : Below w.heap.size w w0 := by rw [hw0]; exact below_alloc _ _
  have b1 : Below w0.heap.size w0 w1 := by rw [hw1]; exact below_alloc _ _
  have z0 : w0.heap.size = w.heap.size + 1 := by rw [hw0]; simp
  have HBB : Hid (Below w.heap.size w w1) := below_then b0 b1
  have HP : Hid (∀ u, Below w1.heap.size w1 u → (u.cell? ⟨w.heap.size, 0, none⟩ = some (.int .i64 k) ∧ u.cell? ⟨w.heap.size, 1, none⟩ = some (.int .i64 r) ∧ u.cell? ⟨w.heap.size, 2, none⟩ = some (.int .i64 c) ∧ u.cell? ⟨w.heap.size, 3, none⟩ = some (.int .i64 q)) ∧ u.cell? ⟨w.heap.size + 1, 0, none⟩ = some (.int .i64 len) ∧ u.cell? ⟨w.heap.size + 1, 1, none⟩ = some (.int .i64 dep) ∧ u.cell? ⟨w.heap.size + 1, 2, none⟩ = some (.slice ro n rc)) := fun u hu => ⟨par_held hw0 (below_then b1 hu), by rw [← z0]; exact ⟨blk_held hw1 hu 0 rfl, blk_held hw1 hu 1 rfl, blk_held hw1 hu 2 rfl⟩⟩
  go_enter Try.func6, Try.ntmps6
  go_wp2_with fail
  rw [← hw0, ← hw1]
  clear hw0 hw1 z0 b0 b1
  refine (alive_any _).mono ?_
  rintro e wa ⟨rfl, ha⟩
  have HK : Hid (Below w1.heap.size w1 wa) := ha
  clear ha
  obtain ⟨⟨p0, p1, p2, p3⟩, d0, d1, d2⟩ := HP.out _ HK.out
  go_wp2_with fail
  refine (C1 _ (HR.out.below (below_then HBB.out HK.out))).mono ?_
  rintro e wb ⟨co, cc, rfl, hco, hb⟩
  have HK2 : Hid (Below w1.heap.size w1 wb) := below_then HK.out hb
  clear hb hco p0 p1 p2 p3 d0 d1 d2
  clear HK
  have HK := HK2
  obtain ⟨⟨p0, p1, p2, p3⟩, d0, d1, d2⟩ := HP.out _ HK.out
  go_wp2_with fail
  refine (C3 _ (HB.out.below (below_then HBB.out HK.out))).mono ?_
  rintro e wg ⟨zo, zc, rfl, hoz, hg⟩
  have HK6 : Hid (Below w1.heap.size w1 wg) := below_then HK.out hg
  clear hg
  go_wp2_with fail
  go_ret
  exact ⟨rfl, below_then (below_then HBB.out HK6.out) (below_alloc _ _)⟩

set_option maxHeartbeats 8000000 in
set_option maxRecDepth 100000 in
theorem back_01 {k r c q : Int} {N W : Nat} {y : Int} (h : Par k r c q N W y) (w : World) (len dep : Int) (ro : Option Addr) (n rc : Nat) (R V : Nat → Int) (hR : Rec w ro n rc R V) (bo : Option Addr) (m bc : Nat) (F : Nat → UInt8) (hB : Bec w bo m bc F) (hn : n ≤ 500) (hm : m ≤ 5000) {E1 E2 : Int} (hE1 : erD y W q len dep n R V = E1) (hz1 : E1 ≠ 0) (hE2 : erB y W q m F = E2) (hz2 : E2 = 0) :
    Calls Try.prog 6 #[.agg #[.int .i64 k, .int .i64 r, .int .i64 c, .int .i64 q], .agg #[.int .i64 len, .int .i64 dep, .slice ro n rc], .slice bo m bc] w fun e w' => e = .returned (.bool true) ∧ Below w.heap.size w w' := by
  have C1 := fun v hv => Bytes_any h v len dep ro n rc R V hv E1 hE1
  have C3 := fun v hv => Parse_any h v bo m bc F hv E2 hE2
  unfold AnsB at C1
  unfold AnsD at C3
  have HR : Hid (Rec w ro n rc R V) := hR
  have HB : Hid (Bec w bo m bc F) := hB
  have e1 : (E1 == 0) = false := by simpa using hz1
  simp only [lenE_not hz1] at C1
  clear hE1
  subst hz2
  obtain ⟨hy0, rfl, hid⟩ := erB_of hE2
  subst hy0
  have hok2 := (isD_true hid).1
  have C4 := fun v zo zc hv => Bytes_any h v ((nm F 0 4 : Nat) : Int) ((nm F 4 1 : Nat) : Int) zo (nm F 5 2) zc (rdR F 7) (rdV F 7) hv 0 (by unfold erD; rw [if_pos rfl, if_pos hok2])
  unfold AnsB at C4
  simp only [lenE_zero, lenI_zero] at C3 C4
  have HEN : Hid (lsF m (deB ((nm F 0 4 : Nat) : Int) ((nm F 4 1 : Nat) : Int) (nm F 5 2) (rdR F 7) (rdV F 7)) = lsF m F) := lsF_eq.2 ⟨rfl, fun j hj => desc_again hid hj⟩
  clear hE2 hid hok2
  generalize deB ((nm F 0 4 : Nat) : Int) ((nm F 4 1 : Nat) : Int) (nm F 5 2) (rdR F 7) (rdV F 7) = GG at *
  generalize ((nm F 0 4 : Nat) : Int) = A at *
  generalize ((nm F 4 1 : Nat) : Int) = D at *
  generalize nm F 5 2 = M at *
  generalize rdR F 7 = RR at *
  generalize rdV F 7 = VV at *
  clear h hR hB
  obtain ⟨w0, hw0⟩ : ∃ w0, w0 = w.alloc (.cells #[.int .i64 k, .int .i64 r, .int .i64 c, .int .i64 q] 24) := ⟨_, rfl⟩
  obtain ⟨w1, hw1⟩ : ∃ w1, w1 = w0.alloc (.cells #[.int .i64 len, .int .i64 dep, .slice ro n rc] 35) := ⟨_, rfl⟩
  have b0 : Below w.heap.size w w0 := by rw [hw0]; exact below_alloc _ _
  have b1 : Below w0.heap.size w0 w1 := by rw [hw1]; exact below_alloc _ _
  have z0 : w0.heap.size = w.heap.size + 1 := by rw [hw0]; simp
  have HBB : Hid (Below w.heap.size w w1) := below_then b0 b1
  have HP : Hid (∀ u, Below w1.heap.size w1 u → (u.cell? ⟨w.heap.size, 0, none⟩ = some (.int .i64 k) ∧ u.cell? ⟨w.heap.size, 1, none⟩ = some (.int .i64 r) ∧ u.cell? ⟨w.heap.size, 2, none⟩ = some (.int .i64 c) ∧ u.cell? ⟨w.heap.size, 3, none⟩ = some (.int .i64 q)) ∧ u.cell? ⟨w.heap.size + 1, 0, none⟩ = some (.int .i64 len) ∧ u.cell? ⟨w.heap.size + 1, 1, none⟩ = some (.int .i64 dep) ∧ u.cell? ⟨w.heap.size + 1, 2, none⟩ = some (.slice ro n rc)) := fun u hu => ⟨par_held hw0 (below_then b1 hu), by rw [← z0]; exact ⟨blk_held hw1 hu 0 rfl, blk_held hw1 hu 1 rfl, blk_held hw1 hu 2 rfl⟩⟩
  go_enter Try.func6, Try.ntmps6
  go_wp2_with fail
  rw [← hw0, ← hw1]
  clear hw0 hw1 z0 b0 b1
  refine (alive_any _).mono ?_
  rintro e wa ⟨rfl, ha⟩
  have HK : Hid (Below w1.heap.size w1 wa) := ha
  clear ha
  obtain ⟨⟨p0, p1, p2, p3⟩, d0, d1, d2⟩ := HP.out _ HK.out
  go_wp2_with fail
  refine (C1 _ (HR.out.below (below_then HBB.out HK.out))).mono ?_
  rintro e wb ⟨co, cc, rfl, hco, hb⟩
  have HK2 : Hid (Below w1.heap.size w1 wb) := below_then HK.out hb
  clear hb hco p0 p1 p2 p3 d0 d1 d2
  clear HK
  have HK := HK2
  obtain ⟨⟨p0, p1, p2, p3⟩, d0, d1, d2⟩ := HP.out _ HK.out
  go_wp2_with fail
  refine (C3 _ (HB.out.below (below_then HBB.out HK.out))).mono ?_
  rintro e wg ⟨zo, zc, rfl, hoz, hg⟩
  obtain ⟨wh, hwh⟩ : ∃ wh, wh = wg.alloc (.cells #[.int .i64 A, .int .i64 D, .slice zo M zc] 35) := ⟨_, rfl⟩
  have bh : Below wg.heap.size wg wh := by rw [hwh]; exact below_alloc _ _
  have HZR : Hid (Rec wh zo M zc RR VV) := (hoz.below bh).rec
  have HK6 : Hid (Below w1.heap.size w1 wh) := below_then (below_then HK.out hg) bh
  clear hoz p0 p1 p2 p3 d0 d1 d2
  obtain ⟨⟨p0, p1, p2, p3⟩, d0, d1, d2⟩ := HP.out _ (below_then HK.out hg)
  have P0 := fun o => held p0 (below_alloc wg o)
  have P1 := fun o => held p1 (below_alloc wg o)
  have P2 := fun o => held p2 (below_alloc wg o)
  have P3 := fun o => held p3 (below_alloc wg o)
  clear hg bh
  go_wp2_with fail
  rw [← hwh]
  clear hwh P0 P1 P2 P3
  refine (C4 _ _ _ HZR.out).mono ?_
  rintro e wi ⟨yo, yc, rfl, hoy, hi⟩
  have HK7 : Hid (Below w1.heap.size w1 wi) := below_then HK6.out hi
  have v1 : (convert 29 9 (.slice yo m yc)).run Try.prog wi = .ok (.string (sOf (lsF m F))) wi := by rw [← HEN.out]; exact conv_any hoy.bec
  have v2 : (convert 29 9 (.slice bo m bc)).run Try.prog wi = .ok (.string (sOf (lsF m F))) wi := conv_any (HB.out.below (below_then HBB.out HK7.out))
  clear hi hoy
  go_wp2_with fail
  go_ret
  exact ⟨rfl, below_then HBB.out HK7.out⟩

set_option maxHeartbeats 8000000 in
set_option maxRecDepth 100000 in
theorem back_10 {k r c q : Int} {N W : Nat} {y : Int} (h : Par k r c q N W y) (w : World) (len dep : Int) (ro : Option Addr) (n rc : Nat) (R V : Nat → Int) (hR : Rec w ro n rc R V) (bo : Option Addr) (m bc : Nat) (F : Nat → UInt8) (hB : Bec w bo m bc F) (hn : n ≤ 500) (hm : m ≤ 5000) {E1 E2 : Int} (hE1 : erD y W q len dep n R V = E1) (hz1 : E1 = 0) (hE2 : erB y W q m F = E2) (hz2 : E2 ≠ 0) :
    Calls Try.prog 6 #[.agg #[.int .i64 k, .int .i64 r, .int .i64 c, .int .i64 q], .agg #[.int .i64 len, .int .i64 dep, .slice ro n rc], .slice bo m bc] w fun e w' => e = .returned (.bool true) ∧ Below w.heap.size w w' := by
  have C1 := fun v hv => Bytes_any h v len dep ro n rc R V hv E1 hE1
  have C3 := fun v hv => Parse_any h v bo m bc F hv E2 hE2
  unfold AnsB at C1
  unfold AnsD at C3
  have HR : Hid (Rec w ro n rc R V) := hR
  have HB : Hid (Bec w bo m bc F) := hB
  subst hz1
  obtain ⟨rfl, hok⟩ := erD_of hE1
  obtain ⟨hmy, hW, hW2, hq⟩ := h.fine
  obtain ⟨g1, g2, g3, g4, g5⟩ := desc_back (F := deB len dep n R V) hW hW2 hq hok (fun _ _ => rfl)
  have CW := fun v => Width_any h v
  have C2 := fun v co cc hv => Parse_any h v co W cc (deB len dep n R V) hv 0 (by unfold erB; rw [if_pos rfl, if_pos rfl, if_pos g1])
  unfold AnsD at C2
  rw [g2, g3, g4] at C2
  simp only [lenE_zero, lenI_zero] at C1 C2
  have HBK : Hid (∀ i, i < n → rdR (deB len dep n R V) 7 i = R i ∧ rdV (deB len dep n R V) 7 i = V i) := g5
  have CS := fun v xo xc hx hr => Same_any v len dep xo n xc ro rc R V hx hr (by omega)
  have hWW : ((W : Int) != (W : Int)) = false := by simp
  clear g1 g2 g3 g4 g5 hmy hq hok hE1
  have e2 : (E2 != 0) = true := by simpa using hz2
  simp only [lenE_not hz2, lenI_not hz2] at C3
  clear hE2
  clear h hR hB
  obtain ⟨w0, hw0⟩ : ∃ w0, w0 = w.alloc (.cells #[.int .i64 k, .int .i64 r, .int .i64 c, .int .i64 q] 24) := ⟨_, rfl⟩
  obtain ⟨w1, hw1⟩ : ∃ w1, w1 = w0.alloc (.cells #[.int .i64 len, .int .i64 dep, .slice ro n rc] 35) := ⟨_, rfl⟩
  have b0 : Below w.heap.size w w0 := by rw [hw0]; exact below_alloc _ _
  have b1 : Below w0.heap.size w0 w1 := by rw [hw1]; exact below_alloc _ _
  have z0 : w0.heap.size = w.heap.size + 1 := by rw [hw0]; simp
  have HBB : Hid (Below w.heap.size w w1) := below_then b0 b1
  have HP : Hid (∀ u, Below w1.heap.size w1 u → (u.cell? ⟨w.heap.size, 0, none⟩ = some (.int .i64 k) ∧ u.cell? ⟨w.heap.size, 1, none⟩ = some (.int .i64 r) ∧ u.cell? ⟨w.heap.size, 2, none⟩ = some (.int .i64 c) ∧ u.cell? ⟨w.heap.size, 3, none⟩ = some (.int .i64 q)) ∧ u.cell? ⟨w.heap.size + 1, 0, none⟩ = some (.int .i64 len) ∧ u.cell? ⟨w.heap.size + 1, 1, none⟩ = some (.int .i64 dep) ∧ u.cell? ⟨w.heap.size + 1, 2, none⟩ = some (.slice ro n rc)) := fun u hu => ⟨par_held hw0 (below_then b1 hu), by rw [← z0]; exact ⟨blk_held hw1 hu 0 rfl, blk_held hw1 hu 1 rfl, blk_held hw1 hu 2 rfl⟩⟩
  go_enter Try.func6, Try.ntmps6
  go_wp2_with fail
  rw [← hw0, ← hw1]
  clear hw0 hw1 z0 b0 b1
  refine (alive_any _).mono ?_
  rintro e wa ⟨rfl, ha⟩
  have HK : Hid (Below w1.heap.size w1 wa) := ha
  clear ha
  obtain ⟨⟨p0, p1, p2, p3⟩, d0, d1, d2⟩ := HP.out _ HK.out
  go_wp2_with fail
  refine (C1 _ (HR.out.below (below_then HBB.out HK.out))).mono ?_
  rintro e wb ⟨co, cc, rfl, hco, hb⟩
  have HK2 : Hid (Below w1.heap.size w1 wb) := below_then HK.out hb
  have HC : Hid (OwU wa.heap.size wb co W cc (deB len dep n R V)) := hco
  clear hb hco p0 p1 p2 p3 d0 d1 d2
  clear HK
  have HK := HK2
  obtain ⟨⟨p0, p1, p2, p3⟩, d0, d1, d2⟩ := HP.out _ HK.out
  go_wp2_with fail
  refine (CW _).mono ?_
  rintro e wc ⟨rfl, hc⟩
  have HC3 : Hid (OwU wa.heap.size wc co W cc (deB len dep n R V)) := HC.out.below hc
  have HK3 : Hid (Below w1.heap.size w1 wc) := below_then HK.out hc
  clear hc p0 p1 p2 p3 d0 d1 d2
  clear HK
  have HK := HK3
  obtain ⟨⟨p0, p1, p2, p3⟩, d0, d1, d2⟩ := HP.out _ HK.out
  go_wp2_with fail
  refine (C2 _ _ _ HC3.out.bec).mono ?_
  rintro e wd ⟨xo, xc, rfl, hox, hd⟩
  obtain ⟨we, hwe⟩ : ∃ we, we = wd.alloc (.cells #[.int .i64 len, .int .i64 dep, .slice xo n xc] 35) := ⟨_, rfl⟩
  have be : Below wd.heap.size wd we := by rw [hwe]; exact below_alloc _ _
  have HX : Hid (RdR we xo n R V) := ((hox.below be).congr HBK.out).rec.rd
  have HK4 : Hid (Below w1.heap.size w1 we) := below_then (below_then HK.out hd) be
  have HKD : Hid (Below w1.heap.size w1 wd) := below_then HK.out hd
  clear hd be hox p0 p1 p2 p3 d0 d1 d2
  obtain ⟨⟨p0, p1, p2, p3⟩, d0, d1, d2⟩ := HP.out _ HKD.out
  have D0 := fun o => held d0 (below_alloc wd o)
  have D1 := fun o => held d1 (below_alloc wd o)
  have D2 := fun o => held d2 (below_alloc wd o)
  go_wp2_with fail
  rw [← hwe]
  clear hwe D0 D1 D2
  refine (CS we xo xc HX.out (HR.out.rd.below (below_then HBB.out HK4.out))).mono ?_
  rintro e wf ⟨rfl, hf⟩
  have HK5 : Hid (Below w1.heap.size w1 wf) := below_then HK4.out hf
  clear hf p0 p1 p2 p3 d0 d1 d2
  clear HK
  have HK := HK5
  obtain ⟨⟨p0, p1, p2, p3⟩, d0, d1, d2⟩ := HP.out _ HK.out
  go_wp2_with fail
  refine (C3 _ (HB.out.below (below_then HBB.out HK.out))).mono ?_
  rintro e wg ⟨zo, zc, rfl, hoz, hg⟩
  have HK6 : Hid (Below w1.heap.size w1 wg) := below_then HK.out hg
  clear hg
  go_wp2_with fail
  go_ret
  exact ⟨rfl, below_then (below_then HBB.out HK6.out) (below_alloc _ _)⟩

set_option maxHeartbeats 8000000 in
set_option maxRecDepth 100000 in
theorem back_11 {k r c q : Int} {N W : Nat} {y : Int} (h : Par k r c q N W y) (w : World) (len dep : Int) (ro : Option Addr) (n rc : Nat) (R V : Nat → Int) (hR : Rec w ro n rc R V) (bo : Option Addr) (m bc : Nat) (F : Nat → UInt8) (hB : Bec w bo m bc F) (hn : n ≤ 500) (hm : m ≤ 5000) {E1 E2 : Int} (hE1 : erD y W q len dep n R V = E1) (hz1 : E1 = 0) (hE2 : erB y W q m F = E2) (hz2 : E2 = 0) :
    Calls Try.prog 6 #[.agg #[.int .i64 k, .int .i64 r, .int .i64 c, .int .i64 q], .agg #[.int .i64 len, .int .i64 dep, .slice ro n rc], .slice bo m bc] w fun e w' => e = .returned (.bool true) ∧ Below w.heap.size w w' := by
  have C1 := fun v hv => Bytes_any h v len dep ro n rc R V hv E1 hE1
  have C3 := fun v hv => Parse_any h v bo m bc F hv E2 hE2
  unfold AnsB at C1
  unfold AnsD at C3
  have HR : Hid (Rec w ro n rc R V) := hR
  have HB : Hid (Bec w bo m bc F) := hB
  subst hz1
  obtain ⟨rfl, hok⟩ := erD_of hE1
  obtain ⟨hmy, hW, hW2, hq⟩ := h.fine
  obtain ⟨g1, g2, g3, g4, g5⟩ := desc_back (F := deB len dep n R V) hW hW2 hq hok (fun _ _ => rfl)
  have CW := fun v => Width_any h v
  have C2 := fun v co cc hv => Parse_any h v co W cc (deB len dep n R V) hv 0 (by unfold erB; rw [if_pos rfl, if_pos rfl, if_pos g1])
  unfold AnsD at C2
  rw [g2, g3, g4] at C2
  simp only [lenE_zero, lenI_zero] at C1 C2
  have HBK : Hid (∀ i, i < n → rdR (deB len dep n R V) 7 i = R i ∧ rdV (deB len dep n R V) 7 i = V i) := g5
  have CS := fun v xo xc hx hr => Same_any v len dep xo n xc ro rc R V hx hr (by omega)
  have hWW : ((W : Int) != (W : Int)) = false := by simp
  clear g1 g2 g3 g4 g5 hmy hq hok hE1
  subst hz2
  obtain ⟨hy0, rfl, hid⟩ := erB_of hE2
  have hok2 := (isD_true hid).1
  have C4 := fun v zo zc hv => Bytes_any h v ((nm F 0 4 : Nat) : Int) ((nm F 4 1 : Nat) : Int) zo (nm F 5 2) zc (rdR F 7) (rdV F 7) hv 0 (by unfold erD; rw [if_pos rfl, if_pos hok2])
  unfold AnsB at C4
  simp only [lenE_zero, lenI_zero] at C3 C4
  have HEN : Hid (lsF m (deB ((nm F 0 4 : Nat) : Int) ((nm F 4 1 : Nat) : Int) (nm F 5 2) (rdR F 7) (rdV F 7)) = lsF m F) := lsF_eq.2 ⟨rfl, fun j hj => desc_again hid hj⟩
  clear hE2 hid hok2
  generalize deB ((nm F 0 4 : Nat) : Int) ((nm F 4 1 : Nat) : Int) (nm F 5 2) (rdR F 7) (rdV F 7) = GG at *
  generalize ((nm F 0 4 : Nat) : Int) = A at *
  generalize ((nm F 4 1 : Nat) : Int) = D at *
  generalize nm F 5 2 = M at *
  generalize rdR F 7 = RR at *
  generalize rdV F 7 = VV at *
  clear h hR hB
  obtain ⟨w0, hw0⟩ : ∃ w0, w0 = w.alloc (.cells #[.int .i64 k, .int .i64 r, .int .i64 c, .int .i64 q] 24) := ⟨_, rfl⟩
  obtain ⟨w1, hw1⟩ : ∃ w1, w1 = w0.alloc (.cells #[.int .i64 len, .int .i64 dep, .slice ro n rc] 35) := ⟨_, rfl⟩
  have b0 : Below w.heap.size w w0 := by rw [hw0]; exact below_alloc _ _
  have b1 : Below w0.heap.size w0 w1 := by rw [hw1]; exact below_alloc _ _
  have z0 : w0.heap.size = w.heap.size + 1 := by rw [hw0]; simp
  have HBB : Hid (Below w.heap.size w w1) := below_then b0 b1
  have HP : Hid (∀ u, Below w1.heap.size w1 u → (u.cell? ⟨w.heap.size, 0, none⟩ = some (.int .i64 k) ∧ u.cell? ⟨w.heap.size, 1, none⟩ = some (.int .i64 r) ∧ u.cell? ⟨w.heap.size, 2, none⟩ = some (.int .i64 c) ∧ u.cell? ⟨w.heap.size, 3, none⟩ = some (.int .i64 q)) ∧ u.cell? ⟨w.heap.size + 1, 0, none⟩ = some (.int .i64 len) ∧ u.cell? ⟨w.heap.size + 1, 1, none⟩ = some (.int .i64 dep) ∧ u.cell? ⟨w.heap.size + 1, 2, none⟩ = some (.slice ro n rc)) := fun u hu => ⟨par_held hw0 (below_then b1 hu), by rw [← z0]; exact ⟨blk_held hw1 hu 0 rfl, blk_held hw1 hu 1 rfl, blk_held hw1 hu 2 rfl⟩⟩
  go_enter Try.func6, Try.ntmps6
  go_wp2_with fail
  rw [← hw0, ← hw1]
  clear hw0 hw1 z0 b0 b1
  refine (alive_any _).mono ?_
  rintro e wa ⟨rfl, ha⟩
  have HK : Hid (Below w1.heap.size w1 wa) := ha
  clear ha
  obtain ⟨⟨p0, p1, p2, p3⟩, d0, d1, d2⟩ := HP.out _ HK.out
  go_wp2_with fail
  refine (C1 _ (HR.out.below (below_then HBB.out HK.out))).mono ?_
  rintro e wb ⟨co, cc, rfl, hco, hb⟩
  have HK2 : Hid (Below w1.heap.size w1 wb) := below_then HK.out hb
  have HC : Hid (OwU wa.heap.size wb co m cc (deB len dep n R V)) := hco
  clear hb hco p0 p1 p2 p3 d0 d1 d2
  clear HK
  have HK := HK2
  obtain ⟨⟨p0, p1, p2, p3⟩, d0, d1, d2⟩ := HP.out _ HK.out
  go_wp2_with fail
  refine (CW _).mono ?_
  rintro e wc ⟨rfl, hc⟩
  have HC3 : Hid (OwU wa.heap.size wc co m cc (deB len dep n R V)) := HC.out.below hc
  have HK3 : Hid (Below w1.heap.size w1 wc) := below_then HK.out hc
  clear hc p0 p1 p2 p3 d0 d1 d2
  clear HK
  have HK := HK3
  obtain ⟨⟨p0, p1, p2, p3⟩, d0, d1, d2⟩ := HP.out _ HK.out
  go_wp2_with fail
  refine (C2 _ _ _ HC3.out.bec).mono ?_
  rintro e wd ⟨xo, xc, rfl, hox, hd⟩
  obtain ⟨we, hwe⟩ : ∃ we, we = wd.alloc (.cells #[.int .i64 len, .int .i64 dep, .slice xo n xc] 35) := ⟨_, rfl⟩
  have be : Below wd.heap.size wd we := by rw [hwe]; exact below_alloc _ _
  have HX : Hid (RdR we xo n R V) := ((hox.below be).congr HBK.out).rec.rd
  have HK4 : Hid (Below w1.heap.size w1 we) := below_then (below_then HK.out hd) be
  have HKD : Hid (Below w1.heap.size w1 wd) := below_then HK.out hd
  clear hd be hox p0 p1 p2 p3 d0 d1 d2
  obtain ⟨⟨p0, p1, p2, p3⟩, d0, d1, d2⟩ := HP.out _ HKD.out
  have D0 := fun o => held d0 (below_alloc wd o)
  have D1 := fun o => held d1 (below_alloc wd o)
  have D2 := fun o => held d2 (below_alloc wd o)
  go_wp2_with fail
  rw [← hwe]
  clear hwe D0 D1 D2
  refine (CS we xo xc HX.out (HR.out.rd.below (below_then HBB.out HK4.out))).mono ?_
  rintro e wf ⟨rfl, hf⟩
  have HK5 : Hid (Below w1.heap.size w1 wf) := below_then HK4.out hf
  clear hf p0 p1 p2 p3 d0 d1 d2
  clear HK
  have HK := HK5
  obtain ⟨⟨p0, p1, p2, p3⟩, d0, d1, d2⟩ := HP.out _ HK.out
  go_wp2_with fail
  refine (C3 _ (HB.out.below (below_then HBB.out HK.out))).mono ?_
  rintro e wg ⟨zo, zc, rfl, hoz, hg⟩
  obtain ⟨wh, hwh⟩ : ∃ wh, wh = wg.alloc (.cells #[.int .i64 A, .int .i64 D, .slice zo M zc] 35) := ⟨_, rfl⟩
  have bh : Below wg.heap.size wg wh := by rw [hwh]; exact below_alloc _ _
  have HZR : Hid (Rec wh zo M zc RR VV) := (hoz.below bh).rec
  have HK6 : Hid (Below w1.heap.size w1 wh) := below_then (below_then HK.out hg) bh
  clear hoz p0 p1 p2 p3 d0 d1 d2
  obtain ⟨⟨p0, p1, p2, p3⟩, d0, d1, d2⟩ := HP.out _ (below_then HK.out hg)
  have P0 := fun o => held p0 (below_alloc wg o)
  have P1 := fun o => held p1 (below_alloc wg o)
  have P2 := fun o => held p2 (below_alloc wg o)
  have P3 := fun o => held p3 (below_alloc wg o)
  clear hg bh
  go_wp2_with fail
  rw [← hwh]
  clear hwh P0 P1 P2 P3
  refine (C4 _ _ _ HZR.out).mono ?_
  rintro e wi ⟨yo, yc, rfl, hoy, hi⟩
  have HK7 : Hid (Below w1.heap.size w1 wi) := below_then HK6.out hi
  have v1 : (convert 29 9 (.slice yo m yc)).run Try.prog wi = .ok (.string (sOf (lsF m F))) wi := by rw [← HEN.out]; exact conv_any hoy.bec
  have v2 : (convert 29 9 (.slice bo m bc)).run Try.prog wi = .ok (.string (sOf (lsF m F))) wi := conv_any (HB.out.below (below_then HBB.out HK7.out))
  clear hi hoy
  go_wp2_with fail
  go_ret
  exact ⟨rfl, below_then HBB.out HK7.out⟩

theorem back_law (k r c q : Int) (w : World) (len dep : Int) (ro : Option Addr) (n rc : Nat) (R V : Nat → Int) (hR : Rec w ro n rc R V) (bo : Option Addr) (m bc : Nat) (F : Nat → UInt8) (hB : Bec w bo m bc F) :
    Calls Try.prog 6 #[.agg #[.int .i64 k, .int .i64 r, .int .i64 c, .int .i64 q], .agg #[.int .i64 len, .int .i64 dep, .slice ro n rc], .slice bo m bc] w fun e w' => e = .returned (.bool true) ∧ Below w.heap.size w w' := by
  by_cases hl : 500 < n ∨ 5000 < m
  · exact back_long k r c q w len dep ro n rc bo m bc hl
  · obtain ⟨N, W, y, h⟩ := par_any k r c q
    by_cases h1 : erD y W q len dep n R V = 0
    · by_cases h2 : erB y W q m F = 0
      · exact back_11 h w len dep ro n rc R V hR bo m bc F hB (by omega) (by omega) rfl h1 rfl h2
      · exact back_10 h w len dep ro n rc R V hR bo m bc F hB (by omega) (by omega) rfl h1 rfl h2
    · by_cases h2 : erB y W q m F = 0
      · exact back_01 h w len dep ro n rc R V hR bo m bc F hB (by omega) (by omega) rfl h1 rfl h2
      · exact back_00 h w len dep ro n rc R V hR bo m bc F hB (by omega) (by omega) rfl h1 rfl h2
end Go.Proofs.Ytjncnojplkljnaa
