/- Descriptors' and leaves' bytes, by the document. -/
import Derived.Test.YtjncnojplkljnaaDeB
import Derived.Test.YtjncnojplkljnaaDeC
import Derived.Test.YtjncnojplkljnaaDsK
namespace Go.Proofs.Ytjncnojplkljnaa
open Go.RowKit

theorem Par.may {k r c q : Int} {N W : Nat} {e : Int} (h : Par k r c q N W e) : may k r c q = decide (e = 0) := by
  rcases h with ⟨h, _, _, rfl⟩ | ⟨h, _, _, rfl⟩
  · rw [h]; rfl
  · rw [h]; rfl
set_option maxHeartbeats 4000000 in
set_option maxRecDepth 100000 in
theorem RDCheck_any {k r c q : Int} {N W : Nat} {y : Int} (h : Par k r c q N W y) (w : World) (len dep : Int) (ro : Option Addr) (n rc : Nat) (R V : Nat → Int) (hR : RdR w ro n R V) :
    Calls Try.prog 19 #[.agg #[.int .i64 k, .int .i64 r, .int .i64 c, .int .i64 q], .agg #[.int .i64 len, .int .i64 dep, .slice ro n rc]] w fun e w' => e = .returned (.int .i64 (erD y W q len dep n R V)) ∧ Below w.heap.size w w' := by
  have HM := fun v => May_any k r c q v
  rw [h.may] at HM
  have HR : Hid (RdR w ro n R V) := hR
  clear hR
  obtain ⟨w0, hw0⟩ : ∃ w0, w0 = w.alloc (.cells #[.int .i64 k, .int .i64 r, .int .i64 c, .int .i64 q] 24) := ⟨_, rfl⟩
  obtain ⟨w1, hw1⟩ : ∃ w1, w1 = w0.alloc (.cells #[.int .i64 len, .int .i64 dep, .slice ro n rc] 35) := ⟨_, rfl⟩
  have b0 : Below w.heap.size w w0 := by rw [hw0]; exact below_alloc _ _
  have b1 : Below w0.heap.size w0 w1 := by rw [hw1]; exact below_alloc _ _
  have z0 : w0.heap.size = w.heap.size + 1 := by rw [hw0]; simp
  have HBB : Hid (Below w.heap.size w w1) := below_then b0 b1
  have HP : Hid (∀ u, Below w1.heap.size w1 u → (u.cell? ⟨w.heap.size, 0, none⟩ = some (.int .i64 k) ∧ u.cell? ⟨w.heap.size, 1, none⟩ = some (.int .i64 r) ∧ u.cell? ⟨w.heap.size, 2, none⟩ = some (.int .i64 c) ∧ u.cell? ⟨w.heap.size, 3, none⟩ = some (.int .i64 q)) ∧ u.cell? ⟨w.heap.size + 1, 0, none⟩ = some (.int .i64 len) ∧ u.cell? ⟨w.heap.size + 1, 1, none⟩ = some (.int .i64 dep) ∧ u.cell? ⟨w.heap.size + 1, 2, none⟩ = some (.slice ro n rc)) := fun u hu => ⟨par_held hw0 (below_then b1 hu), by rw [← z0]; exact ⟨blk_held hw1 hu 0 rfl, blk_held hw1 hu 1 rfl, blk_held hw1 hu 2 rfl⟩⟩
  rcases h.err with rfl | rfl
  · have HD := fun v hv => DMay_any h v len dep ro n rc R V hv
    obtain ⟨ok, hok⟩ : ∃ ok, ok = okD W q len dep n R V := ⟨_, rfl⟩
    have HE : Hid (erD 0 W q len dep n R V = if ok = true then 0 else 150) := by rw [hok]; rfl
    rw [← hok] at HD
    rw [decide_eq_true rfl] at HM
    clear h hok
    cases ok
    all_goals (
      go_enter Try.func19, Try.ntmps19
      go_wp2_with fail
      rw [← hw0, ← hw1]
      clear hw0 hw1 z0 b0 b1
      refine (HM _).mono ?_
      rintro e wa ⟨rfl, ha⟩
      obtain ⟨⟨p0, p1, p2, p3⟩, d0, d1, d2⟩ := HP.out _ ha
      go_wp2_with fail
      refine (HD _ (HR.out.below (below_then HBB.out ha))).mono ?_
      rintro e wb ⟨rfl, hb⟩
      go_wp2_with fail
      go_ret
      exact ⟨by rw [HE.out]; rfl, below_then (below_then HBB.out ha) hb⟩)
  · have HE : Hid (erD 2 W q len dep n R V = 2) := rfl
    rw [decide_eq_false (by decide)] at HM
    clear h
    go_enter Try.func19, Try.ntmps19
    go_wp2_with fail
    rw [← hw0, ← hw1]
    clear hw0 hw1 z0 b0 b1
    refine (HM _).mono ?_
    rintro e wa ⟨rfl, ha⟩
    go_wp2_with fail
    go_ret
    exact ⟨by rw [HE.out]; rfl, below_then HBB.out ha⟩
theorem made_bytesD {A E n : Nat} {len dep : Int} {R V : Nat → Int} (hA : len = (A : Int)) (hE : dep = (E : Int)) (j : Nat) : upR (fun _ => 0) 0 (4 + 1 + 2 + 6 * n) (upR (upR (upR (fun j => dg A (4 - 1 - j)) 4 1 (fun _ => dg E 0)) (4 + 1) 2 (fun j => dg n (2 - 1 - j))) (4 + 1 + 2) (6 * n) (rfB R V)) j = deB len dep n R V j := by
  subst hA
  subst hE
  unfold deB lfB
  rw [Int.toNat_natCast, Int.toNat_natCast]
  by_cases h4 : j < 4
  · rw [if_pos h4, upR_in (by omega), upR_out (by omega), upR_out (by omega), upR_out (by omega), show 4 - 1 - (j - 0) = 3 - j by omega]
  · rw [if_neg h4]
    by_cases h5 : j < 5
    · rw [if_pos h5, upR_in (by omega), upR_out (by omega), upR_out (by omega), upR_in (by omega)]
    · rw [if_neg h5]
      by_cases h7 : j < 7
      · rw [if_pos h7, upR_in (by omega), upR_out (by omega), upR_in (by omega), show 2 - 1 - (j - 0 - (4 + 1)) = 6 - j by omega]
      · rw [if_neg h7]
        by_cases hr : j - 7 < 6 * n
        · rw [if_pos hr, upR_in (by omega), upR_in (by omega), show j - 0 - (4 + 1 + 2) = j - 7 by omega]
        · rw [if_neg hr, upR_out (by omega)]
set_option maxHeartbeats 4000000 in
set_option maxRecDepth 100000 in
theorem MadeD_any {k r c q : Int} {N W : Nat} (h : Par k r c q N W 0) (w : World) (len dep : Int) (ro : Option Addr) (n rc : Nat) (R V : Nat → Int) (hR : RdR w ro n R V) (hok : okD W q len dep n R V = true) :
    Calls Try.prog 39 #[.agg #[.int .i64 k, .int .i64 r, .int .i64 c, .int .i64 q], .agg #[.int .i64 len, .int .i64 dep, .slice ro n rc]] w fun e w' => ∃ g, e = .returned (.slice (some ⟨g, 0, none⟩) W W) ∧ Bk w' g W (deB len dep n R V) ∧ w.heap.size ≤ g ∧ Below w.heap.size w w' := by
  obtain ⟨hmy, hW, hW2, hq⟩ := h.fine
  obtain ⟨g1, g2, g3, g4, g5⟩ := okD_few hW hok
  obtain ⟨f1, f2, f3, _, _⟩ := h.good hmy
  have hdr := dir_room hW
  have hdl := dir_le hW2
  obtain ⟨A, hA⟩ : ∃ A : Nat, len = (A : Int) := ⟨len.toNat, by omega⟩
  obtain ⟨E, hEE⟩ : ∃ E : Nat, dep = (E : Int) := ⟨dep.toNat, by omega⟩
  have HFN : Hid (∀ j, upR (fun _ => 0) 0 (4 + 1 + 2 + 6 * n) (upR (upR (upR (fun j => dg A (4 - 1 - j)) 4 1 (fun _ => dg E 0)) (4 + 1) 2 (fun j => dg n (2 - 1 - j))) (4 + 1 + 2) (6 * n) (rfB R V)) j = deB len dep n R V j) := fun j => made_bytesD hA hEE j
  have CN1 := fun v => number_any v A 4 (by omega) (by omega)
  have CN2 := fun v => number_any v n 2 (by omega) (by omega)
  have CT := fun v hv => told_any v ro n rc R V hv (by omega) (okL_nums hq g5)
  have CW := fun v bo bc H hv => wide_any (r := r) (q := q) f1 hW2 v bo (4 + 1 + 2 + 6 * n) bc H hv (by omega) (by omega)
  have HR : Hid (RdR w ro n R V) := hR
  have hE1 : E ≤ 1 := by omega
  have he : (E : Int) % 256 = ((((dg E 0).toNat : Nat)) : Int) := by rw [dg_toNat]; simp
  have hn1 : n ≤ 1000 := by omega
  obtain ⟨w0, hw0⟩ : ∃ w0, w0 = w.alloc (.cells #[.int .i64 k, .int .i64 r, .int .i64 c, .int .i64 q] 24) := ⟨_, rfl⟩
  obtain ⟨w1, hw1⟩ : ∃ w1, w1 = w0.alloc (.cells #[.int .i64 len, .int .i64 dep, .slice ro n rc] 35) := ⟨_, rfl⟩
  have b0 : Below w.heap.size w w0 := by rw [hw0]; exact below_alloc _ _
  have b1 : Below w0.heap.size w0 w1 := by rw [hw1]; exact below_alloc _ _
  have z0 : w0.heap.size = w.heap.size + 1 := by rw [hw0]; simp
  have HBB : Hid (Below w.heap.size w w1) := below_then b0 b1
  have HP : Hid (∀ u, Below w1.heap.size w1 u → (u.cell? ⟨w.heap.size, 0, none⟩ = some (.int .i64 k) ∧ u.cell? ⟨w.heap.size, 1, none⟩ = some (.int .i64 r) ∧ u.cell? ⟨w.heap.size, 2, none⟩ = some (.int .i64 c) ∧ u.cell? ⟨w.heap.size, 3, none⟩ = some (.int .i64 q)) ∧ u.cell? ⟨w.heap.size + 1, 0, none⟩ = some (.int .i64 len) ∧ u.cell? ⟨w.heap.size + 1, 1, none⟩ = some (.int .i64 dep) ∧ u.cell? ⟨w.heap.size + 1, 2, none⟩ = some (.slice ro n rc)) := fun u hu => ⟨par_held hw0 (below_then b1 hu), by rw [← z0]; exact ⟨blk_held hw1 hu 0 rfl, blk_held hw1 hu 1 rfl, blk_held hw1 hu 2 rfl⟩⟩
  generalize deB len dep n R V = G at *
  subst hA
  subst hEE
  clear h hR hok g1 g2 g3 g4 g5 f1 f2 f3 hdr hdl hmy hq
  obtain ⟨⟨p0, p1, p2, p3⟩, d0, d1, d2⟩ := HP.out _ (Below.refl _ _)
  go_enter Try.func39, Try.ntmps39
  go_wp2_with fail
  rw [← hw0, ← hw1]
  clear hw0 hw1 z0 b0 b1
  refine (CN1 _).mono ?_
  rintro e wa ⟨ga, rfl, hga, hgl, ha⟩
  have HO1 : Hid (OwU w1.heap.size wa (some ⟨ga, 0, none⟩) 4 4 (fun j => dg A (4 - 1 - j))) := hga.own hgl (by omega)
  have k1 : Hid (Below w1.heap.size w1 wa) := ha
  clear hga hgl ha p0 p1 p2 p3 d0 d1 d2
  obtain ⟨⟨p0, p1, p2, p3⟩, d0, d1, d2⟩ := HP.out _ k1.out
  have hv1 := bec_one wa (x := (E : Int)) (u := dg E 0) (by rw [← he]; omega)
  have ho1 := HO1.out.below (below_alloc wa (.cells #[.int .u8 (E : Int)] 5))
  have hs1 : w1.heap.size ≤ wa.heap.size := k1.out.size
  have HG1 : Hid (∀ g, (Value.slice (some ⟨ga, 0, none⟩) 4 4).ownBlock = some g → w1.heap.size ≤ g) := own_ge HO1.out
  go_wp2_with (at_builtin; refine wpList_append_bytes (by rfl) (.tmp 9) (.tmp 13) (by rfl) w1.heap.size 4 1 4 1 (some ⟨ga, 0, none⟩) (some ⟨wa.heap.size, 0, none⟩) _ _ (by rfl) (by rfl) ho1 hv1 (by omega) (by simp; omega) ?_; intro u2 c2 wb ho2 hg2; have HO2 : Hid (OwU w1.heap.size wb u2 (4 + 1) c2 (upR (fun j => dg A (4 - 1 - j)) 4 1 (fun _ => dg E 0))) := ho2; have k2 : Hid (Below w1.heap.size w1 wb) := (k1.out.alloc hs1 _).grown hg2 (by simp; omega) HG1.out; clear ho2 hg2 hv1 ho1; clear p0 p1 p2 p3 d0 d1 d2; obtain ⟨⟨p0, p1, p2, p3⟩, d0, d1, d2⟩ := HP.out _ k2.out)
  refine (CN2 _).mono ?_
  rintro e wc ⟨gc, rfl, hgc, _, hc⟩
  have k3 : Hid (Below w1.heap.size w1 wc) := below_step k2.out hc k2.out.size
  have ho3 := HO2.out.below hc
  have hv3 := hgc.bec
  have hs3 : w1.heap.size ≤ wc.heap.size := k3.out.size
  have HG2 : Hid (∀ g, (Value.slice u2 (4 + 1) c2).ownBlock = some g → w1.heap.size ≤ g) := own_ge HO2.out
  clear hc hgc p0 p1 p2 p3 d0 d1 d2
  go_wp2_with (at_builtin; refine wpList_append_bytes (by rfl) (.tmp 15) (.tmp 19) (by rfl) w1.heap.size (4 + 1) 2 c2 2 u2 (some ⟨gc, 0, none⟩) _ _ (by rfl) (by rfl) ho3 hv3 (by omega) hs3 ?_; intro u4 c4 wd ho4 hg4; have HO4 : Hid (OwU w1.heap.size wd u4 (4 + 1 + 2) c4 (upR (upR (fun j => dg A (4 - 1 - j)) 4 1 (fun _ => dg E 0)) (4 + 1) 2 (fun j => dg n (2 - 1 - j)))) := ho4; have k4 : Hid (Below w1.heap.size w1 wd) := k3.out.grown hg4 hs3 HG2.out; clear ho4 hg4 hv3 ho3; obtain ⟨⟨p0, p1, p2, p3⟩, d0, d1, d2⟩ := HP.out _ k4.out)
  refine (CT _ (HR.out.below (below_then HBB.out k4.out))).mono ?_
  rintro e we ⟨u5, c5, rfl, h5, h6⟩
  have k5 : Hid (Below w1.heap.size w1 we) := below_step k4.out h6 k4.out.size
  have ho5 := HO4.out.below h6
  have hv5 := h5.bec
  have hs5 : w1.heap.size ≤ we.heap.size := k5.out.size
  have HG4 : Hid (∀ g, (Value.slice u4 (4 + 1 + 2) c4).ownBlock = some g → w1.heap.size ≤ g) := own_ge HO4.out
  clear h5 h6 p0 p1 p2 p3 d0 d1 d2
  go_wp2_with (at_builtin; refine wpList_append_bytes (by rfl) (.tmp 21) (.tmp 24) (by rfl) w1.heap.size (4 + 1 + 2) (6 * n) c4 c5 u4 u5 _ _ (by rfl) (by rfl) ho5 hv5 (by omega) hs5 ?_; intro u6 c6 wf ho6 hg6; have HO6 : Hid (OwU w1.heap.size wf u6 (4 + 1 + 2 + 6 * n) c6 (upR (upR (upR (fun j => dg A (4 - 1 - j)) 4 1 (fun _ => dg E 0)) (4 + 1) 2 (fun j => dg n (2 - 1 - j))) (4 + 1 + 2) (6 * n) (rfB R V))) := ho6; have k6 : Hid (Below w1.heap.size w1 wf) := k5.out.grown hg6 hs5 HG4.out; clear ho6 hg6 hv5 ho5; obtain ⟨⟨p0, p1, p2, p3⟩, d0, d1, d2⟩ := HP.out _ k6.out)
  refine (CW _ _ _ _ HO6.out.bec).mono ?_
  rintro e wg ⟨g, rfl, hg, hgl, hh⟩
  go_wp2_with fail
  go_ret
  exact ⟨g, rfl, hg.congr fun j _ => HFN.out j, Nat.le_trans (below_then HBB.out k6.out).size hgl, below_then (below_then HBB.out k6.out) hh⟩
set_option maxHeartbeats 4000000 in
set_option maxRecDepth 100000 in
theorem RBytes_any {k r c q : Int} {N W : Nat} {y : Int} (h : Par k r c q N W y) (w : World) (len dep : Int) (ro : Option Addr) (n rc : Nat) (R V : Nat → Int) (hR : Rec w ro n rc R V) (E : Int) (hE : erD y W q len dep n R V = E) :
    Calls Try.prog 17 #[.agg #[.int .i64 k, .int .i64 r, .int .i64 c, .int .i64 q], .agg #[.int .i64 len, .int .i64 dep, .slice ro n rc]] w (AnsB w E W (deB len dep n R V)) := by
  have HC := fun v hv => RDCheck_any h v len dep ro n rc R V hv
  rw [hE] at HC
  have HR : Hid (Rec w ro n rc R V) := hR
  have hW := h.wide
  clear hR
  unfold AnsB
  obtain ⟨w0, hw0⟩ : ∃ w0, w0 = w.alloc (.cells #[.int .i64 k, .int .i64 r, .int .i64 c, .int .i64 q] 24) := ⟨_, rfl⟩
  obtain ⟨w1, hw1⟩ : ∃ w1, w1 = w0.alloc (.cells #[.int .i64 len, .int .i64 dep, .slice ro n rc] 35) := ⟨_, rfl⟩
  have b0 : Below w.heap.size w w0 := by rw [hw0]; exact below_alloc _ _
  have b1 : Below w0.heap.size w0 w1 := by rw [hw1]; exact below_alloc _ _
  have z0 : w0.heap.size = w.heap.size + 1 := by rw [hw0]; simp
  have HBB : Hid (Below w.heap.size w w1) := below_then b0 b1
  have HP : Hid (∀ u, Below w1.heap.size w1 u → (u.cell? ⟨w.heap.size, 0, none⟩ = some (.int .i64 k) ∧ u.cell? ⟨w.heap.size, 1, none⟩ = some (.int .i64 r) ∧ u.cell? ⟨w.heap.size, 2, none⟩ = some (.int .i64 c) ∧ u.cell? ⟨w.heap.size, 3, none⟩ = some (.int .i64 q)) ∧ u.cell? ⟨w.heap.size + 1, 0, none⟩ = some (.int .i64 len) ∧ u.cell? ⟨w.heap.size + 1, 1, none⟩ = some (.int .i64 dep) ∧ u.cell? ⟨w.heap.size + 1, 2, none⟩ = some (.slice ro n rc)) := fun u hu => ⟨par_held hw0 (below_then b1 hu), by rw [← z0]; exact ⟨blk_held hw1 hu 0 rfl, blk_held hw1 hu 1 rfl, blk_held hw1 hu 2 rfl⟩⟩
  by_cases hz : E = 0
  · subst hz
    obtain ⟨rfl, hok⟩ := erD_of hE
    have HM := fun v hv => MadeD_any h v len dep ro n rc R V hv hok
    rw [lenE_zero]
    clear h hE hok
    generalize deB len dep n R V = G at *
    go_enter Try.func17, Try.ntmps17
    go_wp2_with fail
    rw [← hw0, ← hw1]
    clear hw0 hw1 z0 b0 b1
    refine (HC _ (HR.out.rd.below HBB.out)).mono ?_
    rintro e wa ⟨rfl, ha⟩
    obtain ⟨⟨p0, p1, p2, p3⟩, d0, d1, d2⟩ := HP.out _ ha
    go_wp2_with fail
    refine (HM _ (HR.out.rd.below (below_then HBB.out ha))).mono ?_
    rintro e wb ⟨g, rfl, hg, hgl, hb⟩
    go_wp2_with fail
    go_ret2
    exact ⟨some ⟨g, 0, none⟩, W, rfl, hg.own (Nat.le_trans (below_then HBB.out ha).size hgl) (by omega), below_then (below_then HBB.out ha) hb⟩
  · have hz2 : (E != 0) = true := by simpa using hz
    rw [lenE_not hz]
    clear h hE hz
    go_enter Try.func17, Try.ntmps17
    go_wp2_with fail
    rw [← hw0, ← hw1]
    clear hw0 hw1 z0 b0 b1
    refine (HC _ (HR.out.rd.below HBB.out)).mono ?_
    rintro e wa ⟨rfl, ha⟩
    go_wp2_with fail
    go_ret2
    exact ⟨none, 0, rfl, owu_nil _ _ _, below_then HBB.out ha⟩
end Go.Proofs.Ytjncnojplkljnaa
