/- DescReads: what any bytes are is what the document says. -/
import Derived.Test.YtjncnojplkljnaaDeH
import Derived.Test.YtjncnojplkljnaaDeI
import Derived.Test.YtjncnojplkljnaaDeF
import Derived.Test.YtjncnojplkljnaaDsO
import Derived.Laws.IdiomStrings
namespace Go.Proofs.Ytjncnojplkljnaa
open Go.RowKit

theorem RParse_any {k r c q : Int} {N W : Nat} {y : Int} (h : Par k r c q N W y) (w : World) (bo : Option Addr) (m bc : Nat) (F : Nat → UInt8) (hB : Bec w bo m bc F) (E : Int) (hE : erB y W q m F = E) :
    Calls Try.prog 22 #[.agg #[.int .i64 k, .int .i64 r, .int .i64 c, .int .i64 q], .slice bo m bc] w (AnsD w E ((nm F 0 4 : Nat) : Int) ((nm F 4 1 : Nat) : Int) (nm F 5 2) (rdR F 7) (rdV F 7)) := by
  unfold erB at hE
  rcases h.err with rfl | rfl
  · rw [if_pos rfl] at hE
    by_cases hm : m = W
    · rw [if_pos hm] at hE
      subst hm
      exact RParse_ok h w bo bc F hB E hE
    · rw [if_neg hm] at hE
      exact RParse_no h w bo m bc E (by rw [if_pos rfl, if_neg hm]; exact hE) (by rw [← hE]; decide) _ _ _ _ _
  · rw [if_neg (by decide)] at hE
    exact RParse_no h w bo m bc E (by rw [if_neg (by decide)]; exact hE) (by rw [← hE]; decide) _ _ _ _ _
theorem conv_newz (v : World) (n : Nat) (F : Nat → UInt8) : ∃ v' cc, (convert 9 29 (.string (sOf (lsF n F)))).run Try.prog v = .ok (.slice (some ⟨v.heap.size, 0, none⟩) n cc) v' ∧ Bec v' (some ⟨v.heap.size, 0, none⟩) n cc F ∧ Below v.heap.size v v' ∧ v.heap.size < v'.heap.size := by
  have hrun := run_bytes_of_string (P := Try.prog) v 9 29 5 (sOf (lsF n F)) Try.underlying9 Try.underlying29 Try.underlying5
  have hsz : (sOf (lsF n F)).size = n := by simp [sOf, ByteArray.size, lsF_length]
  rw [hsz] at hrun
  refine ⟨_, _, hrun, ⟨fun _ => ⟨_, 0, rfl, fun j hj => ?_⟩, (fun e => by cases e), grownCap_ge _ _ _ _⟩, below_then (below_drew _ _) (below_alloc v.drew _), by simp⟩
  rw [cell_of_row _ v.heap.size (0 + j) _ 5 _ (heap_alloc_new v.drew _), Nat.zero_add]
  have hj2 : j < (sOf (lsF n F)).data.size := by simp [sOf, lsF_length]; exact hj
  rw [bytesRow_at _ _ _ hj2]
  have : (sOf (lsF n F)).data[j] = F j := by simp [sOf, lsF]
  rw [this]
theorem row_at {B : Nat} {w : World} {ao : Option Addr} {n cap : Nat} {xs : List Value} (h : w.ownsRow B 27 2 (.slice ao n cap) n xs) (hn : 0 < n) : ∃ g, ao = some ⟨g, 0, none⟩ ∧ B ≤ g ∧ g < w.heap.size := by
  rcases h.2 with ⟨_, h2⟩ | ⟨g, cap', cur, h1, h2, h3, h4⟩
  · omega
  · cases h1; exact ⟨g, rfl, h2, (Array.getElem?_eq_some_iff.1 h3).1⟩
theorem rvl_ints (R V : Nat → Int) : ∀ n, ∀ x ∈ rvl R V n, ∃ z : Int, x = .int .i64 z
  | 0, x, hx => by cases hx
  | n + 1, x, hx => by
    rw [rvl, List.mem_append] at hx
    rcases hx with h | h
    · exact rvl_ints R V n x h
    · simp only [List.mem_cons, List.not_mem_nil, or_false] at h
      rcases h with rfl | rfl
      · exact ⟨_, rfl⟩
      · exact ⟨_, rfl⟩
theorem OwR.only {X : Nat → Prop} {B : Nat} {w w' : World} {ao : Option Addr} {n cap : Nat} {R V : Nat → Int} (h : OwR B w ao n cap R V) (ho : Only X w w') (hx : ∀ t, X t → t < B) : OwR B w' ao n cap R V := h.stay fun g hg hg2 => ho.block g hg2 fun hX => by have := hx g hX; omega
theorem blk_refs {B : Nat} {w : World} {ao : Option Addr} {n cap : Nat} {R V : Nat → Int} (h : OwR B w ao n cap R V) : ∀ t, BlkOf ao t → B ≤ t ∧ t < w.heap.size := by
  rintro t ⟨a, rfl, rfl⟩
  exact World.ownsRow.lt h a.block rfl
set_option maxHeartbeats 8000000 in
set_option maxRecDepth 100000 in
theorem reads_long (k r c q : Int) (w : World) (bo : Option Addr) (m bc : Nat) (n : Int) (hm : 5000 < m) :
    Calls Try.prog 5 #[.agg #[.int .i64 k, .int .i64 r, .int .i64 c, .int .i64 q], .slice bo m bc, .int .i64 n] w fun e w' => e = .returned (.bool true) ∧ Below w.heap.size w w' := by
  obtain ⟨w0, hw0⟩ : ∃ w0, w0 = w.alloc (.cells #[.int .i64 k, .int .i64 r, .int .i64 c, .int .i64 q] 24) := ⟨_, rfl⟩
  have b0 : Below w.heap.size w w0 := by rw [hw0]; exact below_alloc _ _
  have HBB : Hid (Below w.heap.size w w0) := b0
  have HP : Hid (∀ u, Below w0.heap.size w0 u → u.cell? ⟨w.heap.size, 0, none⟩ = some (.int .i64 k) ∧ u.cell? ⟨w.heap.size, 1, none⟩ = some (.int .i64 r) ∧ u.cell? ⟨w.heap.size, 2, none⟩ = some (.int .i64 c) ∧ u.cell? ⟨w.heap.size, 3, none⟩ = some (.int .i64 q)) := fun u hu => par_held hw0 hu
  go_enter Try.func5, Try.ntmps5
  go_wp2_with fail
  rw [← hw0]
  clear hw0 b0
  refine (alive_any _).mono ?_
  rintro e wa ⟨rfl, ha⟩
  have HA : Hid (Below w0.heap.size w0 wa) := ha
  clear ha
  obtain ⟨p0, p1, p2, p3⟩ := HP.out _ HA.out
  go_wp2_with fail
  go_ret
  exact ⟨rfl, below_then HBB.out HA.out⟩
set_option maxHeartbeats 16000000 in
set_option maxRecDepth 100000 in
theorem reads_main {k r c q : Int} {N W : Nat} {y : Int} (h : Par k r c q N W y) (w : World) (bo : Option Addr) (m bc : Nat) (F : Nat → UInt8) (hB : Bec w bo m bc F) (n : Int) (hm : ¬ 5000 < m) :
    Calls Try.prog 5 #[.agg #[.int .i64 k, .int .i64 r, .int .i64 c, .int .i64 q], .slice bo m bc, .int .i64 n] w fun e w' => e = .returned (.bool true) ∧ Below w.heap.size w w' := by
  obtain ⟨E1, hE1⟩ : ∃ E, erB y W q m F = E := ⟨_, rfl⟩
  obtain ⟨E2, hE2⟩ : ∃ E, erR y W q m n F = E := ⟨_, rfl⟩
  obtain ⟨F1, hF1⟩ : ∃ E, E = E1 := ⟨_, rfl⟩
  obtain ⟨F2, hF2⟩ : ∃ E, E = E2 := ⟨_, rfl⟩
  obtain ⟨E3, hE3⟩ : ∃ E, E = E1 := ⟨_, rfl⟩
  have q1 : (E1 == F1) = true := by rw [hF1]; simp
  have q2 : (E2 == F2) = true := by rw [hF2]; simp
  have q3 : (E3 == F1) = true := by rw [hE3, hF1]; simp
  have hW := h.wide
  obtain ⟨A, hA⟩ : ∃ x, lenI E1 ((nm F 0 4 : Nat) : Int) = x := ⟨_, rfl⟩
  obtain ⟨D, hD⟩ : ∃ x, lenI E1 ((nm F 4 1 : Nat) : Int) = x := ⟨_, rfl⟩
  obtain ⟨M, hM⟩ : ∃ x, lenE E1 (nm F 5 2) = x := ⟨_, rfl⟩
  obtain ⟨M2, hM2⟩ : ∃ x, lenE E2 n.toNat = x := ⟨_, rfl⟩
  have l1 : M ≤ 1000 := by
    rw [← hM]
    by_cases hz : E1 = 0
    · rw [hz, lenE_zero]
      obtain ⟨hy, _, hd⟩ := erB_of (hE1.trans hz)
      subst hy
      have hf := (okD_few h.fine.2.1 (isD_true hd).1).1
      have := dir_le hW
      omega
    · rw [lenE_not hz]; omega
  have l2 : M2 ≤ 1000 := by
    rw [← hM2]
    by_cases hz : E2 = 0
    · rw [hz, lenE_zero]
      obtain ⟨_, _, _, hd, _⟩ := erR_of (hE2.trans hz)
      have := lea_le hW
      omega
    · rw [lenE_not hz]; omega
  obtain ⟨R1, hR1⟩ : ∃ x, rdR F 7 = x := ⟨_, rfl⟩
  obtain ⟨V1, hV1⟩ : ∃ x, rdV F 7 = x := ⟨_, rfl⟩
  obtain ⟨R2, hR2⟩ : ∃ x, rdR F 0 = x := ⟨_, rfl⟩
  obtain ⟨V2, hV2⟩ : ∃ x, rdV F 0 = x := ⟨_, rfl⟩
  have CP1 : ∀ v bo bc, Bec v bo m bc F → Calls Try.prog 15 #[.agg #[.int .i64 k, .int .i64 r, .int .i64 c, .int .i64 q], .slice bo m bc] v (fun e w' => ∃ ao cp, e = .returned (.tuple #[.agg #[.int .i64 A, .int .i64 D, .slice ao M cp], .int .i64 E1]) ∧ OwR v.heap.size w' ao M cp R1 V1 ∧ Below v.heap.size v w') := fun v bo bc hv => by
    have := Parse_any h v bo m bc F hv E1 hE1
    unfold AnsD at this
    rw [hA, hD, hM, hR1, hV1] at this
    exact this
  have CP3 : ∀ v bo bc, Bec v bo m bc F → Calls Try.prog 15 #[.agg #[.int .i64 k, .int .i64 r, .int .i64 c, .int .i64 q], .slice bo m bc] v (fun e w' => ∃ ao cp, e = .returned (.tuple #[.agg #[.int .i64 A, .int .i64 D, .slice ao M cp], .int .i64 E3]) ∧ OwR v.heap.size w' ao M cp R1 V1 ∧ Below v.heap.size v w') := fun v bo bc hv => by
    rw [hE3]; exact CP1 v bo bc hv
  have RP : ∀ v, Bec v bo m bc F → Calls Try.prog 22 #[.agg #[.int .i64 k, .int .i64 r, .int .i64 c, .int .i64 q], .slice bo m bc] v (fun e w' => ∃ ao cp, e = .returned (.tuple #[.agg #[.int .i64 A, .int .i64 D, .slice ao M cp], .int .i64 F1]) ∧ OwR v.heap.size w' ao M cp R1 V1 ∧ Below v.heap.size v w') := fun v hv => by
    rw [hF1]
    have := RParse_any h v bo m bc F hv E1 hE1
    unfold AnsD at this
    rw [hA, hD, hM, hR1, hV1] at this
    exact this
  have CR : ∀ v bo bc, Bec v bo m bc F → Calls Try.prog 13 #[.agg #[.int .i64 k, .int .i64 r, .int .i64 c, .int .i64 q], .slice bo m bc, .int .i64 n] v (fun e w' => ∃ ao cp, e = .returned (.tuple #[.slice ao M2 cp, .int .i64 E2]) ∧ OwR v.heap.size w' ao M2 cp R2 V2 ∧ Below v.heap.size v w') := fun v bo bc hv => by
    have := Refs_any h v bo m bc F hv n E2 hE2
    unfold AnsR at this
    rw [hM2, hR2, hV2] at this
    exact this
  have RR : ∀ v, Bec v bo m bc F → Calls Try.prog 23 #[.agg #[.int .i64 k, .int .i64 r, .int .i64 c, .int .i64 q], .slice bo m bc, .int .i64 n] v (fun e w' => ∃ ao cp, e = .returned (.tuple #[.slice ao M2 cp, .int .i64 F2]) ∧ OwR v.heap.size w' ao M2 cp R2 V2 ∧ Below v.heap.size v w') := fun v hv => by
    rw [hF2]
    have := RRefs_any h v bo m bc F hv n E2 hE2
    unfold AnsR at this
    rw [hM2, hR2, hV2] at this
    exact this
  have CS := fun v xo xc yo yc hx hy => Same_any v A D xo M xc yo yc R1 V1 hx hy l1
  have CSR := fun v xo xc yo yc hx hy => SameRefs_any v xo M2 xc yo yc R2 V2 hx hy l2
  have HB : Hid (Bec w bo m bc F) := hB
  clear h hB hE1 hE2 hF1 hF2 hE3 hW hA hD hM hM2 hR1 hV1 hR2 hV2
  obtain ⟨w0, hw0⟩ : ∃ w0, w0 = w.alloc (.cells #[.int .i64 k, .int .i64 r, .int .i64 c, .int .i64 q] 24) := ⟨_, rfl⟩
  have b0 : Below w.heap.size w w0 := by rw [hw0]; exact below_alloc _ _
  have HBB : Hid (Below w.heap.size w w0) := b0
  have HP : Hid (∀ u, Below w0.heap.size w0 u → u.cell? ⟨w.heap.size, 0, none⟩ = some (.int .i64 k) ∧ u.cell? ⟨w.heap.size, 1, none⟩ = some (.int .i64 r) ∧ u.cell? ⟨w.heap.size, 2, none⟩ = some (.int .i64 c) ∧ u.cell? ⟨w.heap.size, 3, none⟩ = some (.int .i64 q)) := fun u hu => par_held hw0 hu
  go_enter Try.func5, Try.ntmps5
  go_wp2_with fail
  rw [← hw0]
  clear hw0 b0
  refine (alive_any _).mono ?_
  rintro e wa ⟨rfl, ha⟩
  have HA : Hid (Below w0.heap.size w0 wa) := ha
  clear ha
  obtain ⟨wb, cc, hr, hbx, hb, hlt⟩ := conv_newz wa m F
  have v0 : (convert 29 9 (.slice bo m bc)).run Try.prog wa = .ok (.string (sOf (lsF m F))) wa := conv_any (HB.out.below (below_then HBB.out HA.out))
  have hmi : ¬ (5000 : Int) < (m : Int) := by omega
  have HB1 : Hid (Below w0.heap.size w0 wb) := below_then HA.out hb
  have HXX : Hid (Bec wb (some ⟨wa.heap.size, 0, none⟩) m cc F) := hbx
  obtain ⟨p0, p1, p2, p3⟩ := HP.out _ HB1.out
  clear hbx hb
  go_wp2_with fail
  refine (CP1 _ _ _ HXX.out).mono ?_
  rintro e wc ⟨ao, ac, rfl, hoa, hc⟩
  clear v0 hr hlt p0 p1 p2 p3
  obtain ⟨wd, hwd⟩ : ∃ wd, wd = wc.alloc (.cells #[.int .i64 A, .int .i64 D, .slice ao M ac] 35) := ⟨_, rfl⟩
  have bd : Below wc.heap.size wc wd := by rw [hwd]; exact below_alloc _ _
  have zd : wd.heap.size = wc.heap.size + 1 := by rw [hwd]; simp
  have HOA : Hid (OwR wb.heap.size wc ao M ac R1 V1) := hoa
  have HBC : Hid (Below wb.heap.size wb wc) := hc
  have HCD : Hid (Below wc.heap.size wc wd) := bd
  have HZD : Hid (wd.heap.size = wc.heap.size + 1) := zd
  have HXD : Hid (∀ u, Below wd.heap.size wd u → u.cell? ⟨wc.heap.size, 0, none⟩ = some (.int .i64 A) ∧ u.cell? ⟨wc.heap.size, 1, none⟩ = some (.int .i64 D) ∧ u.cell? ⟨wc.heap.size, 2, none⟩ = some (.slice ao M ac)) := fun u hu => ⟨blk_held hwd hu 0 rfl, blk_held hwd hu 1 rfl, blk_held hwd hu 2 rfl⟩
  obtain ⟨p0, p1, p2, p3⟩ := HP.out _ (below_then HB1.out hc)
  have P0 := fun o => held p0 (below_alloc wc o)
  have P1 := fun o => held p1 (below_alloc wc o)
  have P2 := fun o => held p2 (below_alloc wc o)
  have P3 := fun o => held p3 (below_alloc wc o)
  clear hoa hc bd zd
  go_wp2_with fail
  rw [← hwd]
  clear hwd P0 P1 P2 P3 p0 p1 p2 p3
  refine (CR _ _ _ (HXX.out.below (below_then HBC.out HCD.out))).mono ?_
  rintro e we ⟨lo, lc, rfl, hol, he⟩
  have HOL : Hid (OwR wd.heap.size we lo M2 lc R2 V2) := hol
  have HDE : Hid (Below wd.heap.size wd we) := he
  have HE0 : Hid (Below w0.heap.size w0 we) := below_then HB1.out (below_then HBC.out (below_then HCD.out he))
  clear hol he
  obtain ⟨p0, p1, p2, p3⟩ := HP.out _ HE0.out
  go_wp2_with fail
  refine (RP _ (HB.out.below (below_then HBB.out HE0.out))).mono ?_
  rintro e wf ⟨bo2, bc2, rfl, hob, hf⟩
  obtain ⟨wg, hwg⟩ : ∃ wg, wg = wf.alloc (.cells #[.int .i64 A, .int .i64 D, .slice bo2 M bc2] 35) := ⟨_, rfl⟩
  have bg : Below wf.heap.size wf wg := by rw [hwg]; exact below_alloc _ _
  have HOB : Hid (OwR we.heap.size wg bo2 M bc2 R1 V1) := hob.below bg
  have HEF : Hid (Below we.heap.size we wf) := hf
  have HFG : Hid (Below wf.heap.size wf wg) := bg
  have HXG : Hid (∀ u, Below wg.heap.size wg u → u.cell? ⟨wf.heap.size, 0, none⟩ = some (.int .i64 A) ∧ u.cell? ⟨wf.heap.size, 1, none⟩ = some (.int .i64 D) ∧ u.cell? ⟨wf.heap.size, 2, none⟩ = some (.slice bo2 M bc2)) := fun u hu => ⟨blk_held hwg hu 0 rfl, blk_held hwg hu 1 rfl, blk_held hwg hu 2 rfl⟩
  clear p0 p1 p2 p3
  obtain ⟨p0, p1, p2, p3⟩ := HP.out _ (below_then HE0.out hf)
  have P0 := fun o => held p0 (below_alloc wf o)
  have P1 := fun o => held p1 (below_alloc wf o)
  have P2 := fun o => held p2 (below_alloc wf o)
  have P3 := fun o => held p3 (below_alloc wf o)
  clear hob hf bg
  go_wp2_with fail
  rw [← hwg]
  clear hwg P0 P1 P2 P3 p0 p1 p2 p3
  have HG0 : Hid (Below w0.heap.size w0 wg) := below_then HE0.out (below_then HEF.out HFG.out)
  refine (RR _ (HB.out.below (below_then HBB.out HG0.out))).mono ?_
  rintro e wh ⟨lo2, lc2, rfl, hol2, hh⟩
  have HOL2 : Hid (OwR wg.heap.size wh lo2 M2 lc2 R2 V2) := hol2
  have HGH : Hid (Below wg.heap.size wg wh) := hh
  clear hol2 hh
  have HEH : Hid (Below we.heap.size we wh) := below_then HEF.out (below_then HFG.out HGH.out)
  have HCH : Hid (Below wc.heap.size wc wh) := below_then HCD.out (below_then HDE.out HEH.out)
  obtain ⟨d0, d1, d2⟩ := HXD.out wh (below_then HDE.out HEH.out)
  obtain ⟨g0, g1, g2⟩ := HXG.out wh HGH.out
  go_wp2_with fail
  refine (CS wh ao ac bo2 bc2 (HOA.out.below HCH.out).rec.rd (HOB.out.below HGH.out).rec.rd).mono ?_
  rintro e wi ⟨rfl, hi⟩
  have HHI : Hid (Below wh.heap.size wh wi) := hi
  clear hi d0 d1 d2 g0 g1 g2
  go_wp2_with fail
  refine (CSR wi lo lc lo2 lc2 (HOL.out.below (below_then HEH.out HHI.out)).rec.rd (HOL2.out.below HHI.out).rec.rd).mono ?_
  rintro e wj ⟨rfl, hj⟩
  have HHJ : Hid (Below wh.heap.size wh wj) := below_then HHI.out hj
  clear hj
  have HEJ : Hid (Below we.heap.size we wj) := below_then HEH.out HHJ.out
  have HOAJ : Hid (OwR wb.heap.size wj ao M ac R1 V1) := HOA.out.below (below_then HCH.out HHJ.out)
  have HOLJ : Hid (OwR wd.heap.size wj lo M2 lc R2 V2) := HOL.out.below HEJ.out
  have HOBJ : Hid (OwR we.heap.size wj bo2 M bc2 R1 V1) := HOB.out.below (below_then HGH.out HHJ.out)
  have HDJ : Hid (wj.cell? ⟨wc.heap.size, 0, none⟩ = some (.int .i64 A) ∧ wj.cell? ⟨wc.heap.size, 1, none⟩ = some (.int .i64 D) ∧ wj.cell? ⟨wc.heap.size, 2, none⟩ = some (.slice ao M ac)) := HXD.out wj (below_then HDE.out HEJ.out)
  have HGJ : Hid (wj.cell? ⟨wf.heap.size, 0, none⟩ = some (.int .i64 A) ∧ wj.cell? ⟨wf.heap.size, 1, none⟩ = some (.int .i64 D) ∧ wj.cell? ⟨wf.heap.size, 2, none⟩ = some (.slice bo2 M bc2)) := HXG.out wj (below_then HGH.out HHJ.out)
  have HBJ : Hid (Below wb.heap.size wb wj) := below_then HBC.out (below_then HCD.out (below_then HDE.out HEJ.out))
  have HLT : Hid (∀ t, BlkOf lo t → wd.heap.size ≤ t ∧ t < we.heap.size) := blk_refs HOL.out
  have HAT : Hid (∀ t, BlkOf ao t → wb.heap.size ≤ t ∧ t < wc.heap.size) := blk_refs HOA.out
  have HSZ : Hid (wb.heap.size ≤ wc.heap.size ∧ wc.heap.size < wd.heap.size ∧ wd.heap.size ≤ we.heap.size ∧ we.heap.size ≤ wf.heap.size) := ⟨HBC.out.size, by have := HZD.out; omega, HDE.out.size, HEF.out.size⟩
  clear HOA HOL HOL2 HOB HXD HXG HEH HCH HHI HHJ HGH HFG HEF HDE HCD HZD HEJ CR RR RP CP1 CSR
  have HCE : Hid (wc.heap.size ≤ we.heap.size) := by have := HSZ.out; show _ ≤ _; omega
  go_wp2_with fail
  go_loopw [18] (fun x wr => ∃ i : Nat, i ≤ M2 ∧ x = .int .i64 (i : Int) ∧ Hid (∃ xs, wr.ownsRow wd.heap.size 27 2 (.slice lo M2 lc) M2 xs ∧ ∀ x ∈ xs, ∃ z : Int, x = .int .i64 z) ∧ Hid (Only (BlkOf lo) wj wr)) (fun x _ => M2 - (intOf x).toNat)
  case atStart => exact ⟨0, Nat.zero_le _, rfl, ⟨_, HOLJ.out, rvl_ints _ _ _⟩, Only.refl _ _⟩
  case round =>
    obtain ⟨i, hi, rfl, hxs, hbel⟩ := hrel
    by_cases hlt : i < M2
    · clear HSZ HCE HLT HAT HOAJ HOBJ HDJ HGJ HBJ
      obtain ⟨xs, ho, hx⟩ := hxs.out
      obtain ⟨gl, rfl, _, _⟩ := row_at ho (by omega)
      have hl : xs.length = M2 * 2 := ho.1
      obtain ⟨z, hz⟩ := hx xs[i * 2] (List.getElem_mem (by omega))
      have ck : wr.cell? ⟨gl, i * 2, none⟩ = some (.int .i64 z) := by rw [World.ownsRow.cellAt ho (i * 2) (by omega), List.getElem?_eq_getElem (by omega), hz]
      have f := World.ownsRow.frozenAt ho
      have HY : Hid (∀ u : Int, (∃ xs, (wr.setCell ⟨gl, i * 2, none⟩ (.int .i64 u)).ownsRow wd.heap.size 27 2 (.slice (some ⟨gl, 0, none⟩) M2 lc) M2 xs ∧ ∀ x ∈ xs, ∃ z : Int, x = .int .i64 z)) := fun u => ⟨_, (World.ownsRow.stored ho (i * 2) _).1, fun x hx2 => by
        rcases List.mem_or_eq_of_mem_set hx2 with h | h
        · exact hx x h
        · exact ⟨u, h⟩⟩
      have HZ : Hid (∀ u : Value, Only (BlkOf (some ⟨gl, 0, none⟩)) wj (wr.setCell ⟨gl, i * 2, none⟩ u)) := fun u => hbel.out.setCell (p := ⟨gl, i * 2, none⟩) ⟨⟨gl, 0, none⟩, rfl, rfl⟩ u
      have i1 : (0 : Int) ≤ (i : Int) := by omega
      have i2 : (i : Int) < (M2 : Int) := by omega
      clear ho hx hl hz hxs
      go_wp2_with fail
      exact ⟨⟨i + 1, by omega, by go_num, HY.out _, HZ.out _⟩, by simp [intOf]; omega⟩
    · have hlti : ¬ (i : Int) < (M2 : Int) := by omega
      obtain ⟨wl, hwl⟩ : ∃ wl, wl = wr := ⟨_, rfl⟩
      rw [← hwl]
      rw [← hwl] at hbel
      clear hwl hxs
      have HSJ : Hid (wd.heap.size ≤ wj.heap.size ∧ wb.heap.size ≤ wj.heap.size ∧ wj.heap.size ≤ wl.heap.size) := by
        refine ⟨?_, HBJ.out.size, hbel.out.size⟩
        by_cases hz : wd.heap.size ≤ wj.heap.size
        · exact hz
        · have h1 := World.block_lt_of_cell? wj _ HGJ.out.1
          have h2 := HSZ.out
          have h3 : wf.heap.size < wj.heap.size := h1
          omega
      have HBL : Hid (Below wb.heap.size wb wl) := HBJ.out.trans (hbel.out.below (fun t ht => by have h1 := (HLT.out t ht).1; have h2 := HSZ.out; omega) HSJ.out.2.1)
      have HOAL : Hid (OwR wb.heap.size wl ao M ac R1 V1) := by
        rcases HOAJ.out.2 with h1 | ⟨g, cap', cur, h1, h2, h3, h4⟩
        · exact ⟨HOAJ.out.1, .inl h1⟩
        · have hg : BlkOf ao g := by cases h1; exact ⟨_, rfl, rfl⟩
          refine ⟨HOAJ.out.1, .inr ⟨g, cap', cur, h1, h2, ?_, h4⟩⟩
          rw [hbel.out.block g (Array.getElem?_eq_some_iff.1 h3).1 fun hX => by have h5 := (HLT.out g hX).1; have h6 := (HAT.out g hg).2; have h7 := HSZ.out; omega]
          exact h3
      have HD2L : Hid (OwR we.heap.size wl bo2 M bc2 R1 V1) := HOBJ.out.only hbel.out (fun t ht => (HLT.out t ht).2)
      have hnl : ¬ BlkOf lo wf.heap.size := fun hX => by have h1 := (HLT.out _ hX).2; have h2 := HSZ.out; omega
      have HE2L : Hid (wl.cell? ⟨wf.heap.size, 0, none⟩ = some (.int .i64 A) ∧ wl.cell? ⟨wf.heap.size, 1, none⟩ = some (.int .i64 D) ∧ wl.cell? ⟨wf.heap.size, 2, none⟩ = some (.slice bo2 M bc2)) := ⟨hbel.out.cell HGJ.out.1 hnl, hbel.out.cell HGJ.out.2.1 hnl, hbel.out.cell HGJ.out.2.2 hnl⟩
      have hnd : ¬ BlkOf lo wc.heap.size := fun hX => by have h1 := (HLT.out _ hX).1; have h2 := HSZ.out; omega
      have HDL : Hid (wl.cell? ⟨wc.heap.size, 2, none⟩ = some (.slice ao M ac)) := hbel.out.cell HDJ.out.2.2 hnd
      have HNC : Hid (¬ BlkOf ao wc.heap.size) := fun hX => Nat.lt_irrefl _ (HAT.out _ hX).2
      have HNF : Hid (¬ BlkOf ao wf.heap.size) := fun hX => by have h1 := (HAT.out _ hX).2; have h2 := HSZ.out; omega
      have HWB : Hid (∀ v, Only (BlkOf ao) wl v → Below wb.heap.size wb v) := fun v hv => HBL.out.trans (hv.below (fun t ht => (HAT.out t ht).1) HBL.out.size)
      have HW0 : Hid (∀ v, Only (BlkOf ao) wl v → Below w0.heap.size w0 v) := fun v hv => below_then HB1.out (HWB.out v hv)
      have HXB : Hid (∀ v, Only (BlkOf ao) wl v → Bec v (some ⟨wa.heap.size, 0, none⟩) m cc F) := fun v hv => HXX.out.below (HWB.out v hv)
      have HP2 : Hid (∀ v, Only (BlkOf ao) wl v → v.cell? ⟨wc.heap.size, 2, none⟩ = some (.slice ao M ac)) := fun v hv => hv.cell HDL.out HNC.out
      clear hbel hnl hnd HOAJ HOLJ HOBJ HDJ HGJ HBJ HSJ
      go_wp2_with fail
      go_loopw [19] (fun x wr => ∃ i : Nat, i ≤ M ∧ x = .int .i64 (i : Int) ∧ Hid (∃ xs, wr.ownsRow wb.heap.size 27 2 (.slice ao M ac) M xs ∧ ∀ x ∈ xs, ∃ z : Int, x = .int .i64 z) ∧ Hid (Only (BlkOf ao) wl wr)) (fun x _ => M - (intOf x).toNat)
      case atStart => exact ⟨0, Nat.zero_le _, rfl, ⟨_, HOAL.out, rvl_ints _ _ _⟩, Only.refl _ _⟩
      case round =>
        clear hlt hlti hi
        obtain ⟨i, hi, rfl, hxs, hbel⟩ := hrel
        have hP := HP2.out wr hbel.out
        by_cases hlt : i < M
        · clear HD2L HE2L HNF HWB HW0 HXB HOAL HBL HNC HDL HP2
          obtain ⟨xs, ho, hx⟩ := hxs.out
          obtain ⟨gl, rfl, _, _⟩ := row_at ho (by omega)
          have hl : xs.length = M * 2 := ho.1
          obtain ⟨z, hz⟩ := hx xs[i * 2] (List.getElem_mem (by omega))
          have ck : wr.cell? ⟨gl, i * 2, none⟩ = some (.int .i64 z) := by rw [World.ownsRow.cellAt ho (i * 2) (by omega), List.getElem?_eq_getElem (by omega), hz]
          have f := World.ownsRow.frozenAt ho
          have HY : Hid (∀ u : Int, (∃ xs, (wr.setCell ⟨gl, i * 2, none⟩ (.int .i64 u)).ownsRow wb.heap.size 27 2 (.slice (some ⟨gl, 0, none⟩) M ac) M xs ∧ ∀ x ∈ xs, ∃ z : Int, x = .int .i64 z)) := fun u => ⟨_, (World.ownsRow.stored ho (i * 2) _).1, fun x hx2 => by
            rcases List.mem_or_eq_of_mem_set hx2 with h | h
            · exact hx x h
            · exact ⟨u, h⟩⟩
          have HZ : Hid (∀ u : Value, Only (BlkOf (some ⟨gl, 0, none⟩)) wl (wr.setCell ⟨gl, i * 2, none⟩ u)) := fun u => hbel.out.setCell (p := ⟨gl, i * 2, none⟩) ⟨⟨gl, 0, none⟩, rfl, rfl⟩ u
          have i1 : (0 : Int) ≤ (i : Int) := by omega
          have i2 : (i : Int) < (M : Int) := by omega
          clear ho hx hl hz hxs
          go_wp2_with fail
          exact ⟨⟨i + 1, by omega, by go_num, HY.out _, HZ.out _⟩, by simp [intOf]; omega⟩
        · have hlti : ¬ (i : Int) < (M : Int) := by omega
          have hP2 := HP.out _ (HW0.out wr hbel.out)
          obtain ⟨p0, p1, p2, p3⟩ := hP2
          have HWN : Hid (Only (BlkOf ao) wl wr) := hbel.out
          have HPN : Hid (Below w0.heap.size w0 wr) := HW0.out wr hbel.out
          have hXN := HXB.out wr hbel.out
          have HDN : Hid (OwR we.heap.size wr bo2 M bc2 R1 V1) := HD2L.out.only HWN.out (fun t ht => Nat.lt_of_lt_of_le (HAT.out t ht).2 HCE.out)
          have HEN : Hid (wr.cell? ⟨wf.heap.size, 0, none⟩ = some (.int .i64 A) ∧ wr.cell? ⟨wf.heap.size, 1, none⟩ = some (.int .i64 D) ∧ wr.cell? ⟨wf.heap.size, 2, none⟩ = some (.slice bo2 M bc2)) := ⟨HWN.out.cell HE2L.out.1 HNF.out, HWN.out.cell HE2L.out.2.1 HNF.out, HWN.out.cell HE2L.out.2.2 HNF.out⟩
          clear hxs
          go_wp2_with fail
          refine (CP3 _ _ _ hXN).mono ?_
          rintro e wo ⟨co, cc3, rfl, hoc, ho⟩
          obtain ⟨wp, hwp⟩ : ∃ wp, wp = wo.alloc (.cells #[.int .i64 A, .int .i64 D, .slice co M cc3] 35) := ⟨_, rfl⟩
          have bp : Below wo.heap.size wo wp := by rw [hwp]; exact below_alloc _ _
          have hNP : Below wr.heap.size wr wp := below_then ho bp
          have e0 := held HEN.out.1 ho
          have e1 := held HEN.out.2.1 ho
          have e2 := held HEN.out.2.2 ho
          have E0 := fun o => held e0 (below_alloc wo o)
          have E1x := fun o => held e1 (below_alloc wo o)
          have E2x := fun o => held e2 (below_alloc wo o)
          have HCO : Hid (RdR wp co M R1 V1) := (hoc.below bp).rec.rd
          have HNP : Hid (Below wr.heap.size wr wp) := hNP
          clear hoc bp ho hNP p0 p1 p2 p3 hXN
          go_wp2_with fail
          rw [← hwp]
          clear hwp E0 E1x E2x e0 e1 e2
          refine (CS wp co cc3 bo2 bc2 HCO.out (HDN.out.below HNP.out).rec.rd).mono ?_
          rintro e wq ⟨rfl, hq⟩
          have hB1 := HXB.out wr HWN.out
          have v1 : (convert 29 9 (.slice (some ⟨wa.heap.size, 0, none⟩) m cc)).run Try.prog wq = .ok (.string (sOf (lsF m F))) wq := conv_any (hB1.below (below_then HNP.out hq))
          have v2 : (convert 29 9 (.slice bo m bc)).run Try.prog wq = .ok (.string (sOf (lsF m F))) wq := conv_any (HB.out.below (below_then HBB.out (below_then HPN.out (below_then HNP.out hq))))
          have HQQ : Hid (Below wp.heap.size wp wq) := hq
          clear hq hB1
          go_wp2_with fail
          go_ret
          exact ⟨rfl, below_then HBB.out (below_then HPN.out (below_then HNP.out HQQ.out))⟩
theorem reads_law (k r c q : Int) (w : World) (bo : Option Addr) (m bc : Nat) (F : Nat → UInt8) (hB : Bec w bo m bc F) (n : Int) :
    Calls Try.prog 5 #[.agg #[.int .i64 k, .int .i64 r, .int .i64 c, .int .i64 q], .slice bo m bc, .int .i64 n] w fun e w' => e = .returned (.bool true) ∧ Below w.heap.size w w' := by
  by_cases hl : 5000 < m
  · exact reads_long k r c q w bo m bc n hl
  · obtain ⟨N, W, y, h⟩ := par_any k r c q
    exact reads_main h w bo m bc F hB n hl
end Go.Proofs.Ytjncnojplkljnaa
