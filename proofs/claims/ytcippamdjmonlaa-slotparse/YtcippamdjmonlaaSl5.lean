/- SlotParse's walk. -/
import Derived.Test.YtcippamdjmonlaaSl4
import Derived.Test.YtcippamdjmonlaaSl1
namespace Go.Proofs.Ytcippamdjmonlaa
open Go.RowKit

theorem sOf_size (l : List UInt8) : (sOf l).size = l.length := by simp [sOf, ByteArray.size]
/-- Bytes of a string, in new memory. -/
theorem conv_new (v : World) (n : Nat) (F : Nat → UInt8) : ∃ v' cc, (convert 9 25 (.string (sOf (lsF n F)))).run Try.prog v = .ok (.slice (some ⟨v.heap.size, 0, none⟩) n cc) v' ∧ Bec v' (some ⟨v.heap.size, 0, none⟩) n cc F ∧ Below v.heap.size v v' ∧ v.heap.size < v'.heap.size := by
  have hrun := run_bytes_of_string (P := Try.prog) v 9 25 5 (sOf (lsF n F)) Try.underlying9 Try.underlying25 Try.underlying5
  rw [sOf_size, lsF_length] at hrun
  refine ⟨_, _, hrun, ⟨fun hn => ⟨v.heap.size, 0, rfl, fun j hj => ?_⟩, (fun e => by cases e), grownCap_ge _ _ _ _⟩, below_then (below_drew _ _) (below_alloc v.drew _), by simp⟩
  have hj2 : j < (sOf (lsF n F)).data.size := by simp [sOf, lsF_length]; exact hj
  have hc := cell_of_row (v.drew.alloc (.cells (bytesRow (sOf (lsF n F)) (grownCap v n 0 5)) 5 ((bytesRow (sOf (lsF n F)) (grownCap v n 0 5)).size, (bytesRow (sOf (lsF n F)) (grownCap v n 0 5)).size + 1))) v.heap.size (0 + j) _ 5 _ (heap_alloc_new v.drew _)
  rw [hc, Nat.zero_add, bytesRow_at _ _ _ hj2]
  have : (sOf (lsF n F)).data[j] = F j := by simp [sOf, lsF]
  rw [this]
theorem own_keep {B C : Nat} {w : World} {ao : Option Addr} {n cap g m cap' : Nat} {R : Nat → Int} {F : Nat → UInt8} (h1 : Own B w ao n cap R) (h2 : OwU C w (some ⟨g, 0, none⟩) m cap' F) (i : Nat) (u : Value) : Own B (w.setCell ⟨g, i, none⟩ u) ao n cap R := by
  refine ownsRow_setCell_other h1 ?_ u
  intro e
  cases ao with
  | none => cases e
  | some a =>
    rcases h1.2 with ⟨h, _⟩ | ⟨g', c', cur, h, _⟩
    · cases h
    · cases h
      cases e
      exact own_apart h1 h2 rfl
theorem slQ_small {i : Bool} {N : Nat} {c : Int} {F : Nat → UInt8} (hN : N ≤ 16) (hc : c ≤ 64) : (slQ i N c F).vn ≤ 1000 ∧ (slQ i N c F).dn ≤ 1000 := by
  unfold slQ
  cases i
  · rw [if_neg (by decide)]; exact ⟨by decide, by decide⟩
  · rw [if_pos rfl]; exact ⟨by show N ≤ _; omega, by show c.toNat ≤ _; omega⟩
set_option maxHeartbeats 8000000 in
set_option maxRecDepth 100000 in
theorem SParse_any (k r c q : Int) (w : World) (bo : Option Addr) (n cb : Nat) (F : Nat → UInt8) (hb : Bec w bo n cb F) (hnn : n ≤ 9223372036854775807) :
    Calls Try.prog 4 #[.agg #[.int .i64 k, .int .i64 r, .int .i64 c, .int .i64 q], .slice bo n cb] w fun e w' => e = .returned (.bool true) ∧ Below w.heap.size w w' := by
  obtain ⟨N, W, x, h⟩ := par_any k r c q
  have hN := h.few
  obtain ⟨E, hE⟩ : ∃ E, erQ x N c n = E := ⟨_, rfl⟩
  obtain ⟨i, hi⟩ : ∃ i, isQ x N c n F = i := ⟨_, rfl⟩
  obtain ⟨z, hz⟩ : ∃ z, slQ i N c F = z := ⟨_, rfl⟩
  have hsm : z.vn ≤ 1000 ∧ z.dn ≤ 1000 := by
    rw [← hz]
    cases i
    · exact ⟨show (0 : Nat) ≤ 1000 by decide, show (0 : Nat) ≤ 1000 by decide⟩
    · have hx0 : x = 0 := by
        unfold isQ at hi
        by_cases e : x = 0
        · exact e
        · rw [decide_eq_false e] at hi; cases hi
      exact slQ_small hN (h.cell hx0).2
  have HPA : Hid (∀ v co cc, Bec v co n cc F → Calls Try.prog 14 #[.agg #[.int .i64 k, .int .i64 r, .int .i64 c, .int .i64 q], .slice co n cc] v fun e w' => ∃ ao ca yo yc, e = .returned (.tuple #[.agg #[.int .u8 ((z.kd.toNat : Nat) : Int), .int .i64 z.ix, .int .i64 z.ce, .int .i64 z.st, .slice ao z.vn ca, .slice yo z.dn yc], .bool i, .int .i64 E]) ∧ Got v.heap.size w' z ao ca yo yc ∧ Below v.heap.size v w') := fun v co cc hv => Parse_any h v co n cc F hv E hE i hi z hz
  have HRP : Hid (∀ v, Bec v bo n cb F → Calls Try.prog 15 #[.agg #[.int .i64 k, .int .i64 r, .int .i64 c, .int .i64 q], .slice bo n cb] v fun e w' => ∃ ao ca yo yc, e = .returned (.tuple #[.agg #[.int .u8 ((z.kd.toNat : Nat) : Int), .int .i64 z.ix, .int .i64 z.ce, .int .i64 z.st, .slice ao z.vn ca, .slice yo z.dn yc], .bool i, .int .i64 E]) ∧ Got v.heap.size w' z ao ca yo yc ∧ Below v.heap.size v w') := fun v hv => RParse_any h v bo n cb F hv hnn E hE i hi z hz
  have HSM : Hid (∀ v ao ca yo yc ao' ca' yo' yc', Has v z ao ca yo yc → Has v z ao' ca' yo' yc' → Calls Try.prog 13 #[.agg #[.int .u8 ((z.kd.toNat : Nat) : Int), .int .i64 z.ix, .int .i64 z.ce, .int .i64 z.st, .slice ao z.vn ca, .slice yo z.dn yc], .agg #[.int .u8 ((z.kd.toNat : Nat) : Int), .int .i64 z.ix, .int .i64 z.ce, .int .i64 z.st, .slice ao' z.vn ca', .slice yo' z.dn yc']] v fun e w' => e = .returned (.bool true) ∧ Below v.heap.size v w') := fun v ao ca yo yc ao' ca' yo' yc' h1 h2 => RSame_any v z z ao ca yo yc ao' ca' yo' yc' h1 h2 (by omega) true (sameS_refl z)
  have HBE : Hid (Bec w bo n cb F) := hb
  obtain ⟨hvn, hdn⟩ := hsm
  clear hE hi hz h hb hN
  obtain ⟨w0, hw0⟩ : ∃ w0, w0 = w.alloc (.cells #[.int .i64 k, .int .i64 r, .int .i64 c, .int .i64 q] 23) := ⟨_, rfl⟩
  have b0 : Below w.heap.size w w0 := by rw [hw0]; exact below_alloc _ _
  have z0 : w0.heap.size = w.heap.size + 1 := by rw [hw0]; simp
  have CP : Hid (Cel w0 w.heap.size [.int .i64 k, .int .i64 r, .int .i64 c, .int .i64 q]) := cel_new hw0
  have HB0 : Hid (Below w.heap.size w w0) := b0
  have HZ0 : Hid (w0.heap.size = w.heap.size + 1) := z0
  go_enter Try.func4, Try.ntmps4
  go_wp2_with fail
  rw [← hw0]
  clear hw0 b0 z0
  refine (awake_any _).mono ?_
  rintro e wa ⟨rfl, ha⟩
  have HA : Hid (Below w0.heap.size w0 wa) := ha
  have v1 : (convert 25 9 (.slice bo n cb)).run Try.prog wa = .ok (.string (sOf (lsF n F))) wa := conv_any (HBE.out.below (below_then HB0.out ha))
  obtain ⟨wc, cc, v2, hc, bc, lc⟩ := conv_new wa n F
  have HC : Hid (Below w0.heap.size w0 wc) := below_then ha bc
  have HCE : Hid (Bec wc (some ⟨wa.heap.size, 0, none⟩) n cc F) := hc
  have HLC : Hid (wa.heap.size < wc.heap.size ∧ w.heap.size + 1 ≤ wa.heap.size) := ⟨lc, by have := ha.size; rw [HZ0.out] at this; exact this⟩
  clear ha hc bc lc
  have pc := CP.out.below HC.out
  have p0 := pc 0 _ rfl
  have p1 := pc 1 _ rfl
  have p2 := pc 2 _ rfl
  have p3 := pc 3 _ rfl
  clear pc
  go_wp2_with fail
  refine (HPA.out _ _ cc HCE.out).mono ?_
  rintro e wd ⟨ao, ca, yo, yc, rfl, hg, hd⟩
  have HD : Hid (Below wc.heap.size wc wd) := hd
  have HG : Hid (Got wc.heap.size wd z ao ca yo yc) := hg
  have HXW : Hid (∀ b, (yo = some ⟨b, 0, none⟩ ∨ ao = some ⟨b, 0, none⟩) → wc.heap.size ≤ b ∧ b < wd.heap.size) := fun b hb => by
    rcases hb with e | e
    · exact World.ownsRow.lt hg.bec b (by rw [e]; rfl)
    · exact World.ownsRow.lt hg.vec b (by rw [e]; rfl)
  obtain ⟨we, hwe⟩ : ∃ we, we = wd.alloc (.cells #[.int .u8 ((z.kd.toNat : Nat) : Int), .int .i64 z.ix, .int .i64 z.ce, .int .i64 z.st, .slice ao z.vn ca, .slice yo z.dn yc] 27) := ⟨_, rfl⟩
  have be : Below wd.heap.size wd we := by rw [hwe]; exact below_alloc _ _
  have HE : Hid (Below wc.heap.size wc we) := below_then hd be
  have CS : Hid (Cel we wd.heap.size [.int .u8 ((z.kd.toNat : Nat) : Int), .int .i64 z.ix, .int .i64 z.ce, .int .i64 z.st, .slice ao z.vn ca, .slice yo z.dn yc]) := cel_new hwe
  have HGE : Hid (Got wc.heap.size we z ao ca yo yc) := hg.below be
  have HLE : Hid (wd.heap.size < we.heap.size) := by show _ < _; rw [hwe]; simp
  have pw := CP.out.below (below_then HC.out hd)
  clear hg hd be v1 v2
  clear p0 p1 p2 p3
  have pw : ∀ o i u, [.int .i64 k, .int .i64 r, .int .i64 c, .int .i64 q][i]? = some u → (wd.alloc o).cell? ⟨w.heap.size, i, none⟩ = some u := fun o i u hu => held (pw i u hu) (below_alloc _ _)
  have p0 := fun o => pw o 0 _ rfl
  have p1 := fun o => pw o 1 _ rfl
  have p2 := fun o => pw o 2 _ rfl
  have p3 := fun o => pw o 3 _ rfl
  clear pw
  clear pw
  go_wp2_with fail
  rw [← hwe]
  clear hwe
  clear p0 p1 p2 p3
  refine (HRP.out _ (HBE.out.below (below_then HB0.out (below_then HC.out HE.out)))).mono ?_
  rintro e wf ⟨ao', ca', yo', yc', rfl, hg, hf⟩
  obtain ⟨wg, hwg⟩ : ∃ wg, wg = wf.alloc (.cells #[.int .u8 ((z.kd.toNat : Nat) : Int), .int .i64 z.ix, .int .i64 z.ce, .int .i64 z.st, .slice ao' z.vn ca', .slice yo' z.dn yc'] 27) := ⟨_, rfl⟩
  have bg : Below wf.heap.size wf wg := by rw [hwg]; exact below_alloc _ _
  have HF : Hid (Below we.heap.size we wf) := hf
  have HW : Hid (Below we.heap.size we wg) := below_then hf bg
  have HGG : Hid (Got wc.heap.size wg z ao ca yo yc) := HGE.out.below HW.out
  have HGW : Hid (Got we.heap.size wg z ao' ca' yo' yc') := hg.below bg
  have CW : Hid (Cel wg wf.heap.size [.int .u8 ((z.kd.toNat : Nat) : Int), .int .i64 z.ix, .int .i64 z.ce, .int .i64 z.st, .slice ao' z.vn ca', .slice yo' z.dn yc']) := cel_new hwg
  have HLF : Hid (we.heap.size ≤ wf.heap.size ∧ wf.heap.size < wg.heap.size) := ⟨hf.size, by rw [hwg]; simp⟩
  have sw := CS.out.below hf
  clear hg hf bg
  have sw : ∀ o i u, [.int .u8 ((z.kd.toNat : Nat) : Int), .int .i64 z.ix, .int .i64 z.ce, .int .i64 z.st, .slice ao z.vn ca, .slice yo z.dn yc][i]? = some u → (wf.alloc o).cell? ⟨wd.heap.size, i, none⟩ = some u := fun o i u hu => held (sw i u hu) (below_alloc _ _)
  have s0 := fun o => sw o 0 _ rfl
  have s1 := fun o => sw o 1 _ rfl
  have s2 := fun o => sw o 2 _ rfl
  have s3 := fun o => sw o 3 _ rfl
  have s4 := fun o => sw o 4 _ rfl
  have s5 := fun o => sw o 5 _ rfl
  clear sw
  clear sw
  go_wp2_with fail
  rw [← hwg]
  clear hwg
  clear s0 s1 s2 s3 s4 s5
  refine (HSM.out _ ao ca yo yc ao' ca' yo' yc' HGG.out.has HGW.out.has).mono ?_
  rintro e wh ⟨rfl, hh⟩
  have HH : Hid (Below we.heap.size we wh) := below_then HW.out hh
  have HHG : Hid (Below wg.heap.size wg wh) := hh
  have HG1 : Hid (Got wc.heap.size wh z ao ca yo yc) := HGG.out.below hh
  have HG2 : Hid (Got we.heap.size wh z ao' ca' yo' yc') := HGW.out.below hh
  have CS2 : Hid (Cel wh wd.heap.size [.int .u8 ((z.kd.toNat : Nat) : Int), .int .i64 z.ix, .int .i64 z.ce, .int .i64 z.st, .slice ao z.vn ca, .slice yo z.dn yc]) := CS.out.below HH.out
  have CW2 : Hid (Cel wh wf.heap.size [.int .u8 ((z.kd.toNat : Nat) : Int), .int .i64 z.ix, .int .i64 z.ce, .int .i64 z.st, .slice ao' z.vn ca', .slice yo' z.dn yc']) := CW.out.below hh
  clear hh
  have hsm2 : ∀ b, b < wc.heap.size ∨ wd.heap.size ≤ b → ¬ (yo = some ⟨b, 0, none⟩ ∨ ao = some ⟨b, 0, none⟩) := fun b hb e => by have := HXW.out b e; omega
  have HNX : Hid (∀ b, b < wc.heap.size ∨ wd.heap.size ≤ b → ¬ (yo = some ⟨b, 0, none⟩ ∨ ao = some ⟨b, 0, none⟩)) := hsm2
  have s5 := CS2.out 5 _ rfl
  have s4 := CS2.out 4 _ rfl
  clear hsm2
  go_wp2_with fail
  go_loopw [14] (fun y wr => ∃ j : Nat, j ≤ z.dn ∧ y = .int .i64 (j : Int) ∧ (∃ G, Hid (OwU wc.heap.size wr yo z.dn yc G)) ∧ Hid (Own wc.heap.size wr ao z.vn ca z.V) ∧ Hid (Only (fun b => yo = some ⟨b, 0, none⟩ ∨ ao = some ⟨b, 0, none⟩) wh wr)) (fun y _ => z.dn - (intOf y).toNat)
  case atStart => exact ⟨0, Nat.zero_le _, rfl, ⟨z.D, HG1.out.bec⟩, HG1.out.vec, Only.refl _ _⟩
  case round =>
    obtain ⟨j, hj, rfl, ⟨G, hG⟩, hV, hO⟩ := hrel
    have x5 := hO.out.cell s5 (HNX.out _ (.inr (Nat.le_refl _)))
    have x4 := hO.out.cell s4 (HNX.out _ (.inr (Nat.le_refl _)))
    by_cases hlt : j < z.dn
    · obtain ⟨g, hyg, _, _⟩ := hG.out.at_ (by omega)
      subst hyg
      have ck := hG.out.cell hlt
      have fk := hG.out.free j
      have i1 : (0 : Int) ≤ (j : Int) := by omega
      have i2 : (j : Int) < (z.dn : Int) := by omega
      have HS : Hid (OwU wc.heap.size (wr.setCell ⟨g, j, none⟩ (.int .u8 99)) (some ⟨g, 0, none⟩) z.dn yc (put j 99 G)) := hG.out.set j 99
      have HVS : Hid (Own wc.heap.size (wr.setCell ⟨g, j, none⟩ (.int .u8 99)) ao z.vn ca z.V) := own_keep hV.out hG.out j _
      have HSO : Hid (Only (fun b => some (⟨g, 0, none⟩ : Addr) = some ⟨b, 0, none⟩ ∨ ao = some ⟨b, 0, none⟩) wh (wr.setCell ⟨g, j, none⟩ (.int .u8 99))) := hO.out.setCell (p := ⟨g, j, none⟩) (.inl rfl) _
      go_wp2
      go_roundw
      case rel => exact ⟨j + 1, by omega, by go_num, ⟨_, HS⟩, HVS, HSO⟩
      case measure => simp [intOf]; omega
    · have HV2 : Hid (Own wc.heap.size wr ao z.vn ca z.V) := hV
      have HO2 : Hid (Only (fun b => yo = some ⟨b, 0, none⟩ ∨ ao = some ⟨b, 0, none⟩) wh wr) := hO
      clear hG hV hO
      obtain ⟨wm, rfl⟩ : ∃ y, y = wr := ⟨wr, rfl⟩
      go_wp2_with fail
      go_loopw [15] (fun y wr => ∃ j : Nat, j ≤ z.vn ∧ y = .int .i64 (j : Int) ∧ (∃ G, Hid (Own wc.heap.size wr ao z.vn ca G)) ∧ Hid (Only (fun b => yo = some ⟨b, 0, none⟩ ∨ ao = some ⟨b, 0, none⟩) wh wr)) (fun y _ => z.vn - (intOf y).toNat)
      case atStart => exact ⟨0, Nat.zero_le _, rfl, ⟨z.V, HV2⟩, HO2⟩
      case round =>
        obtain ⟨j, hj, rfl, ⟨G, hG⟩, hO⟩ := hrel
        have x4 := hO.out.cell s4 (HNX.out _ (.inr (Nat.le_refl _)))
        by_cases hlt : j < z.vn
        · obtain ⟨g, hyg, _, _⟩ := hG.out.at_ (by omega)
          subst hyg
          have ck := hG.out.cell hlt
          have fk := hG.out.free j
          have i1 : (0 : Int) ≤ (j : Int) := by omega
          have i2 : (j : Int) < (z.vn : Int) := by omega
          have HS : Hid (Own wc.heap.size (wr.setCell ⟨g, j, none⟩ (.int .i64 (-9))) (some ⟨g, 0, none⟩) z.vn ca (put j (-9) G)) := hG.out.set j (-9)
          have HSO : Hid (Only (fun b => yo = some ⟨b, 0, none⟩ ∨ some (⟨g, 0, none⟩ : Addr) = some ⟨b, 0, none⟩) wh (wr.setCell ⟨g, j, none⟩ (.int .i64 (-9)))) := hO.out.setCell (p := ⟨g, j, none⟩) (.inr rfl) _
          go_wp2
          go_roundw
          case rel => exact ⟨j + 1, by omega, by go_num, ⟨_, HS⟩, HSO⟩
          case measure => simp [intOf]; omega
        · have l1 := HLC.out
          have l2 := HD.out.size
          have l3 := HLE.out
          have l4 := HLF.out
          have HCR : Hid (Bec wr (some ⟨wa.heap.size, 0, none⟩) n cc F) := ((HCE.out.below HE.out).below HH.out).onlyn hO.out fun _ a ha => by cases ha; exact HNX.out _ (.inl l1.1)
          have HBR : Hid (Bec wr bo n cb F) := ((HBE.out.below (below_then HB0.out (below_then HC.out HE.out))).below HH.out).onlyn hO.out fun hn a ha => HNX.out _ (.inl (by have := HBE.out.blk hn ha; omega))
          have HPR : Hid (Cel wr w.heap.size [.int .i64 k, .int .i64 r, .int .i64 c, .int .i64 q]) := ((CP.out.below (below_then HC.out HE.out)).below HH.out).only hO.out (HNX.out _ (.inl (by omega)))
          have HWR : Hid (Cel wr wf.heap.size [.int .u8 ((z.kd.toNat : Nat) : Int), .int .i64 z.ix, .int .i64 z.ce, .int .i64 z.st, .slice ao' z.vn ca', .slice yo' z.dn yc']) := CW2.out.only hO.out (HNX.out _ (.inr (by omega)))
          have HGR : Hid (Got we.heap.size wr z ao' ca' yo' yc') := ⟨HG2.out.vec.stay fun g hg hl => hO.out.block g hl (HNX.out _ (.inr (by omega))), HG2.out.bec.stay fun g hg hl => hO.out.block g hl (HNX.out _ (.inr (by omega)))⟩
          have HRW : Hid (Below w.heap.size w wr) := by
            have h1 := below_then HB0.out (below_then HC.out (below_then HE.out HH.out))
            exact h1.trans (hO.out.below (fun b hb => by have := (HXW.out b hb).1; omega) h1.size)
          clear hG hO l1 l2 l3 l4
          have pc := HPR.out
          have p0 := pc 0 _ rfl
          have p1 := pc 1 _ rfl
          have p2 := pc 2 _ rfl
          have p3 := pc 3 _ rfl
          clear pc
          go_wp2_with fail
          refine (HPA.out _ _ cc HCR.out).mono ?_
          rintro e wi ⟨a3, c3, y3, k3, rfl, hg, hwi⟩
          obtain ⟨wj, hwj⟩ : ∃ wj, wj = wi.alloc (.cells #[.int .u8 ((z.kd.toNat : Nat) : Int), .int .i64 z.ix, .int .i64 z.ce, .int .i64 z.st, .slice a3 z.vn c3, .slice y3 z.dn k3] 27) := ⟨_, rfl⟩
          have bj : Below wi.heap.size wi wj := by rw [hwj]; exact below_alloc _ _
          have HIJ : Hid (Below wr.heap.size wr wj) := below_then hwi bj
          have HG3 : Hid (Has wj z a3 c3 y3 k3) := hg.has.below bj
          have u1 : ∀ o, (convert 25 9 (.slice (some ⟨wa.heap.size, 0, none⟩) n cc)).run Try.prog (wi.alloc o) = .ok (.string (sOf (lsF n F))) (wi.alloc o) := fun o => conv_any (HCR.out.below (below_then hwi (below_alloc _ _)))
          have u2 : ∀ o, (convert 25 9 (.slice bo n cb)).run Try.prog (wi.alloc o) = .ok (.string (sOf (lsF n F))) (wi.alloc o) := fun o => conv_any (HBR.out.below (below_then hwi (below_alloc _ _)))
          have sw := HWR.out.below hwi
          clear p0 p1 p2 p3
          have sw : ∀ o i u, [.int .u8 ((z.kd.toNat : Nat) : Int), .int .i64 z.ix, .int .i64 z.ce, .int .i64 z.st, .slice ao' z.vn ca', .slice yo' z.dn yc'][i]? = some u → (wi.alloc o).cell? ⟨wf.heap.size, i, none⟩ = some u := fun o i u hu => held (sw i u hu) (below_alloc _ _)
          have s0 := fun o => sw o 0 _ rfl
          have s1 := fun o => sw o 1 _ rfl
          have s2 := fun o => sw o 2 _ rfl
          have s3 := fun o => sw o 3 _ rfl
          have s4 := fun o => sw o 4 _ rfl
          have s5 := fun o => sw o 5 _ rfl
          clear sw
          clear sw hg hwi bj
          go_wp2_with fail
          rw [← hwj]
          clear hwj u1 u2
          clear s0 s1 s2 s3 s4 s5
          refine (HSM.out _ a3 c3 y3 k3 ao' ca' yo' yc' HG3.out (HGR.out.has.below HIJ.out)).mono ?_
          rintro e wk ⟨rfl, hk⟩
          go_wp2_with fail
          go_ret
          exact ⟨by cases i <;> rfl, below_then (below_then HRW.out HIJ.out) hk⟩
end Go.Proofs.Ytcippamdjmonlaa
