/- Images behind raw writes that may be, as the document makes them. -/
import Derived.Test.YtenlfhdchflnjaaDocF
namespace Go.Proofs.Ytenlfhdchflnjaa
open Go.RowKit

section
variable {k r c q : Int} {n : Nat} {F : Nat → List UInt8} {N Q S : Nat} {D : Nat → Pt} {ln : Nat}
set_option maxHeartbeats 4000000 in
set_option maxRecDepth 100000 in
theorem AfterD_ok (hck : Ck k r c q n F 0 N Q S) (hln : ln ≤ 65536) (ht : ∀ i, i < ln → takB N Q S (D i) = true) (m : Nat) (hm : m ≤ ln) (lo : Option Addr) (cl : Nat) (A : Nat → Option Addr) (C : Nat → Nat) (po : Option Addr) (pc : Nat) (B : Nat → Option Addr) (K : Nat → Nat) {Z : Nat → Prop} (w : World) (hl : Lst w lo n A C F) (hp : Pts w Z po ln D B K) :
    Calls Try.prog 24 #[.agg #[.int .i64 k, .int .i64 r, .int .i64 c, .int .i64 q, .slice lo n cl], .slice po ln pc, .int .i64 (m : Int)] w fun e w' => ∃ lo' cl' A' C', e = .returned (.tuple #[.agg #[.int .i64 k, .int .i64 r, .int .i64 c, .int .i64 q, .slice lo' n cl'], .int .i64 0]) ∧ Nl w.heap.size w' lo' n A' C' (aft Q D m F) ∧ Below w.heap.size w w' := by
  obtain ⟨w0, hw0⟩ : ∃ w0, w0 = w.alloc (.cells #[.int .i64 k, .int .i64 r, .int .i64 c, .int .i64 q, .slice lo n cl] 27) := ⟨_, rfl⟩
  obtain ⟨w1, hw1⟩ : ∃ w1, w1 = w0.alloc (.cells #[.int .i64 0, .int .i64 0, .int .i64 0, .int .i64 0, .slice none 0 0] 27) := ⟨_, rfl⟩
  have b0 : Below w.heap.size w w0 := by rw [hw0]; exact below_alloc _ _
  have b1 : Below w0.heap.size w0 w1 := by rw [hw1]; exact below_alloc _ _
  have z0 : w0.heap.size = w.heap.size + 1 := by rw [hw0]; simp
  have z1 : w1.heap.size = w.heap.size + 2 := by rw [hw1]; simp; omega
  have SH : Hid (∀ v, Below w1.heap.size w1 v → v.cell? ⟨w.heap.size, 0, none⟩ = some (.int .i64 k) ∧ v.cell? ⟨w.heap.size, 1, none⟩ = some (.int .i64 r) ∧ v.cell? ⟨w.heap.size, 2, none⟩ = some (.int .i64 c) ∧ v.cell? ⟨w.heap.size, 3, none⟩ = some (.int .i64 q) ∧ v.cell? ⟨w.heap.size, 4, none⟩ = some (.slice lo n cl)) := fun v hv => img_held hw0 (below_then b1 hv)
  have MH : Hid (∀ v, Below w1.heap.size w1 v → (v.cell? ⟨w.heap.size + 1, 0, none⟩ = some (.int .i64 0) ∧ v.cell? ⟨w.heap.size + 1, 1, none⟩ = some (.int .i64 0) ∧ v.cell? ⟨w.heap.size + 1, 2, none⟩ = some (.int .i64 0) ∧ v.cell? ⟨w.heap.size + 1, 3, none⟩ = some (.int .i64 0) ∧ v.cell? ⟨w.heap.size + 1, 4, none⟩ = some (.slice none 0 0)) ∧ ∀ i, v.frozen? ⟨w.heap.size + 1, i, none⟩ = false) := fun v hv => by rw [← z0]; exact ⟨img_held hw1 hv, blk_free hw1 hv⟩
  have HB1 : Hid (Below w.heap.size w w1) := below_then b0 b1
  have HC := Check_doc hck lo cl A C w1 (hl.below HB1.out)
  have HL : Hid (Lst w lo n A C F) := hl
  obtain ⟨hpm, hne, hfit⟩ := hck.ok rfl
  have hbn := hpm.bounds
  have HPM : Hid (Pm k r c q N Q S) := hpm
  have HNE : Hid (n = N * Q * 2) := hne
  have HP : Hid (Pts w Z po ln D B K) := hp
  have HTK : Hid (∀ i, i < ln → takB N Q S (D i) = true) := ht
  have HFT : Hid (∀ i, i < n → (F i).length ≤ 140) := fun i hi => by rcases hfit i hi with h | h <;> omega
  have hn1 : n ≤ 8192 := by omega
  have hn2 : 0 < n := by omega
  have hS2 : S ≤ 140 := hbn.2.2.2.2.2.1
  have hx2 : (ln : Int) ≤ 65536 := by omega
  clear hck hl hp ht hpm hne hfit hbn
  go_enter Try.func24, Try.ntmps24
  go_wp2_with fail
  rw [← hw0, ← hw1]
  clear hw0 hw1 b0 b1 z0
  refine HC.mono ?_
  rintro e wa ⟨rfl, ha⟩
  have HA : Hid (Below w1.heap.size w1 wa) := ha
  clear ha HC
  go_wp2_with fail
  go_loopw [9] (fun x wr => ∃ i : Nat, i ≤ ln ∧ x = .int .i64 i ∧ Hid (∀ j, j < i → takB N Q S (D j) = true) ∧ Hid (Below w1.heap.size w1 wr)) (fun x _ => ln - (intOf x).toNat)
  case atStart => exact ⟨0, Nat.zero_le _, rfl, fun j hj => absurd hj (Nat.not_lt_zero _), HA.out⟩
  case round =>
    obtain ⟨i, hi, rfl, hg, hb⟩ := hrel
    by_cases hlt : i < ln
    · have hpw := HP.out.below (below_then HB1.out hb.out)
      obtain ⟨b, off, rfl, hc⟩ := hpw.at_ (by omega)
      have hcx := hc i hlt
      obtain ⟨y, hy⟩ : ∃ y, y = D i := ⟨_, rfl⟩
      obtain ⟨bl, hbl⟩ : ∃ bl, bl = y.b.length := ⟨_, rfl⟩
      obtain ⟨zt, hzt⟩ : ∃ zt, zt = takB N Q S y := ⟨_, rfl⟩
      have HZT : Hid (zt = takB N Q S (D i)) := by rw [← hy]; exact hzt
      rw [← hy, ← hbl] at hcx
      have HMY : Hid (∀ v, Calls Try.prog 53 #[.agg #[.int .i64 k, .int .i64 r, .int .i64 c, .int .i64 q], .agg #[.int .i64 y.d, .int .i64 y.r, .int .i64 y.s, .slice (B i) bl (K i)]] v fun e w' => e = .returned (.bool zt) ∧ Below v.heap.size v w') := fun v => by rw [hzt, hbl]; exact MayPut_any HPM.out y (B i) (K i) v
      have CH : Hid (∀ v, Below wr.heap.size wr v → (v.cell? ⟨w.heap.size, 0, none⟩ = some (.int .i64 k) ∧ v.cell? ⟨w.heap.size, 1, none⟩ = some (.int .i64 r) ∧ v.cell? ⟨w.heap.size, 2, none⟩ = some (.int .i64 c) ∧ v.cell? ⟨w.heap.size, 3, none⟩ = some (.int .i64 q) ∧ v.cell? ⟨w.heap.size, 4, none⟩ = some (.slice lo n cl)) ∧ v.cell? ⟨b, off + i * 4, none⟩ = some (.int .i64 y.d) ∧ v.cell? ⟨b, off + i * 4 + 1, none⟩ = some (.int .i64 y.r) ∧ v.cell? ⟨b, off + i * 4 + 2, none⟩ = some (.int .i64 y.s) ∧ v.cell? ⟨b, off + i * 4 + 3, none⟩ = some (.slice (B i) bl (K i))) := fun v hv => ⟨SH.out v (below_then hb.out hv), held hcx.1 hv, held hcx.2.1 hv, held hcx.2.2.1 hv, held hcx.2.2.2 hv⟩
      obtain ⟨⟨a0, a1, a2, a3, a4⟩, x0, x1, x2, x3⟩ := CH.out wr (Below.refl _ _)
      have i1 : (0 : Int) ≤ (i : Int) := by omega
      have i2 : (i : Int) < (ln : Int) := by omega
      clear hpw hc hcx hy hbl hzt
      go_wp2_with fail
      go_region_held3 (fun v => (v.cell? ⟨w.heap.size, 0, none⟩ = some (.int .i64 k) ∧ v.cell? ⟨w.heap.size, 1, none⟩ = some (.int .i64 r) ∧ v.cell? ⟨w.heap.size, 2, none⟩ = some (.int .i64 c) ∧ v.cell? ⟨w.heap.size, 3, none⟩ = some (.int .i64 q) ∧ v.cell? ⟨w.heap.size, 4, none⟩ = some (.slice lo n cl)) ∧ v.cell? ⟨b, off + i * 4, none⟩ = some (.int .i64 y.d) ∧ v.cell? ⟨b, off + i * 4 + 1, none⟩ = some (.int .i64 y.r) ∧ v.cell? ⟨b, off + i * 4 + 2, none⟩ = some (.int .i64 y.s) ∧ v.cell? ⟨b, off + i * 4 + 3, none⟩ = some (.slice (B i) bl (K i))) (go_keep) ((go_at_call 53; refine (HMY.out _).mono ?_; rintro e wy ⟨rfl, hy2⟩; have HYB : Hid (Below wr.heap.size wr wy) := of_drew hy2; obtain ⟨⟨q0, q1, q2, q3, q4⟩, q5, q6, q7, q8⟩ := CH.out wy HYB.out; clear hy2))
      all_goals
        cases zt with
        | true =>
          go_wp2_with fail
          go_roundw
          case rel => exact ⟨i + 1, by omega, by go_num, fun j hj => by rcases Nat.lt_succ_iff_lt_or_eq.1 hj with g | rfl; exact hg.out j g; exact HZT.out.symm, below_then hb.out HYB.out⟩
          case measure => simp [intOf]; omega
        | false =>
          exact absurd (HZT.out.trans (HTK.out i hlt)) (by decide)
    · obtain rfl : i = ln := by omega
      have hm1 : (0 : Int) ≤ (m : Int) := by omega
      have hm2 : (m : Int) ≤ (i : Int) := by omega
      obtain ⟨wm, rfl⟩ : ∃ x, x = wr := ⟨wr, rfl⟩
      obtain ⟨a0, a1, a2, a3, a4⟩ := SH.out wm hb.out
      go_wp2_with fail
      refine (Twin_any k r c q wm lo n cl A C F (HL.out.below (below_then HB1.out hb.out)) (by omega) (fun i hi => by have := HFT.out i hi; omega)).mono ?_
      rintro e wt ⟨lo2, cl2, A1, C1, rfl, how, hsl, hwt⟩
      obtain ⟨l, rfl, hrs⟩ := own_rsl how hsl hn2
      have HRS : Hid (RSl wt (fun b => wm.heap.size + 3 ≤ b) l n A1 C1 F) := hrs
      have hlt : l < wt.heap.size := World.block_lt_of_cell? wt _ (hrs.cell 0 hn2)
      have hlV : wm.heap.size + 3 ≤ l := hrs.own
      have HT : Hid (Below wm.heap.size wm wt) := hwt
      clear how hsl hrs hwt
      obtain ⟨wd, hwd⟩ : ∃ wd, wd = wt.alloc (.cells #[.int .i64 k, .int .i64 r, .int .i64 c, .int .i64 q, .slice (some ⟨l, 0, none⟩) n cl2] 27) := ⟨_, rfl⟩
      have HTD : Hid (Below wt.heap.size wt wd) := by rw [hwd]; exact below_alloc _ _
      have HVD : Hid (Blk wd wt.heap.size 27 [.int .i64 k, .int .i64 r, .int .i64 c, .int .i64 q, .slice (some ⟨l, 0, none⟩) n cl2]) := by rw [hwd]; exact blk_new wt 27 _
      have hzd : wd.heap.size = wt.heap.size + 1 := by rw [hwd]; simp
      have hzw := hb.out.size
      have hzm := HT.out.size
      have HMD : Hid (Below w1.heap.size w1 wd) := below_then hb.out (below_then HT.out HTD.out)
      have HWD : Hid (Below w.heap.size w wd) := below_then HB1.out HMD.out
      have HRD0 : Hid (RSl wd (fun b => wm.heap.size + 3 ≤ b) l n A1 C1 F) := HRS.out.only (X := fun _ => False) (.of_below HTD.out) (fun _ _ h => h)
      have SV : Hid (∀ v, Only (fun b => b = l) wd v → Blk v wt.heap.size 27 [.int .i64 k, .int .i64 r, .int .i64 c, .int .i64 q, .slice (some ⟨l, 0, none⟩) n cl2]) := fun v hv => HVD.out.only hv (by omega)
      have SS : Hid (∀ v, Only (fun b => b = l) wd v → v.cell? ⟨w.heap.size, 0, none⟩ = some (.int .i64 k) ∧ v.cell? ⟨w.heap.size, 1, none⟩ = some (.int .i64 r) ∧ v.cell? ⟨w.heap.size, 2, none⟩ = some (.int .i64 c) ∧ v.cell? ⟨w.heap.size, 3, none⟩ = some (.int .i64 q) ∧ v.cell? ⟨w.heap.size, 4, none⟩ = some (.slice lo n cl)) := fun v hv => by
        obtain ⟨a0, a1, a2, a3, a4⟩ := SH.out wd HMD.out
        have hne : ¬ (w.heap.size = l) := by omega
        exact ⟨hv.cell a0 hne, hv.cell a1 hne, hv.cell a2 hne, hv.cell a3 hne, hv.cell a4 hne⟩
      have SM : Hid (∀ v, Only (fun b => b = l) wd v → (v.cell? ⟨w.heap.size + 1, 0, none⟩ = some (.int .i64 0) ∧ v.cell? ⟨w.heap.size + 1, 1, none⟩ = some (.int .i64 0) ∧ v.cell? ⟨w.heap.size + 1, 2, none⟩ = some (.int .i64 0) ∧ v.cell? ⟨w.heap.size + 1, 3, none⟩ = some (.int .i64 0) ∧ v.cell? ⟨w.heap.size + 1, 4, none⟩ = some (.slice none 0 0)) ∧ ∀ i, v.frozen? ⟨w.heap.size + 1, i, none⟩ = false) := fun v hv => by
        obtain ⟨⟨a0, a1, a2, a3, a4⟩, a5⟩ := MH.out wd HMD.out
        have hne : ¬ (w.heap.size + 1 = l) := by omega
        exact ⟨⟨hv.cell a0 hne, hv.cell a1 hne, hv.cell a2 hne, hv.cell a3 hne, hv.cell a4 hne⟩, fun i => (World.frozen?_of_block (hv.block (w.heap.size + 1) (by omega) hne)).trans (a5 i)⟩
      clear a0 a1 a2 a3 a4
      go_wp2_with fail
      rw [← hwd]
      clear hwd
      go_loopw [11] (fun x wr => ∃ j : Nat, j ≤ m ∧ x = .int .i64 j ∧ Hid (∃ A' C', RSl wr (fun b => wm.heap.size + 3 ≤ b) l n A' C' (aft Q D j F)) ∧ Hid (Only (fun b => b = l) wd wr)) (fun x _ => m - (intOf x).toNat)
      case atStart => exact ⟨0, Nat.zero_le _, rfl, ⟨_, _, HRD0.out⟩, Only.refl _ _⟩
      case round =>
        obtain ⟨j, hj, rfl, hs, ho⟩ := hrel
        have hbw : Below w.heap.size w wr := HWD.out.trans (ho.out.below (fun i h => by omega) (by omega))
        by_cases hlj : j < m
        · have hpw := HP.out.below hbw
          obtain ⟨b, off, rfl, hc⟩ := hpw.at_ (by omega)
          have hcx := hc j (by omega)
          have hrd := hpw.rd j (by omega)
          have hni := hpw.nil j (by omega)
          obtain ⟨y, hy⟩ : ∃ y, y = D j := ⟨_, rfl⟩
          have HY : Hid (y = D j) := hy
          obtain ⟨bl, hbl⟩ : ∃ bl, bl = y.b.length := ⟨_, rfl⟩
          have HBL : Hid (bl = y.b.length) := hbl
          have hty := HTK.out j (by omega)
          rw [← hy, ← hbl] at hcx
          rw [← hy] at hrd hni hty
          obtain ⟨k0, k1, k2, k3⟩ := hcx
          obtain ⟨hh, hlen⟩ := tak_has hty
          obtain ⟨pz, hpz⟩ : ∃ pz, pz = plc Q y.d y.r y.s := ⟨_, rfl⟩
          have HPZ : Hid (pz = plc Q y.d y.r y.s) := hpz
          have hpl := plc_lt hh
          rw [← HNE.out, ← hpz] at hpl
          have HNU : Hid (∀ v, Calls Try.prog 54 #[.agg #[.int .i64 k, .int .i64 r, .int .i64 c, .int .i64 q], .int .i64 y.d, .int .i64 y.r, .int .i64 y.s] v fun e w' => e = .returned (.int .i64 (pz : Int)) ∧ Below v.heap.size v w') := fun v => by
            have := Number_any HPM.out y.d y.r y.s v
            unfold numZ at this
            rwa [if_pos hh, ← hpz] at this
          obtain ⟨wx, hwx⟩ : ∃ wx, wx = wr.alloc (.cells #[.int .i64 y.d, .int .i64 y.r, .int .i64 y.s, .slice (B j) bl (K j)] 35) := ⟨_, rfl⟩
          have bx : Below wr.heap.size wr wx := by rw [hwx]; exact below_alloc _ _
          have zx : wx.heap.size = wr.heap.size + 1 := by rw [hwx]; simp
          have hzr := ho.out.size
          have HRD : Hid (∀ v, Below wx.heap.size wx v → RdB v (B j) y.b) := fun v hv => hrd.below (below_then bx hv)
          have HNI : Hid (B j = none → y.b = [] ∧ K j = 0) := hni
          have HFI : Hid (y.b.length ≤ 140737488355328) := by show _ ≤ _; omega
          have CH : Hid (∀ v, Below wx.heap.size wx v → v.cell? ⟨wt.heap.size, 4, none⟩ = some (.slice (some ⟨l, 0, none⟩) n cl2) ∧ v.cell? ⟨w.heap.size, 0, none⟩ = some (.int .i64 k) ∧ v.cell? ⟨w.heap.size, 1, none⟩ = some (.int .i64 r) ∧ v.cell? ⟨w.heap.size, 2, none⟩ = some (.int .i64 c) ∧ v.cell? ⟨w.heap.size, 3, none⟩ = some (.int .i64 q) ∧ v.cell? ⟨wr.heap.size, 0, none⟩ = some (.int .i64 y.d) ∧ v.cell? ⟨wr.heap.size, 1, none⟩ = some (.int .i64 y.r) ∧ v.cell? ⟨wr.heap.size, 2, none⟩ = some (.int .i64 y.s) ∧ v.cell? ⟨wr.heap.size, 3, none⟩ = some (.slice (B j) bl (K j))) := fun v hv => by
            obtain ⟨s0, s1, s2, s3, s4⟩ := SS.out wr ho.out
            have hv2 := below_then bx hv
            exact ⟨held ((SV.out wr ho.out).cell rfl) hv2, held s0 hv2, held s1 hv2, held s2 hv2, held s3 hv2, blk_held hwx hv 0 rfl, blk_held hwx hv 1 rfl, blk_held hwx hv 2 rfl, blk_held hwx hv 3 rfl⟩
          obtain ⟨A2, C2, hs1⟩ := hs.out
          obtain ⟨c0, c1, c2, c3, c4, c5, c6, c7, c8⟩ := CH.out wx (Below.refl _ _)
          have i1 : (0 : Int) ≤ (j : Int) := by omega
          have i2 : (j : Int) < (m : Int) := by omega
          have i3 : (j : Int) < (i : Int) := by omega
          have j1 : (0 : Int) ≤ (pz : Int) := by omega
          have j2 : (pz : Int) < (n : Int) := by omega
          clear hpw hc hrd hni hy hbl hty hh hlen hpz
          go_wp2_with fail
          rw [← hwx]
          clear hwx k0 k1 k2 k3
          go_region_held3 (fun v => v.cell? ⟨wt.heap.size, 4, none⟩ = some (.slice (some ⟨l, 0, none⟩) n cl2) ∧ v.cell? ⟨w.heap.size, 0, none⟩ = some (.int .i64 k) ∧ v.cell? ⟨w.heap.size, 1, none⟩ = some (.int .i64 r) ∧ v.cell? ⟨w.heap.size, 2, none⟩ = some (.int .i64 c) ∧ v.cell? ⟨w.heap.size, 3, none⟩ = some (.int .i64 q) ∧ v.cell? ⟨wr.heap.size, 0, none⟩ = some (.int .i64 y.d) ∧ v.cell? ⟨wr.heap.size, 1, none⟩ = some (.int .i64 y.r) ∧ v.cell? ⟨wr.heap.size, 2, none⟩ = some (.int .i64 y.s) ∧ v.cell? ⟨wr.heap.size, 3, none⟩ = some (.slice (B j) bl (K j))) (go_keep)
            (first
              | (go_at_call 54; refine (HNU.out _).mono ?_; rintro e wf ⟨rfl, hf⟩; have HFF : Hid (Below wx.heap.size wx wf) := of_drew hf; obtain ⟨f0, f1, f2, f3, f4, f5, f6, f7, f8⟩ := CH.out wf HFF.out; clear hf)
              | (refine step_app (by rfl) (.tmp 70) (.tmp 72) (by rfl) (by simp [Act.eval]) (B j) bl (K j) y.b (by simp [Act.eval]) HBL.out (HRD.out _ HFF.out) HNI.out HFI.out ?_; rintro ao cap wg ⟨hb1, hb2, hb3, hb5⟩; have HG : Hid (Below wx.heap.size wx wg) := below_then HFF.out hb5; obtain ⟨g0, g1, g2, g3, g4, g5, g6, g7, g8⟩ := CH.out wg HG.out; have HX : Hid (RSl wg (fun b => wm.heap.size + 3 ≤ b) l n A2 C2 (aft Q D j F)) := hs1.only (X := fun _ => False) (.of_below (below_then bx HG.out)) (fun _ _ h => h); have cc := HX.out.cell pz hpl; have cf := HX.out.free pz hpl; have hzf := HFF.out.size; have HO : Hid (RdB wg ao y.b ∧ (∀ a, ao = some a → wm.heap.size + 3 ≤ a.block ∧ a.block ≠ l) ∧ (ao = none → y.b = [] ∧ cap = 0)) := ⟨hb1, fun a ha => by have := (hb2 a ha).1; exact ⟨by omega, by omega⟩, hb3⟩; have o0 : ∀ u, (wg.setCell ⟨l, pz, none⟩ u).cell? ⟨wt.heap.size, 4, none⟩ = some (.slice (some ⟨l, 0, none⟩) n cl2) := fun u => set_cell g0 (by show wt.heap.size ≠ l; omega) u; have o1 : ∀ u, (wg.setCell ⟨l, pz, none⟩ u).cell? ⟨w.heap.size, 0, none⟩ = some (.int .i64 k) := fun u => set_cell g1 (by show w.heap.size ≠ l; omega) u; have o2 : ∀ u, (wg.setCell ⟨l, pz, none⟩ u).cell? ⟨w.heap.size, 1, none⟩ = some (.int .i64 r) := fun u => set_cell g2 (by show w.heap.size ≠ l; omega) u; have o3 : ∀ u, (wg.setCell ⟨l, pz, none⟩ u).cell? ⟨w.heap.size, 2, none⟩ = some (.int .i64 c) := fun u => set_cell g3 (by show w.heap.size ≠ l; omega) u; have o4 : ∀ u, (wg.setCell ⟨l, pz, none⟩ u).cell? ⟨w.heap.size, 3, none⟩ = some (.int .i64 q) := fun u => set_cell g4 (by show w.heap.size ≠ l; omega) u; have o5 : ∀ u, (wg.setCell ⟨l, pz, none⟩ u).cell? ⟨wr.heap.size, 0, none⟩ = some (.int .i64 y.d) := fun u => set_cell g5 (by show wr.heap.size ≠ l; omega) u; have o6 : ∀ u, (wg.setCell ⟨l, pz, none⟩ u).cell? ⟨wr.heap.size, 1, none⟩ = some (.int .i64 y.r) := fun u => set_cell g6 (by show wr.heap.size ≠ l; omega) u; have o7 : ∀ u, (wg.setCell ⟨l, pz, none⟩ u).cell? ⟨wr.heap.size, 2, none⟩ = some (.int .i64 y.s) := fun u => set_cell g7 (by show wr.heap.size ≠ l; omega) u; have o8 : ∀ u, (wg.setCell ⟨l, pz, none⟩ u).cell? ⟨wr.heap.size, 3, none⟩ = some (.slice (B j) bl (K j)) := fun u => set_cell g8 (by show wr.heap.size ≠ l; omega) u; clear hb1 hb2 hb3 hb5))
          all_goals
            go_wp2_with fail
            go_roundw
            case rel =>
              refine ⟨j + 1, by omega, by go_num, ⟨upd pz ao A2, upd pz cap C2, ?_⟩, ?_⟩
              · show RSl _ _ _ _ _ _ (upd (plc Q (D j).d (D j).r (D j).s) (D j).b (aft Q D j F))
                rw [← HY.out, ← HPZ.out, HBL.out]
                exact HX.out.put pz ao cap y.b HO.out.1 HO.out.2.1 HO.out.2.2
              · exact ((ho.out.then bx).then HG.out).setCell (p := ⟨l, pz, none⟩) rfl _
            case measure => simp [intOf]; omega
        · obtain rfl : j = m := by omega
          obtain ⟨⟨m0, m1, m2, m3, m4⟩, m5⟩ := SM.out wr ho.out
          have hv := SV.out wr ho.out
          have v0 : wr.cell? ⟨wt.heap.size, 0, none⟩ = some (.int .i64 k) := hv.cell rfl
          have v1 : wr.cell? ⟨wt.heap.size, 1, none⟩ = some (.int .i64 r) := hv.cell rfl
          have v2 : wr.cell? ⟨wt.heap.size, 2, none⟩ = some (.int .i64 c) := hv.cell rfl
          have v3 : wr.cell? ⟨wt.heap.size, 3, none⟩ = some (.int .i64 q) := hv.cell rfl
          have v4 : wr.cell? ⟨wt.heap.size, 4, none⟩ = some (.slice (some ⟨l, 0, none⟩) n cl2) := hv.cell rfl
          clear hv
          go_wp2_with fail
          refine bodyPost_ret (v := .tuple #[.agg #[.int .i64 k, .int .i64 r, .int .i64 c, .int .i64 q, .slice (some ⟨l, 0, none⟩) n cl2], .int .i64 0]) (by simp [results, Try.results24, go_sem, m0, m1, m2, m3, m4]) rfl ?_
          obtain ⟨A2, C2, hs1⟩ := hs.out
          have hO := only5 wr (w.heap.size + 1) (.int .i64 k) (.int .i64 r) (.int .i64 c) (.int .i64 q) (.slice (some ⟨l, 0, none⟩) n cl2)
          have hs2 := hs1.only hO (fun b h => by omega)
          have hB := hbw.trans (hO.below (fun b h => by omega) hbw.size)
          first
            | exact ⟨some ⟨l, 0, none⟩, cl2, A2, C2, rfl, hs2.nl (by omega), hB⟩
            | exact ⟨some ⟨l, 0, none⟩, ⟨cl2, rfl⟩, ⟨A2, C2, hs2.nl (by omega)⟩, hB⟩
end
end Go.Proofs.Ytenlfhdchflnjaa
