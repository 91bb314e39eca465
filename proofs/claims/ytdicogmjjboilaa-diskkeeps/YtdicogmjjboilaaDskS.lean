/- The walk of DiskKeeps: what was written is read, and nothing else is touched. -/
import Derived.Test.YtdicogmjjboilaaDskQ
namespace Go.Proofs.Ytdicogmjjboilaa
open Go.RowKit

theorem wrs_one (N Q S : Nat) (s : St) (x : Pt) : wrs N Q S s [x] = wr1 N Q S s x := by
  by_cases h : (wr1 N Q S s x).1 = 0
  · rw [wrs_go h]; exact Prod.ext h.symm rfl
  · exact wrs_stop h
theorem wr1_plain {N Q S : Nat} {s : St} (h1 : s.off = false) (h2 : s.cut = none) (x : Pt) : (wr1 N Q S s x = (80, s)) ∨ (wr1 N Q S s x = (0, { s with F := upd (plc Q x.d x.r x.s) x.b s.F, wr := wrap64 (s.wr + 1) }) ∧ takB N Q S x = true) := by
  by_cases ht : takB N Q S x = true
  · refine .inr ⟨?_, ht⟩
    unfold wr1
    rw [if_neg (by rw [h1]; decide), if_pos ht, h2]
  · refine .inl ?_
    unfold wr1
    rw [if_neg (by rw [h1]; decide), if_neg ht]
theorem wr1_gone (N Q S : Nat) (s : St) (x : Pt) : (wr1 N Q S s x).2.gone = s.gone := by
  unfold wr1
  split
  · rfl
  · split
    · split <;> rfl
    · rfl
theorem wrs_gone (N Q S : Nat) : ∀ (l : List Pt) (s : St), (wrs N Q S s l).2.gone = s.gone
  | [], s => rfl
  | x :: l, s => by
    by_cases h : (wr1 N Q S s x).1 = 0
    · rw [wrs_go h, wrs_gone N Q S l, wr1_gone]
    · rw [wrs_stop h, wr1_gone]
theorem quo_any (i Q : Nat) {n : Nat} (hn : n ≤ 8192) (hi : i ≤ n) : ∃ q : Nat, q = i / (2 * Q) ∧ Value.int .i64 (wrap64 ((i : Int) / (2 * (Q : Int)))) = .int .i64 (q : Int) ∧ q ≤ 8192 := by
  have h : i / (2 * Q) ≤ i := Nat.div_le_self _ _
  have e : (i : Int) / (2 * (Q : Int)) = ((i / (2 * Q) : Nat) : Int) := by simp
  obtain ⟨q, hq⟩ : ∃ q, q = i / (2 * Q) := ⟨_, rfl⟩
  rw [← hq] at e h
  exact ⟨q, hq, by rw [e, w64 _ (by omega)], by omega⟩
theorem below_dn (w : World) (m : Nat) : Below w.heap.size w (w.drewN m) := ⟨rfl, rfl, rfl, Nat.le_refl _, fun _ _ => rfl⟩
theorem gl_none : gl 16 (fun _ => false) = [] := by decide
theorem gl_one : ∀ d : Nat, d < 16 → gl 16 (upd d true fun _ => false) = [(d : Int)] := lt16 (by decide) (by decide) (by decide) (by decide) (by decide) (by decide) (by decide) (by decide) (by decide) (by decide) (by decide) (by decide) (by decide) (by decide) (by decide) (by decide)
theorem two_write_one {W w : World} {g1 g2 : Nat} {k r c : Int} {N Q S : Nat} {s1 s2 : St} (h : Two W w g1 g2 k r c N Q S s1 s2) (x : Pt) (ao : Option Addr) (cp : Nat) (hr : RdB w ao x.b) (hn : ao = none → x.b = [] ∧ cp = 0) (hz : x.b ≠ [] → ∀ a, ao = some a → a.block < W.heap.size) :
    Calls Try.prog 17 #[.pointer (some ⟨g1, 0, none⟩), .slice (some ⟨w.heap.size, 0, none⟩) 1 1] (w.alloc (.cells #[.int .i64 x.d, .int .i64 x.r, .int .i64 x.s, .slice ao x.b.length cp] 45)) fun e w' => e = .returned (.int .i64 (wr1 N Q S s1 x).1) ∧ Two W w' g1 g2 k r c N Q S (wr1 N Q S s1 x).2 s2 := by
  obtain ⟨w0, hw0⟩ : ∃ w0, w0 = w.alloc (.cells #[.int .i64 x.d, .int .i64 x.r, .int .i64 x.s, .slice ao x.b.length cp] 45) := ⟨_, rfl⟩
  have b0 : Below w.heap.size w w0 := by rw [hw0]; exact below_alloc _ _
  have z0 : w0.heap.size = w.heap.size + 1 := by rw [hw0]; simp
  have hx := x_held hw0 (Below.refl _ _)
  rw [← hw0]
  obtain ⟨Y1, Y2, h1, h2, h3, h4, h5, h6⟩ := h
  have hs := h6.size
  have hp : Pts w0 (fun b => b < W.heap.size ∨ b = w.heap.size) (some ⟨w.heap.size, 0, none⟩) 1 (fun _ => x) (fun _ => ao) (fun _ => cp) := by
    refine ⟨fun _ => ⟨w.heap.size, 0, rfl, fun i hi => ?_⟩, fun _ _ => hr.below b0, fun _ _ => hn, fun a _ e => by cases e; exact .inr rfl, fun _ a _ hb e => .inl (hz hb a e)⟩
    obtain rfl : i = 0 := by omega
    exact hx
  have HW := Write_any (h1.below b0) (some ⟨w.heap.size, 0, none⟩) 1 1 _ _ _ (by decide) hp (fun b hb => by omega) (fun b hb hc => by have := h4 b hb; have := h1.lt b hb; omega)
  rw [show pl (fun _ => x) 0 1 = [x] from rfl, wrs_one] at HW
  refine HW.mono fun e w' hc => ?_
  obtain ⟨p1, ⟨Y', p2, p3⟩, p4⟩ := hc
  exact ⟨p1, Two.did p2 p3 p4 (h2.below b0) h3 h4 h5 (below_then h6 b0)⟩
set_option maxHeartbeats 8000000 in
set_option maxRecDepth 100000 in
theorem keeps_walk (W : World) (k r c q : Int) (lo : Option Addr) (mn cl : Nat) (A : Nat → Option Addr) (C : Nat → Nat) (F : Nat → List UInt8) (hl : Lst W lo mn A C F) (po : Option Addr) (m pc : Nat) (D : Nat → Pt) (B : Nat → Option Addr) (K : Nat → Nat) (hp : Pts W (fun b => b < W.heap.size) po m D B K) (d : Int) :
    Calls Try.prog 6 #[.agg #[.int .i64 k, .int .i64 r, .int .i64 c, .int .i64 q, .slice lo mn cl], .slice po m pc, .int .i64 d] W fun e w' => e = .returned (.bool true) ∧ Below W.heap.size W w' := by
  have HL : Hid (Lst W lo mn A C F) := hl
  have HP : Hid (Pts W (fun b => b < W.heap.size) po m D B K) := hp
  obtain ⟨w0, hw0⟩ : ∃ w0, w0 = W.alloc (.cells #[.int .i64 k, .int .i64 r, .int .i64 c, .int .i64 q, .slice lo mn cl] 26) := ⟨_, rfl⟩
  have b0 : Below W.heap.size W w0 := by rw [hw0]; exact below_alloc _ _
  have z0 : w0.heap.size = W.heap.size + 1 := by rw [hw0]; simp
  have SH : Hid (∀ v, Below w0.heap.size w0 v → v.cell? ⟨W.heap.size, 0, none⟩ = some (.int .i64 k) ∧ v.cell? ⟨W.heap.size, 1, none⟩ = some (.int .i64 r) ∧ v.cell? ⟨W.heap.size, 2, none⟩ = some (.int .i64 c) ∧ v.cell? ⟨W.heap.size, 3, none⟩ = some (.int .i64 q) ∧ v.cell? ⟨W.heap.size, 4, none⟩ = some (.slice lo mn cl)) := fun v hv => img_held hw0 hv
  have HW := awake_any w0
  clear hl hp
  go_enter Try.func6, Try.ntmps6
  go_wp2_with fail
  rw [← hw0]
  clear hw0
  refine HW.mono ?_
  rintro e wa ⟨rfl, ha⟩
  obtain ⟨q0, q1, q2, q3, q4⟩ := SH.out _ ha
  have HB0 : Hid (Below w0.heap.size w0 wa) := ha
  have HB : Hid (Below W.heap.size W wa) := below_then b0 ha
  clear ha HW
  by_cases h200 : 200 < m
  · have e1 : (200 : Int) < (m : Int) := by omega
    go_wp2_with fail
    go_ret
    exact ⟨rfl, HB.out⟩
  have e1 : ¬ (200 : Int) < (m : Int) := by omega
  have e2 : (m : Int) ≤ 200 := by omega
  go_wp2_with fail
  refine (two_any k r c q lo mn cl A C F wa (HL.out.below HB.out)).mono ?_
  rintro e wb (⟨x, y, rfl, hb⟩ | ⟨g1, g2, N, Q, S, rfl, rfl, ht⟩)
  · have HB2 : Hid (Below W.heap.size W wb) := below_then HB.out hb
    clear hb
    go_wp2_with fail
    go_ret
    exact ⟨rfl, HB2.out⟩
  -- the box of the image lies below the disks
  have HW0 : Hid (Two w0 wb g1 g2 k r c N Q S (newSt F) (newSt F)) := ht.mono HB0.out
  have HPW : Hid (Pts w0 (fun b => b < w0.heap.size) po m D B K) := by
    have h := HP.out.below b0
    exact ⟨h.at_, h.rd, h.nil, fun a h0 e => by have := h.inl a h0 e; show a.block < _; omega, fun i a hi hb e => by have := h.inb i a hi hb e; show a.block < _; omega⟩
  have hpm := ht.pm
  obtain ⟨hN1, hN2, hQ1, hQ2, _, _, hn1, hn2⟩ := hpm.bounds
  clear ht q0 q1 q2 q3 q4 HL HB HP hpm
  obtain ⟨yA, hyA⟩ : ∃ yA, yA = wrs N Q S (newSt F) (pl D 0 m) := ⟨_, rfl⟩
  have HG : Hid (yA.2.gone = fun _ => false) := by rw [hyA]; exact wrs_gone N Q S _ _
  have HYA : Hid (wrs N Q S (newSt F) (pl D 0 m) = yA) := hyA.symm
  go_wp2_with fail
  refine (two_write HW0.out po m pc D B K (by omega) HPW.out).mono ?_
  rw [← hyA]
  rintro e wc ⟨rfl, ht⟩
  have HT : Hid (Two w0 wc g1 g2 k r c N Q S yA.2 (newSt F)) := ht
  clear ht HW0 hyA
  obtain ⟨eA, heA⟩ : ∃ eA, eA = yA.1 := ⟨_, rfl⟩
  have HEA : Hid (eA = yA.1) := heA
  rw [← heA]
  clear heA
  go_wp2_with fail
  go_loopw [12, 13, 14, 15, 16] (fun x y z _ _ wr => ∃ (i : Nat) (f : Int) (mk : Nat) (sB : St), i ≤ m ∧ mk ≤ i ∧ x = .int .i64 f ∧ y = .int .i64 mk ∧ z = .int .i64 i ∧ Hid (Two w0 wr g1 g2 k r c N Q S yA.2 sB) ∧ Hid ((f = 0 ∧ mk = i ∧ sB.off = false ∧ sB.cut = none ∧ sB.wr = i ∧ wrs N Q S sB (pl D i m) = yA) ∨ (f = 80 ∧ (80, sB) = yA ∧ sB.wr = mk))) (fun _ _ z _ _ _ => m - (intOf z).toNat)
  case atStart => exact ⟨0, 0, 0, newSt F, Nat.zero_le _, Nat.le_refl _, rfl, rfl, rfl, HT.out, .inl ⟨rfl, rfl, rfl, rfl, rfl, HYA.out⟩⟩
  case round =>
    obtain ⟨i, f, mk, sB, hi, hmk, rfl, rfl, rfl, ht, hinv⟩ := hrel
    have BODY : True := trivial
    by_cases hlt : i < m
    · have hpw := HPW.out.below ht.out.bel
      obtain ⟨b, off, rfl, hc⟩ := hpw.at_ (by omega)
      obtain ⟨k0, k1, k2, k3⟩ := hc i hlt
      obtain ⟨x, hx⟩ : ∃ x, x = D i := ⟨_, rfl⟩
      have i1 : (0 : Int) ≤ (i : Int) := by omega
      have i2 : (i : Int) < (m : Int) := by omega
      rcases hinv.out with ⟨rfl, rfl, g1', g2', g3', g4'⟩ | ⟨rfl, g1', g2'⟩
      · have HWO := two_write_one ht.out.symm x (B mk) (K mk) (by rw [hx]; exact hpw.rd mk hlt) (by rw [hx]; exact hpw.nil mk hlt) (fun hb a ha => by rw [hx] at hb; exact hpw.inb mk a hlt hb ha)
        have HR0 : Hid (RdB wr (B mk) x.b) := by rw [hx]; exact hpw.rd mk hlt
        have HXD : Hid (x = D mk) := hx
        have HZB : Hid (b < w0.heap.size) := hpw.inl _ (by omega) rfl
        rw [← hx] at k0 k1 k2 k3
        have HWS : Hid (wrs N Q S sB (pl D mk m) = yA) := g4'
        have HBW : Hid (sB.wr = mk) := g3'
        have HBO : Hid (sB.off = false) := g1'
        have HBC : Hid (sB.cut = none) := g2'
        have HPC := wr1_plain (N := N) (Q := Q) (S := S) g1' g2' x
        have HRX : Hid (RdB (wr.alloc (.cells #[.int .i64 x.d, .int .i64 x.r, .int .i64 x.s, .slice (B mk) x.b.length (K mk)] 45)) (B mk) x.b) := HR0.out.below (below_alloc _ _)
        clear hc hx hpw hinv g1' g2' g3' g4'
        go_wp2_with fail
        refine HWO.mono ?_
        rintro e wd ⟨rfl, ht2⟩
        rcases HPC with hs | ⟨hs, htk⟩
        · rw [hs] at ht2 ⊢
          have HT2 : Hid (Two w0 wd g1 g2 k r c N Q S yA.2 sB) := ht2.symm
          have HYE : Hid ((80, sB) = yA) := by
            show _ = _
            rw [← HWS.out, pl_cons D hlt, ← HXD.out, wrs_stop (by rw [hs]; show ¬ (80 : Int) = 0; decide), hs]
          clear ht2 hs HWO
          go_wp2_with fail
          go_roundw
          case rel => exact ⟨mk + 1, 80, mk, sB, by omega, by omega, rfl, rfl, by go_num, HT2.out, .inr ⟨rfl, HYE.out, HBW.out⟩⟩
          case measure => simp [intOf]; omega
        · rw [hs] at ht2 ⊢
          obtain ⟨sN, hsN⟩ : ∃ sN : St, sN = { sB with F := upd (plc Q x.d x.r x.s) x.b sB.F, wr := wrap64 (sB.wr + 1) } := ⟨_, rfl⟩
          rw [← hsN] at ht2 hs
          have HT2 : Hid (Two w0 wd g1 g2 k r c N Q S yA.2 sN) := ht2.symm
          have HYE : Hid (wrs N Q S sN (pl D (mk + 1) m) = yA) := by
            show _ = _
            rw [← HWS.out, pl_cons D hlt, ← HXD.out, wrs_go (by rw [hs]), hs]
          have HNO : Hid (sN.off = false) := by rw [hsN]; exact HBO.out
          have HNC : Hid (sN.cut = none) := by rw [hsN]; exact HBC.out
          have HNW : Hid (sN.wr = ((mk + 1 : Nat) : Int)) := by rw [hsN]; show wrap64 (sB.wr + 1) = _; rw [HBW.out, w64 _ (by omega)]; omega
          unfold takB at htk
          rw [Bool.and_eq_true] at htk
          have HRE : Hid (rdErr N Q sN x.d x.r x.s = 0) := by show _ = _; unfold rdErr; rw [if_neg (by rw [HNO.out]; decide), if_pos htk.1]
          have HRB : Hid (rdB N Q sN x.d x.r x.s = x.b) := by show _ = _; unfold rdB; rw [if_neg (by rw [HNO.out]; decide), if_pos htk.1, hsN]; exact upd_at _ _ _
          clear ht2 hs hsN htk HWO
          have HBD : Hid (Below w0.heap.size w0 wd) := HT2.out.bel
          have hpd := HPW.out.below HT2.out.bel
          obtain ⟨b', off', e', hc'⟩ := hpd.at_ (by omega)
          cases e'
          obtain ⟨d0, d1, d2, d3⟩ := hc' mk hlt
          rw [← HXD.out] at d0 d1 d2 d3
          have HRD : Hid (RdB wd (B mk) x.b) := by rw [HXD.out]; exact hpd.rd mk hlt
          have HRR := two_read HT2.out.symm x.d x.r x.s
          rw [HRE.out, HRB.out] at HRR
          have HRR2 : Hid (Calls Try.prog 19 #[.pointer (some ⟨g2, 0, none⟩), .int .i64 x.d, .int .i64 x.r, .int .i64 x.s] wd.drew fun e w' => ∃ ao cap, e = .returned (.tuple #[.slice ao x.b.length cap, .int .i64 0]) ∧ OwB wd.heap.size w' ao cap x.b ∧ Below wd.heap.size wd w') := by
            have h := two_read (HT2.out.symm.below (below_drew _ _)) x.d x.r x.s
            rw [HRE.out, HRB.out] at h
            exact h.mono fun e w' hh => by obtain ⟨ao, cap, p1, p2, p3⟩ := hh; exact ⟨ao, cap, p1, p2, of_drew p3⟩
          clear hc' hpd HRR k0 k1 k2 k3 HRE HRB
          go_wp2_with fail
          go_region_held3 (fun v => v.cell? ⟨b, off + mk * 4, none⟩ = some (.int .i64 x.d) ∧ v.cell? ⟨b, off + mk * 4 + 1, none⟩ = some (.int .i64 x.r) ∧ v.cell? ⟨b, off + mk * 4 + 2, none⟩ = some (.int .i64 x.s)) (go_keep)
            ((go_at_call 19; refine HRR2.out.mono ?_; rintro e we ⟨ao, cap, rfl, ho, he⟩; have j0 := held d0 he; have j1 := held d1 he; have j2 := held d2 he; have j3 := held d3 he; have HOW : Hid (OwB wd.heap.size we ao cap x.b) := ho; have HBE : Hid (Below wd.heap.size wd we) := he; clear ho he))
          all_goals
            have v1 : ∀ m, (convert 43 9 (.slice ao x.b.length cap)).run Try.prog (we.drewN m) = .ok (.string (sOf x.b)) (we.drewN m) := fun m => conv_any (w := we.drewN m) HOW.out.rd _ _ rfl
            have v2 : ∀ m, (convert 43 9 (.slice (B mk) x.b.length (K mk))).run Try.prog (we.drewN m) = .ok (.string (sOf x.b)) (we.drewN m) := fun m => conv_any (w := we.drewN m) (HRD.out.below (below_then HBE.out (below_dn we m))) _ _ rfl
            clear d0 d1 d2 d3
            go_wp2
            go_quiet (fail)
            go_wp2
            go_roundw
            case rel => exact ⟨mk + 1, 0, mk + 1, sN, by omega, Nat.le_refl _, rfl, by go_num, by go_num, HT2.out.below (below_then HBE.out (below_dn we _)), .inl ⟨rfl, rfl, HNO.out, HNC.out, HNW.out, HYE.out⟩⟩
            case measure => simp [intOf]; omega
      · have HEX : Hid ((80, sB) = yA ∧ sB.wr = mk) := ⟨g1', g2'⟩
        clear hc hx hpw hinv g1' g2' k0 k1 k2 k3 x BODY
        have e9 : (80 : Int) = 80 := rfl
        obtain ⟨f, hf⟩ : ∃ f : Int, f = 80 := ⟨_, rfl⟩
        have hf0 : (f == 0) = false := by rw [hf]; decide
        have HF80 : Hid (f = 80) := hf
        rw [← hf]
        clear hf e9
        have HEX : Hid ((f, sB) = yA ∧ sB.wr = mk) := by rw [HF80.out]; exact HEX.out
        have HEF : Hid (eA = f) := HEA.out.trans (congrArg Prod.fst HEX.out.1).symm
        have hef : (eA != f) = false := by rw [HEF.out]; simp
        have HSB : Hid (sB = yA.2) := congrArg Prod.snd HEX.out.1
        have HMK : Hid (yA.2.wr = (mk : Int)) := by rw [← HSB.out]; exact HEX.out.2
        have HT3 : Hid (Two w0 wr g1 g2 k r c N Q S yA.2 yA.2) := by have h := ht.out; rwa [HSB.out] at h
        have e5 : ((mk : Int) != (mk : Int)) = false := by simp
        clear ht HEX HSB HEA
        go_wp2_with fail
        refine (two_alike HT3.out rfl rfl rfl).mono ?_
        rintro e wx ⟨rfl, hx⟩
        have HT4 : Hid (Two w0 wx g1 g2 k r c N Q S yA.2 yA.2) := HT3.out.below hx
        have HWR := two_writes HT4.out
        rw [HMK.out] at HWR
        clear hx HT3
        go_wp2_with (go_at_call 37; refine HWR.mono ?_; rintro e w' ⟨rfl, hw'⟩; obtain rfl := hw'.symm)
        obtain ⟨Y1, _, dk1, _, _, hy4, _, hbx⟩ := HT4.out
        have HYL : Hid (∀ b, Y1 b → w0.heap.size ≤ b ∧ b < wx.heap.size) := fun b hb => ⟨hy4 b hb, dk1.lt b hb⟩
        have HBX : Hid (Below w0.heap.size w0 wx) := hbx
        have HD1 : Hid (Dk wx Y1 g1 k r c N Q S yA.2) := dk1
        clear dk1 hy4 hbx HT4 HWR
        refine (Image_any HD1.out).mono ?_
        obtain ⟨n, hn⟩ : ∃ n, n = N * Q * 2 := ⟨_, rfl⟩
        have HNN : Hid (n = N * Q * 2) := hn
        rw [← hn]
        rintro e wy ⟨m1, A1, C1, rfl, hs1, _, hy⟩
        have hn3 : 0 < n ∧ n ≤ 8192 := by omega
        have hzx := hy.size
        clear hn
        go_wp2_with fail
        obtain ⟨wz, hwz⟩ : ∃ wz, wz = wy.alloc (.cells #[.int .i64 k, .int .i64 r, .int .i64 c, .int .i64 (Q : Int), .slice (some ⟨m1, 0, none⟩) n n] 26) := ⟨_, rfl⟩
        rw [← hwz]
        have hz : Below wy.heap.size wy wz := by rw [hwz]; exact below_alloc _ _
        have zz : wz.heap.size = wy.heap.size + 1 := by rw [hwz]; simp
        have HZ4 : Hid (wz.cell? ⟨wy.heap.size, 4, none⟩ = some (.slice (some ⟨m1, 0, none⟩) n n)) := (img_held hwz (Below.refl _ _)).2.2.2.2
        have HD2 : Hid (Dk wz Y1 g1 k r c N Q S yA.2) := HD1.out.below (below_then hy hz)
        have HS1 : Hid (Slots wz (fun b => wx.heap.size ≤ b ∧ b < wy.heap.size) m1 n A1 C1 yA.2.F) := hs1.only (X := fun _ => False) (.of_below hz) (fun _ _ h => h)
        have HBZ : Hid (Below w0.heap.size w0 wz) := below_then HBX.out (below_then hy hz)
        clear hwz hz hs1 hy HD1 HBX
        refine (Wipe_any HD2.out d).mono ?_
        rintro e wq (⟨hd, rfl, hq⟩ | ⟨hd, rfl, hdk, hoq⟩)
        · have HDQ : Hid (Dk wq Y1 g1 k r c N Q S yA.2) := HD2.out.below hq
          have HQ4 : Hid (wq.cell? ⟨wy.heap.size, 4, none⟩ = some (.slice (some ⟨m1, 0, none⟩) n n)) := held HZ4.out hq
          have HSQ : Hid (Slots wq (fun b => wx.heap.size ≤ b ∧ b < wy.heap.size) m1 n A1 C1 yA.2.F) := HS1.out.only (X := fun _ => False) (.of_below hq) (fun _ _ h => h)
          have HBQ : Hid (Below w0.heap.size w0 wq) := below_then HBZ.out hq
          have HDN : Hid (¬ (0 ≤ d ∧ d < (N : Int))) := hd
          clear hq hd HD2 HS1 HZ4 HBZ
          go_wp2_with fail
          refine (Image_any HDQ.out).mono ?_
          rw [← HNN.out]
          rintro e wu ⟨m2, A2, C2, rfl, hs2, _, hu⟩
          have f4 := fun o => held (held HQ4.out hu) (below_alloc wu o)
          have f3 : ∀ o, (wu.alloc o).cell? ⟨W.heap.size, 3, none⟩ = some (.int .i64 (Q : Int)) := fun o => (SH.out _ (below_then HBQ.out (below_then hu (below_alloc wu o)))).2.2.2.1
          have e6 : ((n : Int) != (n : Int)) = false := by simp
          go_wp2_with fail
          obtain ⟨wv, hwv⟩ : ∃ wv, wv = wu.alloc (.cells #[.int .i64 k, .int .i64 r, .int .i64 c, .int .i64 (Q : Int), .slice (some ⟨m2, 0, none⟩) n n] 26) := ⟨_, rfl⟩
          rw [← hwv]
          have hv : Below wu.heap.size wu wv := by rw [hwv]; exact below_alloc _ _
          have x4 : wv.cell? ⟨wy.heap.size, 4, none⟩ = some (.slice (some ⟨m1, 0, none⟩) n n) := held HQ4.out (below_then hu hv)
          have y4 : wv.cell? ⟨wu.heap.size, 4, none⟩ = some (.slice (some ⟨m2, 0, none⟩) n n) := (img_held hwv (Below.refl _ _)).2.2.2.2
          have HT1 : Hid (Slots wv (fun b => wx.heap.size ≤ b ∧ b < wy.heap.size) m1 n A1 C1 yA.2.F) := HSQ.out.only (X := fun _ => False) (.of_below (below_then hu hv)) (fun _ _ h => h)
          have HT2 : Hid (Slots wv (fun b => wq.heap.size ≤ b ∧ b < wu.heap.size) m2 n A2 C2 yA.2.F) := hs2.only (X := fun _ => False) (.of_below hv) (fun _ _ h => h)
          have HBV : Hid (Below w0.heap.size w0 wv) := below_then HBQ.out (below_then hu hv)
          have HDV : Hid (Dk wv Y1 g1 k r c N Q S yA.2) := HDQ.out.below (below_then hu hv)
          clear hwv hu hv hs2 HQ4 HSQ HBQ HDQ f3 f4
          go_loopw [22] (fun x wr => ∃ i : Nat, i ≤ n ∧ x = .int .i64 i ∧ Hid (∃ t, wr = wv.drewN t)) (fun x _ => n - (intOf x).toNat)
          case atStart => exact ⟨0, Nat.zero_le _, rfl, 0, rfl⟩
          case round =>
            obtain ⟨i2, hi2, rfl, hq⟩ := hrel
            have hdr : ∀ a, wr.cell? a = wv.cell? a := by obtain ⟨t, rfl⟩ := hq.out; exact fun _ => rfl
            have hbd : ∀ m, Below wv.heap.size wv (wr.drewN m) := by obtain ⟨t, rfl⟩ := hq.out; exact fun m => ⟨rfl, rfl, rfl, Nat.le_refl _, fun _ _ => rfl⟩
            have HBR : Hid (Below wv.heap.size wv wr) := hbd 0
            have z4 : wr.cell? ⟨wy.heap.size, 4, none⟩ = some (.slice (some ⟨m1, 0, none⟩) n n) := by rw [hdr]; exact x4
            have t4 : wr.cell? ⟨wu.heap.size, 4, none⟩ = some (.slice (some ⟨m2, 0, none⟩) n n) := by rw [hdr]; exact y4
            by_cases hlt2 : i2 < n
            · have d1 : wr.cell? ⟨m1, i2, none⟩ = some (.slice (A1 i2) (yA.2.F i2).length (C1 i2)) := by rw [hdr]; exact HT1.out.row.cell hlt2
              have d2 : wr.cell? ⟨m2, i2, none⟩ = some (.slice (A2 i2) (yA.2.F i2).length (C2 i2)) := by rw [hdr]; exact HT2.out.row.cell hlt2
              obtain ⟨X, hX⟩ : ∃ X, X = yA.2.F i2 := ⟨_, rfl⟩
              have v1 : ∀ m, (convert 43 9 (.slice (A1 i2) X.length (C1 i2))).run Try.prog (wr.drewN m) = .ok (.string (sOf X)) (wr.drewN m) := fun m => by rw [hX]; exact conv_any ((HT1.out.rd i2 hlt2).below (hbd m)) _ _ rfl
              have j1 : (0 : Int) ≤ (i2 : Int) := by omega
              have j2 : (i2 : Int) < (n : Int) := by omega
              have v2 : ∀ m, (convert 43 9 (.slice (A2 i2) X.length (C2 i2))).run Try.prog (wr.drewN m) = .ok (.string (sOf X)) (wr.drewN m) := fun m => by rw [hX]; exact conv_any (((HT2.out.rd i2 hlt2).below (hbd m))) _ _ rfl
              rw [← hX] at d1
              rw [← hX] at d2
              clear hX hdr hbd x4 y4
              go_wp2
              go_quiet (fail)
              go_wp2
              go_roundw
              case rel =>
                obtain ⟨t, ht2⟩ := hq.out
                exact ⟨i2 + 1, by omega, by go_num, t + nq, by rw [ht2]; simp [World.drewN, Nat.add_assoc]⟩
              case measure => simp [intOf]; omega
            · obtain rfl : i2 = n := by omega
              clear hdr hbd x4 y4
              go_wp2_with fail
              refine (Wiped_any (HDV.out.below HBR.out)).mono ?_
              rw [HG.out, gl_none]
              rintro e w5 ⟨ao5, cap5, rfl, ho5, hb5⟩
              have HDW : Hid (Dk w5 Y1 g1 k r c N Q S yA.2) := HDV.out.below (below_then HBR.out hb5)
              have HBW : Hid (Below w0.heap.size w0 w5) := below_then HBV.out (below_then HBR.out hb5)
              clear ho5 hb5
              rw [show ([] : List Int).length = 0 from rfl]
              go_wp2_with fail
              go_ret
              exact ⟨rfl, below_then b0 HBW.out⟩
        · obtain ⟨Y2, hdk2, hy2⟩ := hdk
          obtain ⟨dd, rfl⟩ := Int.eq_ofNat_of_zero_le hd.1
          have hdd : dd < N := by omega
          have hq0 : ¬ (2 * (Q : Int)) = 0 := by omega
          have hn4 : n ≤ 8192 := hn3.2
          have HDQ : Hid (Dk wq Y2 g1 k r c N Q S (wipeSt Q dd yA.2)) := hdk2
          have HY2 : Hid (∀ b, Y2 b → Y1 b) := hy2
          have HQ4 : Hid (wq.cell? ⟨wy.heap.size, 4, none⟩ = some (.slice (some ⟨m1, 0, none⟩) n n)) := hoq.cell HZ4.out (fun h => by have := (HYL.out _ h).2; simp only at this; omega)
          have HSQ : Hid (Slots wq (fun b => wx.heap.size ≤ b ∧ b < wy.heap.size) m1 n A1 C1 yA.2.F) := HS1.out.only hoq (fun b hb h => by have := (HYL.out _ h).2; omega)
          have HBQ : Hid (Below w0.heap.size w0 wq) := HBZ.out.trans (hoq.below (fun b hb => (HYL.out b hb).1) HBZ.out.size)
          clear hoq hd HD2 HS1 HZ4 HBZ hdk2 hy2
          go_wp2_with fail
          refine (Image_any HDQ.out).mono ?_
          rw [← HNN.out]
          rintro e wu ⟨m2, A2, C2, rfl, hs2, _, hu⟩
          have f4 := fun o => held (held HQ4.out hu) (below_alloc wu o)
          have f3 : ∀ o, (wu.alloc o).cell? ⟨W.heap.size, 3, none⟩ = some (.int .i64 (Q : Int)) := fun o => (SH.out _ (below_then HBQ.out (below_then hu (below_alloc wu o)))).2.2.2.1
          have e6 : ((n : Int) != (n : Int)) = false := by simp
          go_wp2_with fail
          obtain ⟨wv, hwv⟩ : ∃ wv, wv = wu.alloc (.cells #[.int .i64 k, .int .i64 r, .int .i64 c, .int .i64 (Q : Int), .slice (some ⟨m2, 0, none⟩) n n] 26) := ⟨_, rfl⟩
          rw [← hwv]
          have hv : Below wu.heap.size wu wv := by rw [hwv]; exact below_alloc _ _
          have x4 : wv.cell? ⟨wy.heap.size, 4, none⟩ = some (.slice (some ⟨m1, 0, none⟩) n n) := held HQ4.out (below_then hu hv)
          have y4 : wv.cell? ⟨wu.heap.size, 4, none⟩ = some (.slice (some ⟨m2, 0, none⟩) n n) := (img_held hwv (Below.refl _ _)).2.2.2.2
          have HT1 : Hid (Slots wv (fun b => wx.heap.size ≤ b ∧ b < wy.heap.size) m1 n A1 C1 yA.2.F) := HSQ.out.only (X := fun _ => False) (.of_below (below_then hu hv)) (fun _ _ h => h)
          have HT2 : Hid (Slots wv (fun b => wq.heap.size ≤ b ∧ b < wu.heap.size) m2 n A2 C2 (wpF Q dd yA.2.F)) := hs2.only (X := fun _ => False) (.of_below hv) (fun _ _ h => h)
          have HBV : Hid (Below w0.heap.size w0 wv) := below_then HBQ.out (below_then hu hv)
          have HDV : Hid (Dk wv Y2 g1 k r c N Q S (wipeSt Q dd yA.2)) := HDQ.out.below (below_then hu hv)
          clear hwv hu hv hs2 HQ4 HSQ HBQ HDQ f3 f4
          go_loopw [22] (fun x wr => ∃ i : Nat, i ≤ n ∧ x = .int .i64 i ∧ Hid (∃ t, wr = wv.drewN t)) (fun x _ => n - (intOf x).toNat)
          case atStart => exact ⟨0, Nat.zero_le _, rfl, 0, rfl⟩
          case round =>
            obtain ⟨i2, hi2, rfl, hq⟩ := hrel
            have hdr : ∀ a, wr.cell? a = wv.cell? a := by obtain ⟨t, rfl⟩ := hq.out; exact fun _ => rfl
            have hbd : ∀ m, Below wv.heap.size wv (wr.drewN m) := by obtain ⟨t, rfl⟩ := hq.out; exact fun m => ⟨rfl, rfl, rfl, Nat.le_refl _, fun _ _ => rfl⟩
            have HBR : Hid (Below wv.heap.size wv wr) := hbd 0
            have z4 : wr.cell? ⟨wy.heap.size, 4, none⟩ = some (.slice (some ⟨m1, 0, none⟩) n n) := by rw [hdr]; exact x4
            have t4 : wr.cell? ⟨wu.heap.size, 4, none⟩ = some (.slice (some ⟨m2, 0, none⟩) n n) := by rw [hdr]; exact y4
            by_cases hlt2 : i2 < n
            · have d1 : wr.cell? ⟨m1, i2, none⟩ = some (.slice (A1 i2) (yA.2.F i2).length (C1 i2)) := by rw [hdr]; exact HT1.out.row.cell hlt2
              have d2 : wr.cell? ⟨m2, i2, none⟩ = some (.slice (A2 i2) (wpF Q dd yA.2.F i2).length (C2 i2)) := by rw [hdr]; exact HT2.out.row.cell hlt2
              obtain ⟨X, hX⟩ : ∃ X, X = yA.2.F i2 := ⟨_, rfl⟩
              have v1 : ∀ m, (convert 43 9 (.slice (A1 i2) X.length (C1 i2))).run Try.prog (wr.drewN m) = .ok (.string (sOf X)) (wr.drewN m) := fun m => by rw [hX]; exact conv_any ((HT1.out.rd i2 hlt2).below (hbd m)) _ _ rfl
              have j1 : (0 : Int) ≤ (i2 : Int) := by omega
              have j2 : (i2 : Int) < (n : Int) := by omega
              by_cases hdv : i2 / (2 * Q) = dd
              · have hF0 : wpF Q dd yA.2.F i2 = [] := if_pos hdv
                rw [hF0] at d2
                have d2 : wr.cell? ⟨m2, i2, none⟩ = some (.slice (A2 i2) 0 (C2 i2)) := d2
                obtain ⟨qq, hqq, hqv, hqb⟩ := quo_any i2 Q hn4 hi2
                have u1 : ((qq : Int) == (dd : Int)) = true := by rw [hqq, hdv]; simp
                clear hX hdr hbd x4 y4 v1 d1 hdv hqq
                go_wp2
                go_roundw
                case rel => exact ⟨i2 + 1, by omega, by go_num, hq.out⟩
                case measure => simp [intOf]; omega
              · have hF0 : wpF Q dd yA.2.F i2 = yA.2.F i2 := if_neg hdv
                obtain ⟨qq, hqq, hqv, hqb⟩ := quo_any i2 Q hn4 hi2
                have u1 : ((qq : Int) == (dd : Int)) = false := by have hne : ¬ qq = dd := (by rw [hqq]; exact hdv); simp; omega
                have v2 : ∀ m, (convert 43 9 (.slice (A2 i2) X.length (C2 i2))).run Try.prog (wr.drewN m) = .ok (.string (sOf X)) (wr.drewN m) := fun m => by
                  have h := (HT2.out.rd i2 hlt2).below (hbd m)
                  rw [hF0, ← hX] at h
                  exact conv_any h _ _ rfl
                rw [hF0, ← hX] at d2
                rw [← hX] at d1
                clear hX hdr hbd x4 y4 hdv hqq
                go_wp2
                go_quiet (fail)
                go_wp2
                go_roundw
                case rel =>
                  obtain ⟨t, ht2⟩ := hq.out
                  exact ⟨i2 + 1, by omega, by go_num, t + nq, by rw [ht2]; simp [World.drewN, Nat.add_assoc]⟩
                case measure => simp [intOf]; omega
            · obtain rfl : i2 = n := by omega
              clear hdr hbd x4 y4
              go_wp2_with fail
              refine (Wiped_any (HDV.out.below HBR.out)).mono ?_
              rw [show (wipeSt Q dd yA.2).gone = upd dd true (fun _ => false) by show upd dd true yA.2.gone = _; rw [HG.out], gl_one dd (by omega)]
              rintro e w5 ⟨ao5, cap5, rfl, ho5, hb5⟩
              have HDW : Hid (Dk w5 Y2 g1 k r c N Q S (wipeSt Q dd yA.2)) := HDV.out.below (below_then HBR.out hb5)
              have HBW : Hid (Below w0.heap.size w0 w5) := below_then HBV.out (below_then HBR.out hb5)
              have HO5 : Hid (OwI wr.heap.size w5 ao5 cap5 [(dd : Int)]) := ho5
              clear ho5 hb5
              rw [show ([(dd : Int)] : List Int).length = 1 from rfl]
              obtain ⟨g5, cp5, e5', h51, h52⟩ := World.ownsRow.form HO5.out (by show 0 < 1; decide)
              obtain rfl : ao5 = some ⟨g5, 0, none⟩ := by cases e5'; rfl
              have c5 : w5.cell? ⟨g5, 0, none⟩ = some (.int .i64 (dd : Int)) := by
                have h := World.ownsRow.cells HO5.out (g := g5) rfl 0 (.int .i64 (dd : Int)) rfl
                rwa [Addr.add_lit] at h
              clear e5' h51 h52
              have u2 : ((dd : Int) == (dd : Int)) = true := by simp
              go_wp2_with fail
              refine (Whole_any HDW.out).mono ?_
              rintro e w6 ⟨rfl, hd6, ho6, _⟩
              have HD6 : Hid (Dk w6 Y2 g1 k r c N Q S (wholeSt (wipeSt Q dd yA.2))) := hd6
              have HB6 : Hid (Below w0.heap.size w0 w6) := HBW.out.trans (ho6.below (fun b hb => (HYL.out b (HY2.out b hb)).1) HBW.out.size)
              clear hd6 ho6 c5
              go_wp2_with fail
              refine (Wiped_any HD6.out).mono ?_
              rw [show (wholeSt (wipeSt Q dd yA.2)).gone = (fun _ => false) from rfl, gl_none]
              rintro e w7 ⟨ao7, cap7, rfl, _, hb7⟩
              rw [show ([] : List Int).length = 0 from rfl]
              go_wp2_with fail
              go_ret
              exact ⟨rfl, below_then b0 (below_then HB6.out hb7)⟩
    · have HEX : Hid ((f, sB) = yA ∧ sB.wr = mk) := by
        obtain rfl : i = m := by omega
        rcases hinv.out with ⟨rfl, rfl, _, _, g3', g4'⟩ | ⟨rfl, g1', g2'⟩
        · rw [pl_nil] at g4'; exact ⟨g4', g3'⟩
        · exact ⟨g1', g2'⟩
      clear hinv BODY
      have HEF : Hid (eA = f) := HEA.out.trans (congrArg Prod.fst HEX.out.1).symm
      have hef : (eA != f) = false := by rw [HEF.out]; simp
      have HSB : Hid (sB = yA.2) := congrArg Prod.snd HEX.out.1
      have HMK : Hid (yA.2.wr = (mk : Int)) := by rw [← HSB.out]; exact HEX.out.2
      have HT3 : Hid (Two w0 wr g1 g2 k r c N Q S yA.2 yA.2) := by have h := ht.out; rwa [HSB.out] at h
      have e5 : ((mk : Int) != (mk : Int)) = false := by simp
      clear ht HEX HSB HEA
      go_wp2_with fail
      refine (two_alike HT3.out rfl rfl rfl).mono ?_
      rintro e wx ⟨rfl, hx⟩
      have HT4 : Hid (Two w0 wx g1 g2 k r c N Q S yA.2 yA.2) := HT3.out.below hx
      have HWR := two_writes HT4.out
      rw [HMK.out] at HWR
      clear hx HT3
      go_wp2_with (go_at_call 37; refine HWR.mono ?_; rintro e w' ⟨rfl, hw'⟩; obtain rfl := hw'.symm)
      obtain ⟨Y1, _, dk1, _, _, hy4, _, hbx⟩ := HT4.out
      have HYL : Hid (∀ b, Y1 b → w0.heap.size ≤ b ∧ b < wx.heap.size) := fun b hb => ⟨hy4 b hb, dk1.lt b hb⟩
      have HBX : Hid (Below w0.heap.size w0 wx) := hbx
      have HD1 : Hid (Dk wx Y1 g1 k r c N Q S yA.2) := dk1
      clear dk1 hy4 hbx HT4 HWR
      refine (Image_any HD1.out).mono ?_
      obtain ⟨n, hn⟩ : ∃ n, n = N * Q * 2 := ⟨_, rfl⟩
      have HNN : Hid (n = N * Q * 2) := hn
      rw [← hn]
      rintro e wy ⟨m1, A1, C1, rfl, hs1, _, hy⟩
      have hn3 : 0 < n ∧ n ≤ 8192 := by omega
      have hzx := hy.size
      clear hn
      go_wp2_with fail
      obtain ⟨wz, hwz⟩ : ∃ wz, wz = wy.alloc (.cells #[.int .i64 k, .int .i64 r, .int .i64 c, .int .i64 (Q : Int), .slice (some ⟨m1, 0, none⟩) n n] 26) := ⟨_, rfl⟩
      rw [← hwz]
      have hz : Below wy.heap.size wy wz := by rw [hwz]; exact below_alloc _ _
      have zz : wz.heap.size = wy.heap.size + 1 := by rw [hwz]; simp
      have HZ4 : Hid (wz.cell? ⟨wy.heap.size, 4, none⟩ = some (.slice (some ⟨m1, 0, none⟩) n n)) := (img_held hwz (Below.refl _ _)).2.2.2.2
      have HD2 : Hid (Dk wz Y1 g1 k r c N Q S yA.2) := HD1.out.below (below_then hy hz)
      have HS1 : Hid (Slots wz (fun b => wx.heap.size ≤ b ∧ b < wy.heap.size) m1 n A1 C1 yA.2.F) := hs1.only (X := fun _ => False) (.of_below hz) (fun _ _ h => h)
      have HBZ : Hid (Below w0.heap.size w0 wz) := below_then HBX.out (below_then hy hz)
      clear hwz hz hs1 hy HD1 HBX
      refine (Wipe_any HD2.out d).mono ?_
      rintro e wq (⟨hd, rfl, hq⟩ | ⟨hd, rfl, hdk, hoq⟩)
      · have HDQ : Hid (Dk wq Y1 g1 k r c N Q S yA.2) := HD2.out.below hq
        have HQ4 : Hid (wq.cell? ⟨wy.heap.size, 4, none⟩ = some (.slice (some ⟨m1, 0, none⟩) n n)) := held HZ4.out hq
        have HSQ : Hid (Slots wq (fun b => wx.heap.size ≤ b ∧ b < wy.heap.size) m1 n A1 C1 yA.2.F) := HS1.out.only (X := fun _ => False) (.of_below hq) (fun _ _ h => h)
        have HBQ : Hid (Below w0.heap.size w0 wq) := below_then HBZ.out hq
        have HDN : Hid (¬ (0 ≤ d ∧ d < (N : Int))) := hd
        clear hq hd HD2 HS1 HZ4 HBZ
        go_wp2_with fail
        refine (Image_any HDQ.out).mono ?_
        rw [← HNN.out]
        rintro e wu ⟨m2, A2, C2, rfl, hs2, _, hu⟩
        have f4 := fun o => held (held HQ4.out hu) (below_alloc wu o)
        have f3 : ∀ o, (wu.alloc o).cell? ⟨W.heap.size, 3, none⟩ = some (.int .i64 (Q : Int)) := fun o => (SH.out _ (below_then HBQ.out (below_then hu (below_alloc wu o)))).2.2.2.1
        have e6 : ((n : Int) != (n : Int)) = false := by simp
        go_wp2_with fail
        obtain ⟨wv, hwv⟩ : ∃ wv, wv = wu.alloc (.cells #[.int .i64 k, .int .i64 r, .int .i64 c, .int .i64 (Q : Int), .slice (some ⟨m2, 0, none⟩) n n] 26) := ⟨_, rfl⟩
        rw [← hwv]
        have hv : Below wu.heap.size wu wv := by rw [hwv]; exact below_alloc _ _
        have x4 : wv.cell? ⟨wy.heap.size, 4, none⟩ = some (.slice (some ⟨m1, 0, none⟩) n n) := held HQ4.out (below_then hu hv)
        have y4 : wv.cell? ⟨wu.heap.size, 4, none⟩ = some (.slice (some ⟨m2, 0, none⟩) n n) := (img_held hwv (Below.refl _ _)).2.2.2.2
        have HT1 : Hid (Slots wv (fun b => wx.heap.size ≤ b ∧ b < wy.heap.size) m1 n A1 C1 yA.2.F) := HSQ.out.only (X := fun _ => False) (.of_below (below_then hu hv)) (fun _ _ h => h)
        have HT2 : Hid (Slots wv (fun b => wq.heap.size ≤ b ∧ b < wu.heap.size) m2 n A2 C2 yA.2.F) := hs2.only (X := fun _ => False) (.of_below hv) (fun _ _ h => h)
        have HBV : Hid (Below w0.heap.size w0 wv) := below_then HBQ.out (below_then hu hv)
        have HDV : Hid (Dk wv Y1 g1 k r c N Q S yA.2) := HDQ.out.below (below_then hu hv)
        clear hwv hu hv hs2 HQ4 HSQ HBQ HDQ f3 f4
        go_loopw [22] (fun x wr => ∃ i : Nat, i ≤ n ∧ x = .int .i64 i ∧ Hid (∃ t, wr = wv.drewN t)) (fun x _ => n - (intOf x).toNat)
        case atStart => exact ⟨0, Nat.zero_le _, rfl, 0, rfl⟩
        case round =>
          obtain ⟨i2, hi2, rfl, hq⟩ := hrel
          have hdr : ∀ a, wr.cell? a = wv.cell? a := by obtain ⟨t, rfl⟩ := hq.out; exact fun _ => rfl
          have hbd : ∀ m, Below wv.heap.size wv (wr.drewN m) := by obtain ⟨t, rfl⟩ := hq.out; exact fun m => ⟨rfl, rfl, rfl, Nat.le_refl _, fun _ _ => rfl⟩
          have HBR : Hid (Below wv.heap.size wv wr) := hbd 0
          have z4 : wr.cell? ⟨wy.heap.size, 4, none⟩ = some (.slice (some ⟨m1, 0, none⟩) n n) := by rw [hdr]; exact x4
          have t4 : wr.cell? ⟨wu.heap.size, 4, none⟩ = some (.slice (some ⟨m2, 0, none⟩) n n) := by rw [hdr]; exact y4
          by_cases hlt2 : i2 < n
          · have d1 : wr.cell? ⟨m1, i2, none⟩ = some (.slice (A1 i2) (yA.2.F i2).length (C1 i2)) := by rw [hdr]; exact HT1.out.row.cell hlt2
            have d2 : wr.cell? ⟨m2, i2, none⟩ = some (.slice (A2 i2) (yA.2.F i2).length (C2 i2)) := by rw [hdr]; exact HT2.out.row.cell hlt2
            obtain ⟨X, hX⟩ : ∃ X, X = yA.2.F i2 := ⟨_, rfl⟩
            have v1 : ∀ m, (convert 43 9 (.slice (A1 i2) X.length (C1 i2))).run Try.prog (wr.drewN m) = .ok (.string (sOf X)) (wr.drewN m) := fun m => by rw [hX]; exact conv_any ((HT1.out.rd i2 hlt2).below (hbd m)) _ _ rfl
            have j1 : (0 : Int) ≤ (i2 : Int) := by omega
            have j2 : (i2 : Int) < (n : Int) := by omega
            have v2 : ∀ m, (convert 43 9 (.slice (A2 i2) X.length (C2 i2))).run Try.prog (wr.drewN m) = .ok (.string (sOf X)) (wr.drewN m) := fun m => by rw [hX]; exact conv_any (((HT2.out.rd i2 hlt2).below (hbd m))) _ _ rfl
            rw [← hX] at d1
            rw [← hX] at d2
            clear hX hdr hbd x4 y4
            go_wp2
            go_quiet (fail)
            go_wp2
            go_roundw
            case rel =>
              obtain ⟨t, ht2⟩ := hq.out
              exact ⟨i2 + 1, by omega, by go_num, t + nq, by rw [ht2]; simp [World.drewN, Nat.add_assoc]⟩
            case measure => simp [intOf]; omega
          · obtain rfl : i2 = n := by omega
            clear hdr hbd x4 y4
            go_wp2_with fail
            refine (Wiped_any (HDV.out.below HBR.out)).mono ?_
            rw [HG.out, gl_none]
            rintro e w5 ⟨ao5, cap5, rfl, ho5, hb5⟩
            have HDW : Hid (Dk w5 Y1 g1 k r c N Q S yA.2) := HDV.out.below (below_then HBR.out hb5)
            have HBW : Hid (Below w0.heap.size w0 w5) := below_then HBV.out (below_then HBR.out hb5)
            clear ho5 hb5
            rw [show ([] : List Int).length = 0 from rfl]
            go_wp2_with fail
            go_ret
            exact ⟨rfl, below_then b0 HBW.out⟩
      · obtain ⟨Y2, hdk2, hy2⟩ := hdk
        obtain ⟨dd, rfl⟩ := Int.eq_ofNat_of_zero_le hd.1
        have hdd : dd < N := by omega
        have hq0 : ¬ (2 * (Q : Int)) = 0 := by omega
        have hn4 : n ≤ 8192 := hn3.2
        have HDQ : Hid (Dk wq Y2 g1 k r c N Q S (wipeSt Q dd yA.2)) := hdk2
        have HY2 : Hid (∀ b, Y2 b → Y1 b) := hy2
        have HQ4 : Hid (wq.cell? ⟨wy.heap.size, 4, none⟩ = some (.slice (some ⟨m1, 0, none⟩) n n)) := hoq.cell HZ4.out (fun h => by have := (HYL.out _ h).2; simp only at this; omega)
        have HSQ : Hid (Slots wq (fun b => wx.heap.size ≤ b ∧ b < wy.heap.size) m1 n A1 C1 yA.2.F) := HS1.out.only hoq (fun b hb h => by have := (HYL.out _ h).2; omega)
        have HBQ : Hid (Below w0.heap.size w0 wq) := HBZ.out.trans (hoq.below (fun b hb => (HYL.out b hb).1) HBZ.out.size)
        clear hoq hd HD2 HS1 HZ4 HBZ hdk2 hy2
        go_wp2_with fail
        refine (Image_any HDQ.out).mono ?_
        rw [← HNN.out]
        rintro e wu ⟨m2, A2, C2, rfl, hs2, _, hu⟩
        have f4 := fun o => held (held HQ4.out hu) (below_alloc wu o)
        have f3 : ∀ o, (wu.alloc o).cell? ⟨W.heap.size, 3, none⟩ = some (.int .i64 (Q : Int)) := fun o => (SH.out _ (below_then HBQ.out (below_then hu (below_alloc wu o)))).2.2.2.1
        have e6 : ((n : Int) != (n : Int)) = false := by simp
        go_wp2_with fail
        obtain ⟨wv, hwv⟩ : ∃ wv, wv = wu.alloc (.cells #[.int .i64 k, .int .i64 r, .int .i64 c, .int .i64 (Q : Int), .slice (some ⟨m2, 0, none⟩) n n] 26) := ⟨_, rfl⟩
        rw [← hwv]
        have hv : Below wu.heap.size wu wv := by rw [hwv]; exact below_alloc _ _
        have x4 : wv.cell? ⟨wy.heap.size, 4, none⟩ = some (.slice (some ⟨m1, 0, none⟩) n n) := held HQ4.out (below_then hu hv)
        have y4 : wv.cell? ⟨wu.heap.size, 4, none⟩ = some (.slice (some ⟨m2, 0, none⟩) n n) := (img_held hwv (Below.refl _ _)).2.2.2.2
        have HT1 : Hid (Slots wv (fun b => wx.heap.size ≤ b ∧ b < wy.heap.size) m1 n A1 C1 yA.2.F) := HSQ.out.only (X := fun _ => False) (.of_below (below_then hu hv)) (fun _ _ h => h)
        have HT2 : Hid (Slots wv (fun b => wq.heap.size ≤ b ∧ b < wu.heap.size) m2 n A2 C2 (wpF Q dd yA.2.F)) := hs2.only (X := fun _ => False) (.of_below hv) (fun _ _ h => h)
        have HBV : Hid (Below w0.heap.size w0 wv) := below_then HBQ.out (below_then hu hv)
        have HDV : Hid (Dk wv Y2 g1 k r c N Q S (wipeSt Q dd yA.2)) := HDQ.out.below (below_then hu hv)
        clear hwv hu hv hs2 HQ4 HSQ HBQ HDQ f3 f4
        go_loopw [22] (fun x wr => ∃ i : Nat, i ≤ n ∧ x = .int .i64 i ∧ Hid (∃ t, wr = wv.drewN t)) (fun x _ => n - (intOf x).toNat)
        case atStart => exact ⟨0, Nat.zero_le _, rfl, 0, rfl⟩
        case round =>
          obtain ⟨i2, hi2, rfl, hq⟩ := hrel
          have hdr : ∀ a, wr.cell? a = wv.cell? a := by obtain ⟨t, rfl⟩ := hq.out; exact fun _ => rfl
          have hbd : ∀ m, Below wv.heap.size wv (wr.drewN m) := by obtain ⟨t, rfl⟩ := hq.out; exact fun m => ⟨rfl, rfl, rfl, Nat.le_refl _, fun _ _ => rfl⟩
          have HBR : Hid (Below wv.heap.size wv wr) := hbd 0
          have z4 : wr.cell? ⟨wy.heap.size, 4, none⟩ = some (.slice (some ⟨m1, 0, none⟩) n n) := by rw [hdr]; exact x4
          have t4 : wr.cell? ⟨wu.heap.size, 4, none⟩ = some (.slice (some ⟨m2, 0, none⟩) n n) := by rw [hdr]; exact y4
          by_cases hlt2 : i2 < n
          · have d1 : wr.cell? ⟨m1, i2, none⟩ = some (.slice (A1 i2) (yA.2.F i2).length (C1 i2)) := by rw [hdr]; exact HT1.out.row.cell hlt2
            have d2 : wr.cell? ⟨m2, i2, none⟩ = some (.slice (A2 i2) (wpF Q dd yA.2.F i2).length (C2 i2)) := by rw [hdr]; exact HT2.out.row.cell hlt2
            obtain ⟨X, hX⟩ : ∃ X, X = yA.2.F i2 := ⟨_, rfl⟩
            have v1 : ∀ m, (convert 43 9 (.slice (A1 i2) X.length (C1 i2))).run Try.prog (wr.drewN m) = .ok (.string (sOf X)) (wr.drewN m) := fun m => by rw [hX]; exact conv_any ((HT1.out.rd i2 hlt2).below (hbd m)) _ _ rfl
            have j1 : (0 : Int) ≤ (i2 : Int) := by omega
            have j2 : (i2 : Int) < (n : Int) := by omega
            by_cases hdv : i2 / (2 * Q) = dd
            · have hF0 : wpF Q dd yA.2.F i2 = [] := if_pos hdv
              rw [hF0] at d2
              have d2 : wr.cell? ⟨m2, i2, none⟩ = some (.slice (A2 i2) 0 (C2 i2)) := d2
              obtain ⟨qq, hqq, hqv, hqb⟩ := quo_any i2 Q hn4 hi2
              have u1 : ((qq : Int) == (dd : Int)) = true := by rw [hqq, hdv]; simp
              clear hX hdr hbd x4 y4 v1 d1 hdv hqq
              go_wp2
              go_roundw
              case rel => exact ⟨i2 + 1, by omega, by go_num, hq.out⟩
              case measure => simp [intOf]; omega
            · have hF0 : wpF Q dd yA.2.F i2 = yA.2.F i2 := if_neg hdv
              obtain ⟨qq, hqq, hqv, hqb⟩ := quo_any i2 Q hn4 hi2
              have u1 : ((qq : Int) == (dd : Int)) = false := by have hne : ¬ qq = dd := (by rw [hqq]; exact hdv); simp; omega
              have v2 : ∀ m, (convert 43 9 (.slice (A2 i2) X.length (C2 i2))).run Try.prog (wr.drewN m) = .ok (.string (sOf X)) (wr.drewN m) := fun m => by
                have h := (HT2.out.rd i2 hlt2).below (hbd m)
                rw [hF0, ← hX] at h
                exact conv_any h _ _ rfl
              rw [hF0, ← hX] at d2
              rw [← hX] at d1
              clear hX hdr hbd x4 y4 hdv hqq
              go_wp2
              go_quiet (fail)
              go_wp2
              go_roundw
              case rel =>
                obtain ⟨t, ht2⟩ := hq.out
                exact ⟨i2 + 1, by omega, by go_num, t + nq, by rw [ht2]; simp [World.drewN, Nat.add_assoc]⟩
              case measure => simp [intOf]; omega
          · obtain rfl : i2 = n := by omega
            clear hdr hbd x4 y4
            go_wp2_with fail
            refine (Wiped_any (HDV.out.below HBR.out)).mono ?_
            rw [show (wipeSt Q dd yA.2).gone = upd dd true (fun _ => false) by show upd dd true yA.2.gone = _; rw [HG.out], gl_one dd (by omega)]
            rintro e w5 ⟨ao5, cap5, rfl, ho5, hb5⟩
            have HDW : Hid (Dk w5 Y2 g1 k r c N Q S (wipeSt Q dd yA.2)) := HDV.out.below (below_then HBR.out hb5)
            have HBW : Hid (Below w0.heap.size w0 w5) := below_then HBV.out (below_then HBR.out hb5)
            have HO5 : Hid (OwI wr.heap.size w5 ao5 cap5 [(dd : Int)]) := ho5
            clear ho5 hb5
            rw [show ([(dd : Int)] : List Int).length = 1 from rfl]
            obtain ⟨g5, cp5, e5', h51, h52⟩ := World.ownsRow.form HO5.out (by show 0 < 1; decide)
            obtain rfl : ao5 = some ⟨g5, 0, none⟩ := by cases e5'; rfl
            have c5 : w5.cell? ⟨g5, 0, none⟩ = some (.int .i64 (dd : Int)) := by
              have h := World.ownsRow.cells HO5.out (g := g5) rfl 0 (.int .i64 (dd : Int)) rfl
              rwa [Addr.add_lit] at h
            clear e5' h51 h52
            have u2 : ((dd : Int) == (dd : Int)) = true := by simp
            go_wp2_with fail
            refine (Whole_any HDW.out).mono ?_
            rintro e w6 ⟨rfl, hd6, ho6, _⟩
            have HD6 : Hid (Dk w6 Y2 g1 k r c N Q S (wholeSt (wipeSt Q dd yA.2))) := hd6
            have HB6 : Hid (Below w0.heap.size w0 w6) := HBW.out.trans (ho6.below (fun b hb => (HYL.out b (HY2.out b hb)).1) HBW.out.size)
            clear hd6 ho6 c5
            go_wp2_with fail
            refine (Wiped_any HD6.out).mono ?_
            rw [show (wholeSt (wipeSt Q dd yA.2)).gone = (fun _ => false) from rfl, gl_none]
            rintro e w7 ⟨ao7, cap7, rfl, _, hb7⟩
            rw [show ([] : List Int).length = 0 from rfl]
            go_wp2_with fail
            go_ret
            exact ⟨rfl, below_then b0 (below_then HB6.out hb7)⟩
end Go.Proofs.Ytdicogmjjboilaa
