/- That the statements are awake; SlotBack's walk. -/
import Derived.Test.YtcippamdjmonlaaSlH
import Derived.Test.YtcippamdjmonlaaSlT
namespace Go.Proofs.Ytcippamdjmonlaa
open Go.RowKit

theorem par_awake : Par 2 1 16 8 3 32 0 := .inl ⟨by decide, by decide, by decide, rfl⟩
set_option maxHeartbeats 400000 in
set_option maxRecDepth 100000 in
theorem awake_any (w : World) : Calls Try.prog 7 #[] w fun e w' => e = .returned (.bool true) ∧ Below w.heap.size w w' := by
  have HZ := fun w => Size_any par_awake w
  rw [show szE 0 3 16 = 40 from rfl] at HZ
  go_enter Try.func7, Try.ntmps7
  go_wp2_with fail
  refine (HZ _).mono ?_
  rintro e wa ⟨rfl, ha⟩
  go_wp2_with fail
  go_ret
  exact ⟨rfl, ha⟩
theorem dg_x {x : Int} {N : Nat} {c : Int} {s : Sl} (h : erS x N c s = 0) : x = 0 ∧ okS N c s = true := by
  unfold erS at h
  by_cases hx : x = 0
  · rw [if_pos hx] at h
    by_cases ho : okS N c s = true
    · exact ⟨hx, ho⟩
    · rw [if_neg ho] at h; cases h
  · rw [if_neg hx] at h; exact absurd h hx
theorem erS_some (x : Int) (N : Nat) (c : Int) (s : Sl) (hx : x = 0 ∨ x = 2) : erS x N c s = 0 ∨ erS x N c s = 100 ∨ erS x N c s = 2 := by
  unfold erS
  rcases hx with rfl | rfl
  · rw [if_pos rfl]; by_cases h : okS N c s = true
    · rw [if_pos h]; exact .inl rfl
    · rw [if_neg h]; exact .inr (.inl rfl)
  · rw [if_neg (by decide)]; exact .inr (.inr rfl)
set_option maxHeartbeats 8000000 in
set_option maxRecDepth 100000 in
theorem Back_any (k r c q : Int) (w : World) (s t : Sl) (ao : Option Addr) (ca : Nat) (bo : Option Addr) (cb : Nat) (ao' : Option Addr) (ca' : Nat) (bo' : Option Addr) (cb' : Nat) (hs : Has w s ao ca bo cb) (ht : Has w t ao' ca' bo' cb') :
    Calls Try.prog 5 #[.agg #[.int .i64 k, .int .i64 r, .int .i64 c, .int .i64 q], slv s ao ca bo cb, slv t ao' ca' bo' cb'] w fun e w' => e = .returned (.bool true) ∧ Below w.heap.size w w' := by
  obtain ⟨N, W, x, h⟩ := par_any k r c q
  have hx := h.err
  have hN := h.few
  obtain ⟨E, hE⟩ : ∃ E, erS x N c s = E := ⟨_, rfl⟩
  obtain ⟨E', hE'⟩ : ∃ E', erS x N c t = E' := ⟨_, rfl⟩
  have HZ : Hid (∀ w, Calls Try.prog 9 #[.agg #[.int .i64 k, .int .i64 r, .int .i64 c, .int .i64 q]] w fun e w' => e = .returned (.tuple #[.int .i64 ((szE x N c : Nat) : Int), .int .i64 x]) ∧ Below w.heap.size w w') := fun w => Size_any h w
  have HBs : Hid (∀ w, Has w s ao ca bo cb → Calls Try.prog 11 #[.agg #[.int .i64 k, .int .i64 r, .int .i64 c, .int .i64 q], .agg #[.int .u8 ((s.kd.toNat : Nat) : Int), .int .i64 s.ix, .int .i64 s.ce, .int .i64 s.st, .slice ao s.vn ca, .slice bo s.dn cb]] w (AnsB w E (sz N c) (enc s))) := fun w hs => Bytes_any h w s ao ca bo cb hs E hE
  have HBt : Hid (∀ w, Has w t ao' ca' bo' cb' → Calls Try.prog 11 #[.agg #[.int .i64 k, .int .i64 r, .int .i64 c, .int .i64 q], .agg #[.int .u8 ((t.kd.toNat : Nat) : Int), .int .i64 t.ix, .int .i64 t.ce, .int .i64 t.st, .slice ao' t.vn ca', .slice bo' t.dn cb']] w (AnsB w E' (sz N c) (enc t))) := fun w hs => Bytes_any h w t ao' ca' bo' cb' hs E' hE'
  have HAS : Hid (Has w s ao ca bo cb) := hs
  have HAT : Hid (Has w t ao' ca' bo' cb') := ht
  unfold slv
  obtain ⟨w0, hw0⟩ : ∃ w0, w0 = w.alloc (.cells #[.int .i64 k, .int .i64 r, .int .i64 c, .int .i64 q] 23) := ⟨_, rfl⟩
  obtain ⟨w1, hw1⟩ : ∃ w1, w1 = w0.alloc (.cells #[.int .u8 ((s.kd.toNat : Nat) : Int), .int .i64 s.ix, .int .i64 s.ce, .int .i64 s.st, .slice ao s.vn ca, .slice bo s.dn cb] 27) := ⟨_, rfl⟩
  obtain ⟨w2, hw2⟩ : ∃ w2, w2 = w1.alloc (.cells #[.int .u8 ((t.kd.toNat : Nat) : Int), .int .i64 t.ix, .int .i64 t.ce, .int .i64 t.st, .slice ao' t.vn ca', .slice bo' t.dn cb'] 27) := ⟨_, rfl⟩
  have b0 : Below w.heap.size w w0 := by rw [hw0]; exact below_alloc _ _
  have b1 : Below w0.heap.size w0 w1 := by rw [hw1]; exact below_alloc _ _
  have b2 : Below w1.heap.size w1 w2 := by rw [hw2]; exact below_alloc _ _
  have z0 : w0.heap.size = w.heap.size + 1 := by rw [hw0]; simp
  have z1 : w1.heap.size = w.heap.size + 1 + 1 := by rw [hw1]; simp [z0]
  have CP : Hid (Cel w2 w.heap.size [.int .i64 k, .int .i64 r, .int .i64 c, .int .i64 q]) := (cel_new hw0).below (below_then b1 b2)
  have CS : Hid (Cel w2 (w.heap.size + 1) [.int .u8 ((s.kd.toNat : Nat) : Int), .int .i64 s.ix, .int .i64 s.ce, .int .i64 s.st, .slice ao s.vn ca, .slice bo s.dn cb]) := by show Cel _ _ _; rw [← z0]; exact (cel_new hw1).below b2
  have CT : Hid (Cel w2 (w.heap.size + 1 + 1) [.int .u8 ((t.kd.toNat : Nat) : Int), .int .i64 t.ix, .int .i64 t.ce, .int .i64 t.st, .slice ao' t.vn ca', .slice bo' t.dn cb']) := by show Cel _ _ _; rw [← z1]; exact cel_new hw2
  have HB2 : Hid (Below w.heap.size w w2) := below_then (below_then b0 b1) b2
  by_cases hE0 : E = 0
  · subst hE0
    obtain ⟨rfl, hok⟩ := dg_x hE
    have hN1 := h.some rfl
    have hc := h.cell rfl
    obtain ⟨n, hn⟩ : ∃ n, n = sz N c := ⟨_, rfl⟩
    have hn2 : n = 12 + 4 * N + c.toNat := hn
    have hsame := dec_enc hN hok (F := enc s) (fun _ _ => rfl)
    have HP : Hid (∀ w uo uc, OwU 0 w uo n uc (enc s) → Calls Try.prog 14 #[.agg #[.int .i64 k, .int .i64 r, .int .i64 c, .int .i64 q], .slice uo n uc] w (AnsP w 0 true (dec N c (enc s)))) := fun w uo uc hu =>
      Parse_any h w uo n uc (enc s) hu.bec 0 (by unfold erQ; rw [if_pos rfl, if_pos (.inr hn)]) true (by unfold isQ; rw [decide_eq_true rfl, Bool.true_and]; exact is_enc hN hok hn (fun _ _ => rfl)) _ rfl
    obtain ⟨z, hz⟩ : ∃ z, z = dec N c (enc s) := ⟨_, rfl⟩
    rw [← hz] at HP hsame
    unfold AnsP slv at HP
    have hzv : z.vn ≤ 1000000000000000 := by rw [hz]; show N ≤ _; omega
    have hzd : z.dn ≤ 1000000000000000 := by rw [hz]; show c.toNat ≤ _; omega
    have hsv : s.vn ≤ 1000000000000000 := by obtain ⟨⟨ks1, _⟩, _⟩ := okS_true hok; omega
    have hsd : s.dn ≤ 1000000000000000 := by obtain ⟨_, _, _, _, ks6, _⟩ := okS_true hok; omega
    have HAL : Hid (∀ w zo zc yo yc, Has w z zo zc yo yc → Has w s ao ca bo cb → Calls Try.prog 16 #[.agg #[.int .u8 ((z.kd.toNat : Nat) : Int), .int .i64 z.ix, .int .i64 z.ce, .int .i64 z.st, .slice zo z.vn zc, .slice yo z.dn yc], .agg #[.int .u8 ((s.kd.toNat : Nat) : Int), .int .i64 s.ix, .int .i64 s.ce, .int .i64 s.st, .slice ao s.vn ca, .slice bo s.dn cb]] w fun e w' => e = .returned (.bool true) ∧ Below w.heap.size w w') := fun w zo zc yo yc h1 h2 => alike_any w z s zo zc yo yc ao ca bo cb h1 h2 hzv hzd true hsame
    have HAQ : Hid (∀ w y, sameS s t = y → Has w s ao ca bo cb → Has w t ao' ca' bo' cb' → Calls Try.prog 16 #[.agg #[.int .u8 ((s.kd.toNat : Nat) : Int), .int .i64 s.ix, .int .i64 s.ce, .int .i64 s.st, .slice ao s.vn ca, .slice bo s.dn cb], .agg #[.int .u8 ((t.kd.toNat : Nat) : Int), .int .i64 t.ix, .int .i64 t.ce, .int .i64 t.st, .slice ao' t.vn ca', .slice bo' t.dn cb']] w fun e w' => e = .returned (.bool y) ∧ Below w.heap.size w w') := fun w y hy h1 h2 => alike_any w s t ao ca bo cb ao' ca' bo' cb' h1 h2 hsv hsd y hy
    have hq : szE 0 N c = n := by rw [hn]; unfold szE; rw [if_pos rfl]
    rw [hq] at HZ
    have HSQ : Hid (okS N c t = true → decide (lsF n (enc s) = lsF n (enc t)) = sameS s t) := fun ht => by
      have := enc_same hN hok ht
      rw [← hn] at this
      cases e : sameS s t
      · exact decide_eq_false fun h => by rw [this.1 (lsF_eq.1 h).2] at e; cases e
      · exact decide_eq_true (lsF_eq.2 ⟨rfl, this.2 e⟩)
    have HE' := hE'
    rw [← hn] at HBs HBt
    have hle : lenE 0 n = n := rfl
    unfold AnsB at HBs HBt
    rw [hle] at HBs
    have hnz : ¬ n = 0 := by omega
    clear hE hz hn hn2 hsame hok hq hs ht hc hx hE'
    rcases erS_some 0 N c t (.inl rfl) with e0 | e0 | e0
    · rw [e0] at HE'
      subst HE'
      obtain ⟨_, hokt⟩ := dg_x e0
      have HSS := HSQ.out hokt
      rw [hle] at HBt
      clear e0 hokt HSQ h
      go_enter Try.func5, Try.ntmps5
      go_wp2_with fail
      rw [← hw0, ← hw1, ← hw2]
      clear hw0 hw1 hw2 b0 b1 b2 z0 z1
      refine (awake_any _).mono ?_
      rintro e wa ⟨rfl, ha⟩
      have HA : Hid (Below w2.heap.size w2 wa) := ha
      clear ha
      have pc := CP.out.below HA.out
      have p0 := pc 0 _ rfl
      have p1 := pc 1 _ rfl
      have p2 := pc 2 _ rfl
      have p3 := pc 3 _ rfl
      clear pc
      go_wp2_with fail
      refine (HZ.out _).mono ?_
      rintro e wb ⟨rfl, hb⟩
      have HB : Hid (Below w2.heap.size w2 wb) := below_then HA.out hb
      clear hb
      clear p0 p1 p2 p3
      have pc := CP.out.below HB.out
      have p0 := pc 0 _ rfl
      have p1 := pc 1 _ rfl
      have p2 := pc 2 _ rfl
      have p3 := pc 3 _ rfl
      clear pc
      have sc := CS.out.below HB.out
      have s0 := sc 0 _ rfl
      have s1 := sc 1 _ rfl
      have s2 := sc 2 _ rfl
      have s3 := sc 3 _ rfl
      have s4 := sc 4 _ rfl
      have s5 := sc 5 _ rfl
      clear sc
      go_wp2_with fail
      refine (HBs.out _ (HAS.out.below (below_then HB2.out HB.out))).mono ?_
      rintro e wc ⟨uo, uc, rfl, hu, hc⟩
      have HC : Hid (Below w2.heap.size w2 wc) := below_then HB.out hc
      have HU : Hid (OwU wb.heap.size wc uo (n) uc (enc s)) := hu
      clear hc hu
      clear p0 p1 p2 p3
      clear s0 s1 s2 s3 s4 s5
      have pc := CP.out.below HC.out
      have p0 := pc 0 _ rfl
      have p1 := pc 1 _ rfl
      have p2 := pc 2 _ rfl
      have p3 := pc 3 _ rfl
      clear pc
      have tc := CT.out.below HC.out
      have t0 := tc 0 _ rfl
      have t1 := tc 1 _ rfl
      have t2 := tc 2 _ rfl
      have t3 := tc 3 _ rfl
      have t4 := tc 4 _ rfl
      have t5 := tc 5 _ rfl
      clear tc
      go_wp2_with fail
      refine (HBt.out _ (HAT.out.below (below_then HB2.out HC.out))).mono ?_
      rintro e wd ⟨vo, vc, rfl, hv, hd⟩
      have HD : Hid (Below w2.heap.size w2 wd) := below_then HC.out hd
      have HU2 : Hid (OwU wb.heap.size wd uo (n) uc (enc s)) := HU.out.below hd
      have HV : Hid (OwU wc.heap.size wd vo (n) vc (enc t)) := hv
      clear hd hv HU
      clear p0 p1 p2 p3
      clear t0 t1 t2 t3 t4 t5
      have HP0 := HP.out wd uo uc (HU2.out.mono (Nat.zero_le _))
      have pc := CP.out.below HD.out
      have p0 := pc 0 _ rfl
      have p1 := pc 1 _ rfl
      have p2 := pc 2 _ rfl
      have p3 := pc 3 _ rfl
      clear pc
      go_wp2_with fail
      refine HP0.mono ?_
      rintro e we ⟨zo, zc, yo, yc, rfl, hg, he⟩
      have HE : Hid (Below w2.heap.size w2 we) := below_then HD.out he
      have HG : Hid (Got wd.heap.size we z zo zc yo yc) := hg
      have HU3 : Hid (OwU wb.heap.size we uo n uc (enc s)) := HU2.out.below he
      have HV3 : Hid (OwU wc.heap.size we vo n vc (enc t)) := HV.out.below he
      clear HP0 hg he HU2 HV
      clear p0 p1 p2 p3
      obtain ⟨wf, hwf⟩ : ∃ wf, wf = we.alloc (.cells #[.int .u8 ((z.kd.toNat : Nat) : Int), .int .i64 z.ix, .int .i64 z.ce, .int .i64 z.st, .slice zo z.vn zc, .slice yo z.dn yc] 27) := ⟨_, rfl⟩
      have bf : Below we.heap.size we wf := by rw [hwf]; exact below_alloc _ _
      have HF : Hid (Below w2.heap.size w2 wf) := below_then HE.out bf
      have HGF : Hid (Got wd.heap.size wf z zo zc yo yc) := HG.out.below bf
      have HU4 : Hid (OwU wb.heap.size wf uo n uc (enc s)) := HU3.out.below bf
      have HV4 : Hid (OwU wc.heap.size wf vo n vc (enc t)) := HV3.out.below bf
      have fc := CS.out.below HE.out
      have gs : ∀ o i u, [.int .u8 ((s.kd.toNat : Nat) : Int), .int .i64 s.ix, .int .i64 s.ce, .int .i64 s.st, .slice ao s.vn ca, .slice bo s.dn cb][i]? = some u → (we.alloc o).cell? ⟨w.heap.size + 1, i, none⟩ = some u := fun o i u hu => held (fc i u hu) (below_alloc _ _)
      have gs0 := fun o => gs o 0 _ rfl
      have gs1 := fun o => gs o 1 _ rfl
      have gs2 := fun o => gs o 2 _ rfl
      have gs3 := fun o => gs o 3 _ rfl
      have gs4 := fun o => gs o 4 _ rfl
      have gs5 := fun o => gs o 5 _ rfl
      clear fc gs bf
      go_wp2_with fail
      rw [← hwf]
      clear hwf gs0 gs1 gs2 gs3 gs4 gs5
      refine (HAL.out _ zo zc yo yc HGF.out.has (HAS.out.below (below_then HB2.out HF.out))).mono ?_
      rintro e wg ⟨rfl, hg⟩
      have HGG : Hid (Below w2.heap.size w2 wg) := below_then HF.out hg
      have HU5 : Hid (OwU wb.heap.size wg uo n uc (enc s)) := HU4.out.below hg
      have HV5 : Hid (OwU wc.heap.size wg vo n vc (enc t)) := HV4.out.below hg
      clear hg HU4 HV4 HG HGF HU3 HV3
      have KS : Hid (∀ v, Below wg.heap.size wg v → (v.cell? ⟨w.heap.size + 1, 0, none⟩ = some (.int .u8 ((s.kd.toNat : Nat) : Int)) ∧ v.cell? ⟨w.heap.size + 1, 1, none⟩ = some (.int .i64 s.ix) ∧ v.cell? ⟨w.heap.size + 1, 2, none⟩ = some (.int .i64 s.ce) ∧ v.cell? ⟨w.heap.size + 1, 3, none⟩ = some (.int .i64 s.st) ∧ v.cell? ⟨w.heap.size + 1, 4, none⟩ = some (.slice ao s.vn ca) ∧ v.cell? ⟨w.heap.size + 1, 5, none⟩ = some (.slice bo s.dn cb) ∧ v.cell? ⟨w.heap.size + 1 + 1, 0, none⟩ = some (.int .u8 ((t.kd.toNat : Nat) : Int)) ∧ v.cell? ⟨w.heap.size + 1 + 1, 1, none⟩ = some (.int .i64 t.ix) ∧ v.cell? ⟨w.heap.size + 1 + 1, 2, none⟩ = some (.int .i64 t.ce) ∧ v.cell? ⟨w.heap.size + 1 + 1, 3, none⟩ = some (.int .i64 t.st) ∧ v.cell? ⟨w.heap.size + 1 + 1, 4, none⟩ = some (.slice ao' t.vn ca') ∧ v.cell? ⟨w.heap.size + 1 + 1, 5, none⟩ = some (.slice bo' t.dn cb') ∧ (convert 25 9 (.slice uo n uc)).run Try.prog v = .ok (.string (sOf (lsF n (enc s)))) v ∧ (convert 25 9 (.slice vo n vc)).run Try.prog v = .ok (.string (sOf (lsF n (enc t)))) v)) := fun v hv => by
        have cs := CS.out.below (below_then HGG.out hv)
        have ct := CT.out.below (below_then HGG.out hv)
        exact ⟨cs 0 _ rfl, cs 1 _ rfl, cs 2 _ rfl, cs 3 _ rfl, cs 4 _ rfl, cs 5 _ rfl, ct 0 _ rfl, ct 1 _ rfl, ct 2 _ rfl, ct 3 _ rfl, ct 4 _ rfl, ct 5 _ rfl, conv_any (HU5.out.below hv).bec, conv_any (HV5.out.below hv).bec⟩
      obtain ⟨y, hy⟩ : ∃ y, sameS s t = y := ⟨_, rfl⟩
      have HY : Hid (((sOf (lsF n (enc s))).toList == (sOf (lsF n (enc t))).toList) = y) := by show _ = _; rw [str_eq, HSS, hy]
      have HA0 := fun v h1 h2 => HAQ.out v y hy h1 h2
      clear hy HSS
      go_wp2_with fail
      go_region_held3 (fun v => v.cell? ⟨w.heap.size + 1, 0, none⟩ = some (.int .u8 ((s.kd.toNat : Nat) : Int)) ∧ v.cell? ⟨w.heap.size + 1, 1, none⟩ = some (.int .i64 s.ix) ∧ v.cell? ⟨w.heap.size + 1, 2, none⟩ = some (.int .i64 s.ce) ∧ v.cell? ⟨w.heap.size + 1, 3, none⟩ = some (.int .i64 s.st) ∧ v.cell? ⟨w.heap.size + 1, 4, none⟩ = some (.slice ao s.vn ca) ∧ v.cell? ⟨w.heap.size + 1, 5, none⟩ = some (.slice bo s.dn cb) ∧ v.cell? ⟨w.heap.size + 1 + 1, 0, none⟩ = some (.int .u8 ((t.kd.toNat : Nat) : Int)) ∧ v.cell? ⟨w.heap.size + 1 + 1, 1, none⟩ = some (.int .i64 t.ix) ∧ v.cell? ⟨w.heap.size + 1 + 1, 2, none⟩ = some (.int .i64 t.ce) ∧ v.cell? ⟨w.heap.size + 1 + 1, 3, none⟩ = some (.int .i64 t.st) ∧ v.cell? ⟨w.heap.size + 1 + 1, 4, none⟩ = some (.slice ao' t.vn ca') ∧ v.cell? ⟨w.heap.size + 1 + 1, 5, none⟩ = some (.slice bo' t.dn cb') ∧ (convert 25 9 (.slice uo n uc)).run Try.prog v = .ok (.string (sOf (lsF n (enc s)))) v ∧ (convert 25 9 (.slice vo n vc)).run Try.prog v = .ok (.string (sOf (lsF n (enc t)))) v) ((first | (exact KS.out _ (below_drew _ _)) | (exact KS.out _ HM.out)))
        ((go_at_call 16; refine (HA0 _ (HAS.out.below (below_then HB2.out (below_then HGG.out (below_drew _ _)))) (HAT.out.below (below_then HB2.out (below_then HGG.out (below_drew _ _))))).mono ?_; rintro e wm ⟨rfl, hm⟩; have HM : Hid (Below wg.heap.size wg wm) := of_drew' hm; clear hm))
      all_goals (
        go_wp2_with fail
        go_ret
        exact ⟨by rw [HY.out]; cases y <;> rfl, below_then (below_then HB2.out HGG.out) HM.out⟩)
    · rw [e0] at HE'
      subst HE'
      rw [show lenE 100 n = 0 from rfl] at HBt
      clear e0 HSQ h
      go_enter Try.func5, Try.ntmps5
      go_wp2_with fail
      rw [← hw0, ← hw1, ← hw2]
      clear hw0 hw1 hw2 b0 b1 b2 z0 z1
      refine (awake_any _).mono ?_
      rintro e wa ⟨rfl, ha⟩
      have HA : Hid (Below w2.heap.size w2 wa) := ha
      clear ha
      have pc := CP.out.below HA.out
      have p0 := pc 0 _ rfl
      have p1 := pc 1 _ rfl
      have p2 := pc 2 _ rfl
      have p3 := pc 3 _ rfl
      clear pc
      go_wp2_with fail
      refine (HZ.out _).mono ?_
      rintro e wb ⟨rfl, hb⟩
      have HB : Hid (Below w2.heap.size w2 wb) := below_then HA.out hb
      clear hb
      clear p0 p1 p2 p3
      have pc := CP.out.below HB.out
      have p0 := pc 0 _ rfl
      have p1 := pc 1 _ rfl
      have p2 := pc 2 _ rfl
      have p3 := pc 3 _ rfl
      clear pc
      have sc := CS.out.below HB.out
      have s0 := sc 0 _ rfl
      have s1 := sc 1 _ rfl
      have s2 := sc 2 _ rfl
      have s3 := sc 3 _ rfl
      have s4 := sc 4 _ rfl
      have s5 := sc 5 _ rfl
      clear sc
      go_wp2_with fail
      refine (HBs.out _ (HAS.out.below (below_then HB2.out HB.out))).mono ?_
      rintro e wc ⟨uo, uc, rfl, hu, hc⟩
      have HC : Hid (Below w2.heap.size w2 wc) := below_then HB.out hc
      have HU : Hid (OwU wb.heap.size wc uo (n) uc (enc s)) := hu
      clear hc hu
      clear p0 p1 p2 p3
      clear s0 s1 s2 s3 s4 s5
      have pc := CP.out.below HC.out
      have p0 := pc 0 _ rfl
      have p1 := pc 1 _ rfl
      have p2 := pc 2 _ rfl
      have p3 := pc 3 _ rfl
      clear pc
      have tc := CT.out.below HC.out
      have t0 := tc 0 _ rfl
      have t1 := tc 1 _ rfl
      have t2 := tc 2 _ rfl
      have t3 := tc 3 _ rfl
      have t4 := tc 4 _ rfl
      have t5 := tc 5 _ rfl
      clear tc
      go_wp2_with fail
      refine (HBt.out _ (HAT.out.below (below_then HB2.out HC.out))).mono ?_
      rintro e wd ⟨vo, vc, rfl, hv, hd⟩
      have HD : Hid (Below w2.heap.size w2 wd) := below_then HC.out hd
      have HU2 : Hid (OwU wb.heap.size wd uo (n) uc (enc s)) := HU.out.below hd
      have HV : Hid (OwU wc.heap.size wd vo (0) vc (enc t)) := hv
      clear hd hv HU
      clear p0 p1 p2 p3
      clear t0 t1 t2 t3 t4 t5
      have HP0 := HP.out wd uo uc (HU2.out.mono (Nat.zero_le _))
      have pc := CP.out.below HD.out
      have p0 := pc 0 _ rfl
      have p1 := pc 1 _ rfl
      have p2 := pc 2 _ rfl
      have p3 := pc 3 _ rfl
      clear pc
      go_wp2_with fail
      refine HP0.mono ?_
      rintro e we ⟨zo, zc, yo, yc, rfl, hg, he⟩
      have HE : Hid (Below w2.heap.size w2 we) := below_then HD.out he
      have HG : Hid (Got wd.heap.size we z zo zc yo yc) := hg
      have HU3 : Hid (OwU wb.heap.size we uo n uc (enc s)) := HU2.out.below he
      have HV3 : Hid (OwU wc.heap.size we vo 0 vc (enc t)) := HV.out.below he
      clear HP0 hg he HU2 HV
      clear p0 p1 p2 p3
      obtain ⟨wf, hwf⟩ : ∃ wf, wf = we.alloc (.cells #[.int .u8 ((z.kd.toNat : Nat) : Int), .int .i64 z.ix, .int .i64 z.ce, .int .i64 z.st, .slice zo z.vn zc, .slice yo z.dn yc] 27) := ⟨_, rfl⟩
      have bf : Below we.heap.size we wf := by rw [hwf]; exact below_alloc _ _
      have HF : Hid (Below w2.heap.size w2 wf) := below_then HE.out bf
      have HGF : Hid (Got wd.heap.size wf z zo zc yo yc) := HG.out.below bf
      have HU4 : Hid (OwU wb.heap.size wf uo n uc (enc s)) := HU3.out.below bf
      have HV4 : Hid (OwU wc.heap.size wf vo 0 vc (enc t)) := HV3.out.below bf
      have fc := CS.out.below HE.out
      have gs : ∀ o i u, [.int .u8 ((s.kd.toNat : Nat) : Int), .int .i64 s.ix, .int .i64 s.ce, .int .i64 s.st, .slice ao s.vn ca, .slice bo s.dn cb][i]? = some u → (we.alloc o).cell? ⟨w.heap.size + 1, i, none⟩ = some u := fun o i u hu => held (fc i u hu) (below_alloc _ _)
      have gs0 := fun o => gs o 0 _ rfl
      have gs1 := fun o => gs o 1 _ rfl
      have gs2 := fun o => gs o 2 _ rfl
      have gs3 := fun o => gs o 3 _ rfl
      have gs4 := fun o => gs o 4 _ rfl
      have gs5 := fun o => gs o 5 _ rfl
      clear fc gs bf
      go_wp2_with fail
      rw [← hwf]
      clear hwf gs0 gs1 gs2 gs3 gs4 gs5
      refine (HAL.out _ zo zc yo yc HGF.out.has (HAS.out.below (below_then HB2.out HF.out))).mono ?_
      rintro e wg ⟨rfl, hg⟩
      have HGG : Hid (Below w2.heap.size w2 wg) := below_then HF.out hg
      have HU5 : Hid (OwU wb.heap.size wg uo n uc (enc s)) := HU4.out.below hg
      have HV5 : Hid (OwU wc.heap.size wg vo 0 vc (enc t)) := HV4.out.below hg
      clear hg HU4 HV4 HG HGF HU3 HV3
      go_wp2_with fail
      go_quiet (fail)
      go_wp2
      go_ret
      exact ⟨rfl, (below_then HB2.out HGG.out).trans (below_drewN _ _ _)⟩
    · exfalso
      unfold erS at e0
      rw [if_pos rfl] at e0
      by_cases ho : okS N c t = true
      · rw [if_pos ho] at e0; cases e0
      · rw [if_neg ho] at e0; cases e0
  · have hne : (E != 0) = true := by simpa using hE0
    have hl : lenE E (sz N c) = 0 := by unfold lenE; rw [if_neg hE0]
    unfold AnsB at HBs HBt
    rw [hl] at HBs
    obtain ⟨l', hl'⟩ : ∃ l', lenE E' (sz N c) = l' := ⟨_, rfl⟩
    rw [hl'] at HBt
    have hxx : (x != 0) = true ∨ (x != 0) = false := by cases (x != 0); exact .inr rfl; exact .inl rfl
    clear hE hE' hs ht h hx hl hl'
    rcases hxx with hxx | hxx
    all_goals (
      go_enter Try.func5, Try.ntmps5
      go_wp2_with fail
      rw [← hw0, ← hw1, ← hw2]
      clear hw0 hw1 hw2 b0 b1 b2 z0 z1
      refine (awake_any _).mono ?_
      rintro e wa ⟨rfl, ha⟩
      have HA : Hid (Below w2.heap.size w2 wa) := ha
      clear ha
      have pc := CP.out.below HA.out
      have p0 := pc 0 _ rfl
      have p1 := pc 1 _ rfl
      have p2 := pc 2 _ rfl
      have p3 := pc 3 _ rfl
      clear pc
      go_wp2_with fail
      refine (HZ.out _).mono ?_
      rintro e wb ⟨rfl, hb⟩
      have HB : Hid (Below w2.heap.size w2 wb) := below_then HA.out hb
      clear hb
      clear p0 p1 p2 p3
      have pc := CP.out.below HB.out
      have p0 := pc 0 _ rfl
      have p1 := pc 1 _ rfl
      have p2 := pc 2 _ rfl
      have p3 := pc 3 _ rfl
      clear pc
      have sc := CS.out.below HB.out
      have s0 := sc 0 _ rfl
      have s1 := sc 1 _ rfl
      have s2 := sc 2 _ rfl
      have s3 := sc 3 _ rfl
      have s4 := sc 4 _ rfl
      have s5 := sc 5 _ rfl
      clear sc
      go_wp2_with fail
      refine (HBs.out _ (HAS.out.below (below_then HB2.out HB.out))).mono ?_
      rintro e wc ⟨uo, uc, rfl, hu, hc⟩
      have HC : Hid (Below w2.heap.size w2 wc) := below_then HB.out hc
      have HU : Hid (OwU wb.heap.size wc uo (0) uc (enc s)) := hu
      clear hc hu
      clear p0 p1 p2 p3
      clear s0 s1 s2 s3 s4 s5
      have pc := CP.out.below HC.out
      have p0 := pc 0 _ rfl
      have p1 := pc 1 _ rfl
      have p2 := pc 2 _ rfl
      have p3 := pc 3 _ rfl
      clear pc
      have tc := CT.out.below HC.out
      have t0 := tc 0 _ rfl
      have t1 := tc 1 _ rfl
      have t2 := tc 2 _ rfl
      have t3 := tc 3 _ rfl
      have t4 := tc 4 _ rfl
      have t5 := tc 5 _ rfl
      clear tc
      go_wp2_with fail
      refine (HBt.out _ (HAT.out.below (below_then HB2.out HC.out))).mono ?_
      rintro e wd ⟨vo, vc, rfl, hv, hd⟩
      have HD : Hid (Below w2.heap.size w2 wd) := below_then HC.out hd
      have HU2 : Hid (OwU wb.heap.size wd uo (0) uc (enc s)) := HU.out.below hd
      have HV : Hid (OwU wc.heap.size wd vo (l') vc (enc t)) := hv
      clear hd hv HU
      clear p0 p1 p2 p3
      clear t0 t1 t2 t3 t4 t5
      go_wp2_with fail
      go_ret
      exact ⟨rfl, below_then HB2.out HD.out⟩)
end Go.Proofs.Ytcippamdjmonlaa
