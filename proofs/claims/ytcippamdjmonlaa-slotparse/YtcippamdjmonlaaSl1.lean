/- What Bytes of the document answers; SlotBytes' walk. -/
import Derived.Test.YtcippamdjmonlaaSlI
import Derived.Test.YtcippamdjmonlaaSlS
import Derived.Test.YtcippamdjmonlaaSlV
import Derived.Test.YtcippamdjmonlaaSlZ
namespace Go.Proofs.Ytcippamdjmonlaa
open Go.RowKit

theorem Vec.onlyn {X : Nat → Prop} {w w' : World} {ao : Option Addr} {n cap : Nat} {R : Nat → Int} (h : Vec w ao n cap R) (ho : Only X w w') (hx : 0 < n → ∀ a, ao = some a → ¬ X a.block) : Vec w' ao n cap R :=
  ⟨fun hn => by obtain ⟨b, off, rfl, hc⟩ := h.rd hn; exact ⟨b, off, rfl, fun i hi => ho.cell (hc i hi) (hx hn ⟨b, off, none⟩ rfl)⟩, h.nil, h.room⟩
theorem Has.onlyn {X : Nat → Prop} {w w' : World} {s : Sl} {ao : Option Addr} {ca : Nat} {bo : Option Addr} {cb : Nat} (h : Has w s ao ca bo cb) (ho : Only X w w') (hx : ∀ b, b < w.heap.size → ¬ X b) : Has w' s ao ca bo cb :=
  ⟨h.vec.onlyn ho fun hn _ ha => hx _ (h.vec.blk hn ha), h.bec.onlyn ho fun hn _ ha => hx _ (h.bec.blk hn ha)⟩
set_option maxHeartbeats 4000000 in
set_option maxRecDepth 100000 in
theorem RBytes_any {k r c q : Int} {N W : Nat} {x : Int} (h : Par k r c q N W x) (w : World) (s : Sl) (ao : Option Addr) (ca : Nat) (bo : Option Addr) (cb : Nat) (hs : Has w s ao ca bo cb) (E : Int) (hE : erS x N c s = E) :
    Calls Try.prog 12 #[.agg #[.int .i64 k, .int .i64 r, .int .i64 c, .int .i64 q], slv s ao ca bo cb] w (AnsB w E (sz N c) (enc s)) := by
  have HM : Hid (∀ w, Calls Try.prog 18 #[.agg #[.int .i64 k, .int .i64 r, .int .i64 c, .int .i64 q]] w fun e w' => e = .returned (.bool (decide (x = 0))) ∧ Below w.heap.size w w') := fun w => by have := May_any k r c q w; rw [h.may] at this; exact this
  have hx := h.err
  have hN := h.few
  have HH : Hid (Has w s ao ca bo cb) := hs
  obtain ⟨w0, hw0⟩ : ∃ w0, w0 = w.alloc (.cells #[.int .i64 k, .int .i64 r, .int .i64 c, .int .i64 q] 23) := ⟨_, rfl⟩
  obtain ⟨w1, hw1⟩ : ∃ w1, w1 = w0.alloc (.cells #[.int .u8 ((s.kd.toNat : Nat) : Int), .int .i64 s.ix, .int .i64 s.ce, .int .i64 s.st, .slice ao s.vn ca, .slice bo s.dn cb] 27) := ⟨_, rfl⟩
  have b0 : Below w.heap.size w w0 := by rw [hw0]; exact below_alloc _ _
  have b1 : Below w0.heap.size w0 w1 := by rw [hw1]; exact below_alloc _ _
  have z0 : w0.heap.size = w.heap.size + 1 := by rw [hw0]; simp
  have C0 : Hid (Cel w1 w.heap.size [.int .i64 k, .int .i64 r, .int .i64 c, .int .i64 q]) := (cel_new hw0).below b1
  have C1 : Hid (Cel w1 (w.heap.size + 1) [.int .u8 ((s.kd.toNat : Nat) : Int), .int .i64 s.ix, .int .i64 s.ce, .int .i64 s.st, .slice ao s.vn ca, .slice bo s.dn cb]) := by show Cel _ _ _; rw [← z0]; exact cel_new hw1
  have HB1 : Hid (Below w.heap.size w w1) := below_then b0 b1
  unfold AnsB
  rcases hx with rfl | rfl
  · have hc := h.cell rfl
    have HMY : Hid (∀ w y, okS N c s = y → Has w s ao ca bo cb → Calls Try.prog 23 #[.agg #[.int .i64 k, .int .i64 r, .int .i64 c, .int .i64 q], .agg #[.int .u8 ((s.kd.toNat : Nat) : Int), .int .i64 s.ix, .int .i64 s.ce, .int .i64 s.st, .slice ao s.vn ca, .slice bo s.dn cb]] w fun e w' => e = .returned (.bool y) ∧ Below w.heap.size w w') := fun w y hy hs => RMay_any h w s ao ca bo cb hs y hy
    rw [show decide ((0 : Int) = 0) = true from rfl] at HM
    obtain ⟨y, hy⟩ : ∃ y, okS N c s = y := ⟨_, rfl⟩
    cases y
    · obtain rfl : E = 100 := by rw [← hE]; unfold erS; rw [if_pos rfl, if_neg (by rw [hy]; decide)]
      have HMA := fun w hs => HMY.out w false hy hs
      rw [show lenE 100 (sz N c) = 0 from rfl]
      unfold slv
      clear hE hs h HMY hy
      go_enter Try.func12, Try.ntmps12
      go_wp2_with fail
      rw [← hw0, ← hw1]
      clear hw0 hw1 b0 b1 z0
      refine (HM.out _).mono ?_
      rintro e wa ⟨rfl, ha⟩
      have HA : Hid (Below w1.heap.size w1 wa) := ha
      clear ha
      have pc := C0.out.below HA.out
      have p0 := pc 0 _ rfl
      have p1 := pc 1 _ rfl
      have p2 := pc 2 _ rfl
      have p3 := pc 3 _ rfl
      clear pc
      have sc := C1.out.below HA.out
      have s0 := sc 0 _ rfl
      have s1 := sc 1 _ rfl
      have s2 := sc 2 _ rfl
      have s3 := sc 3 _ rfl
      have s4 := sc 4 _ rfl
      have s5 := sc 5 _ rfl
      clear sc
      go_wp2_with fail
      refine (HMA _ (HH.out.below (below_then HB1.out HA.out))).mono ?_
      rintro e wb ⟨rfl, hb⟩
      go_wp2_with fail
      go_ret2
      exact ⟨_, _, rfl, owu_nil _ _ _, below_then (below_then HB1.out HA.out) hb⟩
    · obtain rfl : E = 0 := by rw [← hE]; unfold erS; rw [if_pos rfl, if_pos hy]
      have HMA := fun w hs => HMY.out w true hy hs
      have HMD : Hid (∀ w, Has w s ao ca bo cb → Calls Try.prog 24 #[.agg #[.int .u8 ((s.kd.toNat : Nat) : Int), .int .i64 s.ix, .int .i64 s.ce, .int .i64 s.st, .slice ao s.vn ca, .slice bo s.dn cb]] w fun e w' => ∃ uo uc, e = .returned (.slice uo (sz N c) uc) ∧ OwU w.heap.size w' uo (sz N c) uc (enc s) ∧ Below w.heap.size w w') := fun w hs => Made_any w s ao ca bo cb hN hc.1 hc.2 hs hy
      rw [show lenE 0 (sz N c) = sz N c from rfl]
      generalize sz N c = n at *
      unfold slv
      clear hE hs h HMY hy hc
      go_enter Try.func12, Try.ntmps12
      go_wp2_with fail
      rw [← hw0, ← hw1]
      clear hw0 hw1 b0 b1 z0
      refine (HM.out _).mono ?_
      rintro e wa ⟨rfl, ha⟩
      have HA : Hid (Below w1.heap.size w1 wa) := ha
      clear ha
      have pc := C0.out.below HA.out
      have p0 := pc 0 _ rfl
      have p1 := pc 1 _ rfl
      have p2 := pc 2 _ rfl
      have p3 := pc 3 _ rfl
      clear pc
      have sc := C1.out.below HA.out
      have s0 := sc 0 _ rfl
      have s1 := sc 1 _ rfl
      have s2 := sc 2 _ rfl
      have s3 := sc 3 _ rfl
      have s4 := sc 4 _ rfl
      have s5 := sc 5 _ rfl
      clear sc
      go_wp2_with fail
      refine (HMA _ (HH.out.below (below_then HB1.out HA.out))).mono ?_
      rintro e wb ⟨rfl, hb⟩
      have HB : Hid (Below w1.heap.size w1 wb) := below_then HA.out hb
      clear hb
      clear p0 p1 p2 p3
      clear s0 s1 s2 s3 s4 s5
      have sc := C1.out.below HB.out
      have s0 := sc 0 _ rfl
      have s1 := sc 1 _ rfl
      have s2 := sc 2 _ rfl
      have s3 := sc 3 _ rfl
      have s4 := sc 4 _ rfl
      have s5 := sc 5 _ rfl
      clear sc
      go_wp2_with fail
      refine (HMD.out _ (HH.out.below (below_then HB1.out HB.out))).mono ?_
      rintro e wc ⟨uo, uc, rfl, hu, hc⟩
      go_wp2_with fail
      go_ret2
      exact ⟨_, _, rfl, hu.mono (Nat.le_trans HB1.out.size HB.out.size), below_then (below_then HB1.out HB.out) hc⟩
  · obtain rfl : E = 2 := by rw [← hE]; unfold erS; rw [if_neg (by decide)]
    rw [show lenE 2 (sz N c) = 0 from rfl]
    rw [show decide ((2 : Int) = 0) = false from rfl] at HM
    unfold slv
    clear hE hs h
    go_enter Try.func12, Try.ntmps12
    go_wp2_with fail
    rw [← hw0, ← hw1]
    clear hw0 hw1 b0 b1 z0
    refine (HM.out _).mono ?_
    rintro e wa ⟨rfl, ha⟩
    go_wp2_with fail
    go_ret2
    exact ⟨_, _, rfl, owu_nil _ _ _, below_then HB1.out ha⟩
set_option maxHeartbeats 8000000 in
set_option maxRecDepth 100000 in
theorem SBytes_any (k r c q : Int) (w : World) (s : Sl) (ao : Option Addr) (ca : Nat) (bo : Option Addr) (cb : Nat) (hs : Has w s ao ca bo cb) (hv8 : s.vn * 8 ≤ 140737488355328) (hd8 : s.dn ≤ 140737488355328) :
    Calls Try.prog 3 #[.agg #[.int .i64 k, .int .i64 r, .int .i64 c, .int .i64 q], slv s ao ca bo cb] w fun e w' => e = .returned (.bool true) ∧ Below w.heap.size w w' := by
  obtain ⟨N, W, x, h⟩ := par_any k r c q
  have hN := h.few
  obtain ⟨E, hE⟩ : ∃ E, erS x N c s = E := ⟨_, rfl⟩
  have hl : lenE E (sz N c) ≤ 1000 := by
    unfold lenE
    by_cases e : E = 0
    · rw [if_pos e]
      subst e
      obtain ⟨rfl, _⟩ := dg_x hE
      have := h.cell rfl
      unfold sz; omega
    · rw [if_neg e]; omega
  have HZ : Hid (∀ w, Calls Try.prog 9 #[.agg #[.int .i64 k, .int .i64 r, .int .i64 c, .int .i64 q]] w fun e w' => e = .returned (.tuple #[.int .i64 ((szE x N c : Nat) : Int), .int .i64 x]) ∧ Below w.heap.size w w') := fun w => Size_any h w
  have HZR : Hid (∀ w, Calls Try.prog 10 #[.agg #[.int .i64 k, .int .i64 r, .int .i64 c, .int .i64 q]] w fun e w' => e = .returned (.tuple #[.int .i64 ((szE x N c : Nat) : Int), .int .i64 x]) ∧ Below w.heap.size w w') := fun w => RSize_any h w
  have HBY : Hid (∀ w to' tc' uo' uc', Has w s to' tc' uo' uc' → Calls Try.prog 11 #[.agg #[.int .i64 k, .int .i64 r, .int .i64 c, .int .i64 q], .agg #[.int .u8 ((s.kd.toNat : Nat) : Int), .int .i64 s.ix, .int .i64 s.ce, .int .i64 s.st, .slice to' s.vn tc', .slice uo' s.dn uc']] w (AnsB w E (sz N c) (enc s))) := fun w to' tc' uo' uc' hs => Bytes_any h w s to' tc' uo' uc' hs E hE
  have HRB : Hid (∀ w, Has w s ao ca bo cb → Calls Try.prog 12 #[.agg #[.int .i64 k, .int .i64 r, .int .i64 c, .int .i64 q], .agg #[.int .u8 ((s.kd.toNat : Nat) : Int), .int .i64 s.ix, .int .i64 s.ce, .int .i64 s.st, .slice ao s.vn ca, .slice bo s.dn cb]] w (AnsB w E (sz N c) (enc s))) := fun w hs => RBytes_any h w s ao ca bo cb hs E hE
  have HSM : Hid (∀ w to' tc' uo' uc', Has w s to' tc' uo' uc' → Has w s ao ca bo cb → Calls Try.prog 13 #[.agg #[.int .u8 ((s.kd.toNat : Nat) : Int), .int .i64 s.ix, .int .i64 s.ce, .int .i64 s.st, .slice to' s.vn tc', .slice uo' s.dn uc'], .agg #[.int .u8 ((s.kd.toNat : Nat) : Int), .int .i64 s.ix, .int .i64 s.ce, .int .i64 s.st, .slice ao s.vn ca, .slice bo s.dn cb]] w fun e w' => e = .returned (.bool true) ∧ Below w.heap.size w w') := fun w to' tc' uo' uc' h1 h2 => RSame_any w s s to' tc' uo' uc' ao ca bo cb h1 h2 (by omega) true (sameS_refl s)
  have HTW : Hid (∀ w, Has w s ao ca bo cb → Calls Try.prog 8 #[.agg #[.int .u8 ((s.kd.toNat : Nat) : Int), .int .i64 s.ix, .int .i64 s.ce, .int .i64 s.st, .slice ao s.vn ca, .slice bo s.dn cb]] w fun e w' => ∃ to' tc' uo' uc', e = .returned (.agg #[.int .u8 ((s.kd.toNat : Nat) : Int), .int .i64 s.ix, .int .i64 s.ce, .int .i64 s.st, .slice to' s.vn tc', .slice uo' s.dn uc']) ∧ Got w.heap.size w' s to' tc' uo' uc' ∧ Below w.heap.size w w') := fun w hs => twin_any w s ao ca bo cb hs hv8 hd8
  have HAS : Hid (Has w s ao ca bo cb) := hs
  unfold AnsB at HBY HRB
  obtain ⟨l, hll⟩ : ∃ l, lenE E (sz N c) = l := ⟨_, rfl⟩
  obtain ⟨m, hm⟩ : ∃ m, szE x N c = m := ⟨_, rfl⟩
  obtain ⟨F, hF⟩ : ∃ F, enc s = F := ⟨_, rfl⟩
  rw [hll, hF] at HBY HRB
  rw [hm] at HZ HZR
  rw [hll] at hl
  unfold slv
  clear hE h hs hv8 hd8 hll hm hF
  obtain ⟨w0, hw0⟩ : ∃ w0, w0 = w.alloc (.cells #[.int .i64 k, .int .i64 r, .int .i64 c, .int .i64 q] 23) := ⟨_, rfl⟩
  obtain ⟨w1, hw1⟩ : ∃ w1, w1 = w0.alloc (.cells #[.int .u8 ((s.kd.toNat : Nat) : Int), .int .i64 s.ix, .int .i64 s.ce, .int .i64 s.st, .slice ao s.vn ca, .slice bo s.dn cb] 27) := ⟨_, rfl⟩
  have b0 : Below w.heap.size w w0 := by rw [hw0]; exact below_alloc _ _
  have b1 : Below w0.heap.size w0 w1 := by rw [hw1]; exact below_alloc _ _
  have z0 : w0.heap.size = w.heap.size + 1 := by rw [hw0]; simp
  have CP : Hid (Cel w1 w.heap.size [.int .i64 k, .int .i64 r, .int .i64 c, .int .i64 q]) := (cel_new hw0).below b1
  have CS : Hid (Cel w1 (w.heap.size + 1) [.int .u8 ((s.kd.toNat : Nat) : Int), .int .i64 s.ix, .int .i64 s.ce, .int .i64 s.st, .slice ao s.vn ca, .slice bo s.dn cb]) := by show Cel _ _ _; rw [← z0]; exact cel_new hw1
  have HB1 : Hid (Below w.heap.size w w1) := below_then b0 b1
  have HZ1 : Hid (w.heap.size + 2 ≤ w1.heap.size) := by show _ ≤ _; rw [hw1]; simp [z0]
  go_enter Try.func3, Try.ntmps3
  go_wp2_with fail
  rw [← hw0, ← hw1]
  clear hw0 hw1 b0 b1 z0
  refine (awake_any _).mono ?_
  rintro e wa ⟨rfl, ha⟩
  have HA : Hid (Below w1.heap.size w1 wa) := ha
  clear ha
  have sc := CS.out.below HA.out
  have s0 := sc 0 _ rfl
  have s1 := sc 1 _ rfl
  have s2 := sc 2 _ rfl
  have s3 := sc 3 _ rfl
  have s4 := sc 4 _ rfl
  have s5 := sc 5 _ rfl
  clear sc
  go_wp2_with fail
  refine (HTW.out _ (HAS.out.below (below_then HB1.out HA.out))).mono ?_
  rintro e wb ⟨to', tc', uo', uc', rfl, hg, hb⟩
  have HB : Hid (Below w1.heap.size w1 wb) := below_then HA.out hb
  obtain ⟨wc, hwc⟩ : ∃ wc, wc = wb.alloc (.cells #[.int .u8 ((s.kd.toNat : Nat) : Int), .int .i64 s.ix, .int .i64 s.ce, .int .i64 s.st, .slice to' s.vn tc', .slice uo' s.dn uc'] 27) := ⟨_, rfl⟩
  have bc : Below wb.heap.size wb wc := by rw [hwc]; exact below_alloc _ _
  have HG : Hid (Got wa.heap.size wc s to' tc' uo' uc') := hg.below bc
  have HC : Hid (Below w1.heap.size w1 wc) := below_then HB.out bc
  have CT : Hid (Cel wc wb.heap.size [.int .u8 ((s.kd.toNat : Nat) : Int), .int .i64 s.ix, .int .i64 s.ce, .int .i64 s.st, .slice to' s.vn tc', .slice uo' s.dn uc']) := cel_new hwc
  have HZC : Hid (wb.heap.size < wc.heap.size) := by show _ < _; rw [hwc]; simp
  have pc := CP.out.below HB.out
  have gp : ∀ o i u, [.int .i64 k, .int .i64 r, .int .i64 c, .int .i64 q][i]? = some u → (wb.alloc o).cell? ⟨w.heap.size, i, none⟩ = some u := fun o i u hu => held (pc i u hu) (below_alloc _ _)
  have gp0 := fun o => gp o 0 _ rfl
  have gp1 := fun o => gp o 1 _ rfl
  have gp2 := fun o => gp o 2 _ rfl
  have gp3 := fun o => gp o 3 _ rfl
  clear hg hb bc pc gp
  clear s0 s1 s2 s3 s4 s5
  go_wp2_with fail
  rw [← hwc]
  clear hwc gp0 gp1 gp2 gp3
  refine (HZ.out _).mono ?_
  rintro e wd ⟨rfl, hd⟩
  have DD : Hid (Below wc.heap.size wc wd) := hd
  clear hd
  have pc := CP.out.below (below_then HC.out DD.out)
  have p0 := pc 0 _ rfl
  have p1 := pc 1 _ rfl
  have p2 := pc 2 _ rfl
  have p3 := pc 3 _ rfl
  clear pc
  go_wp2_with fail
  refine (HZR.out _).mono ?_
  rintro e we ⟨rfl, he⟩
  have DE : Hid (Below wc.heap.size wc we) := below_then DD.out he
  clear he
  clear p0 p1 p2 p3
  have pc := CP.out.below (below_then HC.out DE.out)
  have p0 := pc 0 _ rfl
  have p1 := pc 1 _ rfl
  have p2 := pc 2 _ rfl
  have p3 := pc 3 _ rfl
  clear pc
  have tc := CT.out.below DE.out
  have t0 := tc 0 _ rfl
  have t1 := tc 1 _ rfl
  have t2 := tc 2 _ rfl
  have t3 := tc 3 _ rfl
  have t4 := tc 4 _ rfl
  have t5 := tc 5 _ rfl
  clear tc
  go_wp2_with fail
  refine (HBY.out _ to' tc' uo' uc' (HG.out.has.below DE.out)).mono ?_
  rintro e wf ⟨xo, xc, rfl, hx, hf⟩
  have DF : Hid (Below wc.heap.size wc wf) := below_then DE.out hf
  have HX : Hid (OwU we.heap.size wf xo l xc F) := hx
  clear hf hx
  clear p0 p1 p2 p3
  clear t0 t1 t2 t3 t4 t5
  have pc := CP.out.below (below_then HC.out DF.out)
  have p0 := pc 0 _ rfl
  have p1 := pc 1 _ rfl
  have p2 := pc 2 _ rfl
  have p3 := pc 3 _ rfl
  clear pc
  have sc := CS.out.below (below_then HC.out DF.out)
  have s0 := sc 0 _ rfl
  have s1 := sc 1 _ rfl
  have s2 := sc 2 _ rfl
  have s3 := sc 3 _ rfl
  have s4 := sc 4 _ rfl
  have s5 := sc 5 _ rfl
  clear sc
  go_wp2_with fail
  refine (HRB.out _ (HAS.out.below (below_then HB1.out (below_then HC.out DF.out)))).mono ?_
  rintro e wg ⟨yo, yc, rfl, hy, hg⟩
  have DG : Hid (Below wc.heap.size wc wg) := below_then DF.out hg
  have HX2 : Hid (OwU we.heap.size wg xo l xc F) := HX.out.below hg
  have HY : Hid (OwU wf.heap.size wg yo l yc F) := hy
  have v1 : (convert 25 9 (.slice xo l xc)).run Try.prog wg = .ok (.string (sOf (lsF l F))) wg := conv_any HX2.out.bec
  have v2 : (convert 25 9 (.slice yo l yc)).run Try.prog wg = .ok (.string (sOf (lsF l F))) wg := conv_any HY.out.bec
  have HXW : Hid (∀ a, xo = some a → we.heap.size ≤ a.block ∧ a.block < wf.heap.size) := fun a ha => World.ownsRow.lt HX.out _ (by rw [ha]; rfl)
  clear hg hy HX
  clear p0 p1 p2 p3
  clear s0 s1 s2 s3 s4 s5
  have tc := CT.out.below DG.out
  have t0 := tc 0 _ rfl
  have t1 := tc 1 _ rfl
  have t2 := tc 2 _ rfl
  have t3 := tc 3 _ rfl
  have t4 := tc 4 _ rfl
  have t5 := tc 5 _ rfl
  clear tc
  have sc := CS.out.below (below_then HC.out DG.out)
  have s0 := sc 0 _ rfl
  have s1 := sc 1 _ rfl
  have s2 := sc 2 _ rfl
  have s3 := sc 3 _ rfl
  have s4 := sc 4 _ rfl
  have s5 := sc 5 _ rfl
  clear sc
  go_wp2_with fail
  refine (HSM.out _ to' tc' uo' uc' (HG.out.has.below DG.out) (HAS.out.below (below_then HB1.out (below_then HC.out DG.out)))).mono ?_
  rintro e wh ⟨rfl, hh⟩
  have DH : Hid (Below wc.heap.size wc wh) := below_then DG.out hh
  have HX3 : Hid (OwU we.heap.size wh xo l xc F) := HX2.out.below hh
  have HY3 : Hid (OwU wf.heap.size wh yo l yc F) := HY.out.below hh
  clear hh v1 v2 HX2 HY
  clear t0 t1 t2 t3 t4 t5
  clear s0 s1 s2 s3 s4 s5
  go_wp2_with fail
  go_loopw [16] (fun y wr => ∃ i : Nat, i ≤ l ∧ y = .int .i64 (i : Int) ∧ (∃ G, Hid (OwU we.heap.size wr xo l xc G)) ∧ Hid (Only (fun b => xo = some ⟨b, 0, none⟩) wh wr)) (fun y _ => l - (intOf y).toNat)
  case atStart => exact ⟨0, Nat.zero_le _, rfl, ⟨F, HX3⟩, Only.refl _ _⟩
  case round =>
    obtain ⟨i, hi, rfl, ⟨G, hG⟩, hO⟩ := hrel
    by_cases hlt : i < l
    · obtain ⟨g, rfl, _, _⟩ := hG.out.at_ (by omega)
      have ck := hG.out.cell hlt
      have fk := hG.out.free i
      have i1 : (0 : Int) ≤ (i : Int) := by omega
      have i2 : (i : Int) < (l : Int) := by omega
      have HS : Hid (OwU we.heap.size (wr.setCell ⟨g, i, none⟩ (.int .u8 99)) (some ⟨g, 0, none⟩) l xc (put i 99 G)) := hG.out.set i 99
      have HSO : Hid (Only (fun b => some (⟨g, 0, none⟩ : Addr) = some ⟨b, 0, none⟩) wh (wr.setCell ⟨g, i, none⟩ (.int .u8 99))) := hO.out.setCell (p := ⟨g, i, none⟩) rfl _
      go_wp2
      go_roundw
      case rel => exact ⟨i + 1, by omega, by go_num, ⟨_, HS⟩, HSO⟩
      case measure => simp [intOf]; omega
    · have hsmall : ∀ b, b < we.heap.size → ¬ xo = some ⟨b, 0, none⟩ := fun b hb e => by have := (HXW.out _ e).1; simp only at this; omega
      have HTE := HG.out.has.below DE.out
      have HSE := HAS.out.below (below_then HB1.out (below_then HC.out DE.out))
      have HTH := HG.out.has.below DH.out
      have HSH := HAS.out.below (below_then HB1.out (below_then HC.out DH.out))
      have HTR : Hid (Has wr s to' tc' uo' uc') := ⟨HTH.vec.onlyn hO.out fun hn a ha => hsmall _ (HTE.vec.blk hn ha), HTH.bec.onlyn hO.out fun hn a ha => hsmall _ (HTE.bec.blk hn ha)⟩
      have HSR : Hid (Has wr s ao ca bo cb) := ⟨HSH.vec.onlyn hO.out fun hn a ha => hsmall _ (HSE.vec.blk hn ha), HSH.bec.onlyn hO.out fun hn a ha => hsmall _ (HSE.bec.blk hn ha)⟩
      have HYR : Hid (OwU wf.heap.size wr yo l yc F) := HY3.out.stay fun g hg hl => hO.out.block g hl (fun e => by have := (HXW.out _ e).2; simp only at this; omega)
      have l1 := HB1.out.size
      have l2 := HC.out.size
      have l3 := DE.out.size
      have l4 := HZC.out
      have l5 := HZ1.out
      have HPR : Hid (Cel wr w.heap.size [.int .i64 k, .int .i64 r, .int .i64 c, .int .i64 q]) := (CP.out.below (below_then HC.out DH.out)).only hO.out (hsmall _ (by omega))
      have HCR : Hid (Cel wr (w.heap.size + 1) [.int .u8 ((s.kd.toNat : Nat) : Int), .int .i64 s.ix, .int .i64 s.ce, .int .i64 s.st, .slice ao s.vn ca, .slice bo s.dn cb]) := (CS.out.below (below_then HC.out DH.out)).only hO.out (hsmall _ (by omega))
      have HTC : Hid (Cel wr wb.heap.size [.int .u8 ((s.kd.toNat : Nat) : Int), .int .i64 s.ix, .int .i64 s.ce, .int .i64 s.st, .slice to' s.vn tc', .slice uo' s.dn uc']) := (CT.out.below DH.out).only hO.out (hsmall _ (by omega))
      have HWR : Hid (Below w.heap.size w wr) := (below_then HB1.out (below_then HC.out DH.out)).trans (hO.out.below (fun b hb => by have := (HXW.out _ hb).1; simp only at this; omega) (Nat.le_trans l1 (below_then HC.out DH.out).size))
      clear HTE HSE HTH HSH hsmall l1 l2 l3 l4 l5 hO hG
      have pc := HPR.out
      have p0 := pc 0 _ rfl
      have p1 := pc 1 _ rfl
      have p2 := pc 2 _ rfl
      have p3 := pc 3 _ rfl
      clear pc
      have tc := HTC.out
      have t0 := tc 0 _ rfl
      have t1 := tc 1 _ rfl
      have t2 := tc 2 _ rfl
      have t3 := tc 3 _ rfl
      have t4 := tc 4 _ rfl
      have t5 := tc 5 _ rfl
      clear tc
      go_wp2_with fail
      refine (HBY.out _ to' tc' uo' uc' HTR.out).mono ?_
      rintro e wi ⟨zo, zc, rfl, hz, hi2⟩
      have HIB : Hid (Below wr.heap.size wr wi) := hi2
      have HZO : Hid (OwU wr.heap.size wi zo l zc F) := hz
      clear hz hi2
      clear p0 p1 p2 p3
      clear t0 t1 t2 t3 t4 t5
      have tc := HTC.out.below HIB.out
      have t0 := tc 0 _ rfl
      have t1 := tc 1 _ rfl
      have t2 := tc 2 _ rfl
      have t3 := tc 3 _ rfl
      have t4 := tc 4 _ rfl
      have t5 := tc 5 _ rfl
      clear tc
      have sc := HCR.out.below HIB.out
      have s0 := sc 0 _ rfl
      have s1 := sc 1 _ rfl
      have s2 := sc 2 _ rfl
      have s3 := sc 3 _ rfl
      have s4 := sc 4 _ rfl
      have s5 := sc 5 _ rfl
      clear sc
      go_wp2_with fail
      refine (HSM.out _ to' tc' uo' uc' (HTR.out.below HIB.out) (HSR.out.below HIB.out)).mono ?_
      rintro e wj ⟨rfl, hj⟩
      have v1 : (convert 25 9 (.slice zo l zc)).run Try.prog wj = .ok (.string (sOf (lsF l F))) wj := conv_any (HZO.out.below hj).bec
      have v2 : (convert 25 9 (.slice yo l yc)).run Try.prog wj = .ok (.string (sOf (lsF l F))) wj := conv_any ((HYR.out.below HIB.out).below hj).bec
      go_wp2_with fail
      go_ret
      exact ⟨rfl, below_then (below_then HWR.out HIB.out) hj⟩
end Go.Proofs.Ytcippamdjmonlaa
