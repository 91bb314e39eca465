import Derived.Test.YtngcdlodcdgcaaaGreatZk24
namespace Go.Proofs.YtngcdlodcdgcaaaGreat
open Go.RowKit
def erQ (x : Int) (N : Nat) (c : Int) (n : Nat) : Int := if x = 0 then (if n = 0 \/ n = sz N c then 0 else 100) else x
def isQ (x : Int) (N : Nat) (c : Int) (n : Nat) (F : Nat -> UInt8) : Bool := decide (x = 0) && isS N c n F
def slQ (i : Bool) (N : Nat) (c : Int) (F : Nat -> UInt8) : Sl := if i = true then dec N c F else zSl
def AnsP (w : World) (E : Int) (i : Bool) (z : Sl) (e : Ending) (w' : World) : Prop :=
  ∃ ao ca bo cb, e = .returned (.tuple #[slv z ao ca bo cb, .bool i, .int .i64 E]) /\ Got w.heap.size w' z ao ca bo cb /\ Below w.heap.size w w'
theorem only6 (w : World) (b : Nat) (u0 u1 u2 u3 u4 u5 : Value) : Only (fun x => x = b) w ((((((w.setCell ⟨b, 0, none⟩ u0).setCell ⟨b, 1, none⟩ u1).setCell ⟨b, 2, none⟩ u2).setCell ⟨b, 3, none⟩ u3).setCell ⟨b, 4, none⟩ u4).setCell ⟨b, 5, none⟩ u5) := by
  have h0 : Only (fun x => x = b) w (w.setCell ⟨b, 0, none⟩ u0) := Only.setCell (X := fun x => x = b) (p := ⟨b, 0, none⟩) (Only.refl _ _) rfl _
  have h1 := Only.setCell (X := fun x => x = b) (p := ⟨b, 1, none⟩) h0 rfl u1
  have h2 := Only.setCell (X := fun x => x = b) (p := ⟨b, 2, none⟩) h1 rfl u2
  have h3 := Only.setCell (X := fun x => x = b) (p := ⟨b, 3, none⟩) h2 rfl u3
  have h4 := Only.setCell (X := fun x => x = b) (p := ⟨b, 4, none⟩) h3 rfl u4
  exact Only.setCell (X := fun x => x = b) (p := ⟨b, 5, none⟩) h4 rfl u5
theorem b_at {a v : World} {B : Nat} (h : Below B a v) {p : Addr} (hp : B <= p.block) (u : Value) : Below B a (v.setCell p u) := h.setCell hp u
set_option maxHeartbeats 8000000 in
set_option maxRecDepth 100000 in
theorem Parse_any {k r c q : Int} {N W : Nat} {x : Int} (h : Par k r c q N W x) (w : World) (bo : Option Addr) (n cb : Nat) (F : Nat -> UInt8) (hb : Bec w bo n cb F) (E : Int) (hE : erQ x N c n = E) (i : Bool) (hi : isQ x N c n F = i) (z : Sl) (hz : slQ i N c F = z) :
    Calls Tryz.prog 36 #[.agg #[.int .i64 k, .int .i64 r, .int .i64 c, .int .i64 q], .slice bo n cb] w (AnsP w E i z) := by
  have HZ := fun w => Size_any h w
  have hx := h.err
  have hN := h.few
  obtain ⟨w0, hw0⟩ : ∃ w0, w0 = w.alloc (.cells #[.int .i64 k, .int .i64 r, .int .i64 c, .int .i64 q] 23) := ⟨_, rfl⟩
  obtain ⟨w1, hw1⟩ : ∃ w1, w1 = w0.alloc (.cells #[.int .u8 0, .int .i64 0, .int .i64 0, .int .i64 0, .slice none 0 0, .slice none 0 0] 83) := ⟨_, rfl⟩
  have b0 : Below w.heap.size w w0 := by rw [hw0]; exact below_alloc _ _
  have b1 : Below w0.heap.size w0 w1 := by rw [hw1]; exact below_alloc _ _
  have z0 : w0.heap.size = w.heap.size + 1 := by rw [hw0]; simp
  have z1 : w1.heap.size = w.heap.size + 2 := by rw [hw1]; simp [z0]
  have C0 : Hid (Cel w1 w.heap.size [.int .i64 k, .int .i64 r, .int .i64 c, .int .i64 q]) := (cel_new hw0).below b1
  have C1 : Hid (Cel w1 (w.heap.size + 1) [.int .u8 0, .int .i64 0, .int .i64 0, .int .i64 0, .slice none 0 0, .slice none 0 0]) := by show Cel _ _ _; rw [<- z0]; exact cel_new hw1
  have F1 : Hid (∀ v, Below w1.heap.size w1 v -> ∀ i, v.frozen? ⟨w.heap.size + 1, i, none⟩ = false) := fun v hv i => by rw [<- z0]; exact blk_free hw1 hv i
  have HB1 : Hid (Below w.heap.size w w1) := below_then b0 b1
  have HZ1 : Hid (w1.heap.size = w.heap.size + 2) := z1
  have HAT : Hid (∀ v, Below w1.heap.size w1 v -> At w0 v (w.heap.size + 1) #[.int .u8 0, .int .i64 0, .int .i64 0, .int .i64 0, .slice none 0 0, .slice none 0 0] 83) := fun v hv => by rw [<- z0, hw1] at *; exact (at_new (Below.refl _ _) _ _).below hv
  unfold AnsP
  rcases hx with rfl | rfl
  · have hN1 := h.some rfl
    have hc := h.cell rfl
    rw [show szE 0 N c = sz N c by unfold szE; rw [if_pos rfl]] at HZ
    obtain ⟨m, hm⟩ : ∃ m, m = sz N c := ⟨_, rfl⟩
    have hm2 : m = 12 + 4 * N + c.toNat := hm
    have hmb : m <= 1000 := by omega
    rw [<- hm] at HZ
    have hii : isS N c n F = i := by rw [<- hi]; unfold isQ; rw [decide_eq_true rfl, Bool.true_and]
    by_cases hn0 : n = 0
    · obtain rfl : E = 0 := by rw [<- hE]; unfold erQ; rw [if_pos rfl, if_pos (.inl hn0)]
      obtain rfl : i = false := by rw [<- hii]; exact decide_eq_false fun h => by have := h.1; omega
      obtain rfl : z = zSl := hz.symm
      subst hn0
      have hmz : ¬ m = 0 := by omega
      clear hE hi hii hz hm hm2 hb h
      unfold slv zSl
      go_enter Tryz.func36, Tryz.ntmps36
      go_wp2_with fail
      rw [<- hw0, <- hw1]
      refine (HZ _).mono ?_
      rintro e wa ⟨rfl, ha⟩
      have ba : Hid (Below w.heap.size w wa) := below_then HB1.out ha
      have HA : Hid (Below w1.heap.size w1 wa) := ha
      have ca := C1.out.below ha
      have c0 := ca 0 _ rfl
      have c1 := ca 1 _ rfl
      have c2 := ca 2 _ rfl
      have c3 := ca 3 _ rfl
      have c4 := ca 4 _ rfl
      have c5 := ca 5 _ rfl
      have cf := F1.out wa ha
      clear hw0 hw1 b0 b1 z0 z1 HZ ca ha
      go_wp2_with fail
      refine bodyPost_ret (v := .tuple #[.agg #[.int .u8 0, .int .i64 0, .int .i64 0, .int .i64 0, .slice none 0 0, .slice none 0 0], .bool false, .int .i64 0]) (by simp [results, Tryz.results36, go_sem, c0, c1, c2, c3, c4, c5]) rfl ?_
      exact ⟨none, 0, none, 0, rfl, got_z _ _, b_at (b_at (b_at (b_at (b_at (b_at ba.out (Nat.le_succ _) _) (Nat.le_succ _) _) (Nat.le_succ _) _) (Nat.le_succ _) _) (Nat.le_succ _) _) (Nat.le_succ _) _⟩
    · by_cases hnm : n = m
      · obtain rfl : E = 0 := by rw [<- hE]; unfold erQ; rw [if_pos rfl, if_pos (.inr (by rw [hnm]; exact hm))]
        subst hnm
        obtain ⟨g, o, rfl, hr⟩ := hb.rd (by omega)
        have HR : Hid (∀ j, j < n -> w.cell? ⟨g, o + j, none⟩ = some (.int .u8 (((F j).toNat : Nat) : Int))) := hr
        have hroom := hb.room
        have HCU := fun v => cut_any v k r c q g o n cb N hm2 hroom hN1 hN hc.1 hc.2
        have HME := fun v s ao ca bo cb hs y hy => mayBe_any h v s ao ca bo cb hs y hy
        have HRE := fun v hr => read_any (N := N) (c := c) v g o n F hN1 hN hc.1 hc.2 hm hr
        have HBE : Hid (Bec w (some ⟨g, o, none⟩) n cb F) := hb
        obtain ⟨pt, hpt⟩ : ∃ pt, pt = prt g o (4 * N) c.toNat := ⟨_, rfl⟩
        have HPT : Hid (pt = prt g o (4 * N) c.toNat) := hpt
        have hn0' : ¬ (n : Int) = 0 := by omega
        have hn12 : 12 <= n := by omega
        clear hE hb hr h hpt
        unfold prt at HCU
        by_cases hmk : F 0 = 84 /\ F 1 = 50
        · have HMK : ((sOf (lsF 2 F)).toList == [84, 50]) = true := by
            rw [sOf_list, show lsF 2 F = [F 0, F 1] from rfl, hmk.1, hmk.2]; rfl
          obtain ⟨s, hs⟩ : ∃ s, s = dec N c F := ⟨_, rfl⟩
          have hoi : okS N c s = i := by
            rw [<- hii, hs]
            unfold isS
            cases e : okS N c (dec N c F)
            · exact (decide_eq_false fun h => by cases h.2.2.2).symm
            · exact (decide_eq_true ⟨hm, hmk.1, hmk.2, rfl⟩).symm
          rw [<- hs] at HRE
          have HSQ : Hid (z = if i = true then s else zSl) := by show _ = _; rw [<- hz, hs]; rfl
          unfold prt slv at HRE
          unfold slv at HME
          clear hi hii hz hm hm2 hmk hs
          cases i
          all_goals (
            go_enter Tryz.func36, Tryz.ntmps36
            go_wp2_with fail
            rw [<- hw0, <- hw1]
            refine (HZ _).mono ?_
            rintro e wa ⟨rfl, ha⟩
            have ba : Hid (Below w.heap.size w wa) := below_then HB1.out ha
            have HA : Hid (Below w1.heap.size w1 wa) := ha
            have ca := C1.out.below ha
            have c0 := ca 0 _ rfl
            have c1 := ca 1 _ rfl
            have c2 := ca 2 _ rfl
            have c3 := ca 3 _ rfl
            have c4 := ca 4 _ rfl
            have c5 := ca 5 _ rfl
            have cf := F1.out wa ha
            clear hw0 hw1 b0 b1 z0 z1 HZ ca ha
            have pa := C0.out.below HA.out
            have p0 := pa 0 _ rfl
            have p1 := pa 1 _ rfl
            have p2 := pa 2 _ rfl
            have p3 := pa 3 _ rfl
            clear pa
            go_wp2_with fail
            refine (HCU _).mono ?_
            rintro e wb ⟨rfl, hb⟩
            obtain ⟨wc, hwc⟩ : ∃ wc, wc = wb.alloc (.cells #[.slice (some ⟨g, o, none⟩) 2 2, .slice (some ⟨g, o + 2, none⟩) 1 1, .slice (some ⟨g, o + 3, none⟩) 1 1, .slice (some ⟨g, o + 4, none⟩) 4 4, .slice (some ⟨g, o + 8, none⟩) 4 4, .slice (some ⟨g, o + 12, none⟩) (4 * N) (4 * N), .slice (some ⟨g, o + 12 + 4 * N, none⟩) c.toNat c.toNat] 119) := ⟨_, rfl⟩
            have HBC : Hid (Below w1.heap.size w1 wc) := below_then (below_then HA.out hb) (by rw [hwc]; exact below_alloc _ _)
            have bc : Hid (Below w.heap.size w wc) := below_then HB1.out HBC.out
            have hcv : (convert 74 9 (.slice (some ⟨g, o, none⟩) 2 2)).run Tryz.prog wc = .ok (.string (sOf (lsF 2 F))) wc := conv_any ⟨fun _ => ⟨g, o, rfl, fun j hj => held (HR.out j (by omega)) bc.out⟩, (fun h => by cases h), Nat.le_refl _⟩
            clear c0 c1 c2 c3 c4 c5 cf p0 p1 p2 p3
            have hat := HAT.out wc HBC.out
            have c0 := hat.cell (i := 0) rfl
            have c1 := hat.cell (i := 1) rfl
            have c2 := hat.cell (i := 2) rfl
            have c3 := hat.cell (i := 3) rfl
            have c4 := hat.cell (i := 4) rfl
            have c5 := hat.cell (i := 5) rfl
            have cf := hat.free
            go_wp2_with fail
            rw [<- hwc, hcv]
            have dd := blk_held hwc (Below.refl _ _)
            have d0 := dd 0 rfl
            have d1 := dd 1 rfl
            have d2 := dd 2 rfl
            have d3 := dd 3 rfl
            have d4 := dd 4 rfl
            have d5 := dd 5 rfl
            have d6 := dd 6 rfl
            have HSZ : Hid (w.heap.size + 2 <= wc.heap.size) := by show _ <= _; rw [<- HZ1.out]; exact HBC.out.size
            clear hwc hcv dd
            go_wp2_with fail
            refine (HRE _ (fun j hj => held (HR.out j hj) bc.out)).mono ?_
            rintro e wd ⟨ao, ca, bo, cb2, rfl, hgot, hd⟩
            have HGOT : Hid (Got wc.heap.size wd s ao ca bo cb2) := hgot
            have HBD : Hid (Below w1.heap.size w1 wd) := below_then HBC.out hd
            clear c0 c1 c2 c3 c4 c5 cf d0 d1 d2 d3 d4 d5 d6 hat hgot hd
            have hat := HAT.out wd HBD.out
            have c0 := hat.cell (i := 0) rfl
            have c1 := hat.cell (i := 1) rfl
            have c2 := hat.cell (i := 2) rfl
            have c3 := hat.cell (i := 3) rfl
            have c4 := hat.cell (i := 4) rfl
            have c5 := hat.cell (i := 5) rfl
            have cf := hat.free
            have pd := C0.out.below HBD.out
            have p0 := pd 0 _ rfl
            have p1 := pd 1 _ rfl
            have p2 := pd 2 _ rfl
            have p3 := pd 3 _ rfl
            have nq : ¬ w.heap.size = w.heap.size + 1 := by omega
            have nq' : ¬ w.heap.size + 1 = w.heap.size := by omega
            clear pd
            obtain ⟨we, hwe⟩ : ∃ we, we = (((((wd.setCell ⟨w.heap.size + 1, 0, none⟩ (.int .u8 ((s.kd.toNat : Nat) : Int))).setCell ⟨w.heap.size + 1, 1, none⟩ (.int .i64 s.ix)).setCell ⟨w.heap.size + 1, 2, none⟩ (.int .i64 s.ce)).setCell ⟨w.heap.size + 1, 3, none⟩ (.int .i64 s.st)).setCell ⟨w.heap.size + 1, 4, none⟩ (.slice ao s.vn ca)).setCell ⟨w.heap.size + 1, 5, none⟩ (.slice bo s.dn cb2) := ⟨_, rfl⟩
            have HOE : Hid (Only (fun b => b = w.heap.size + 1) wd we) := by show Only _ _ _; rw [hwe]; exact only6 _ _ _ _ _ _ _ _
            have HAE : Hid (At w0 we (w.heap.size + 1) #[.int .u8 ((s.kd.toNat : Nat) : Int), .int .i64 s.ix, .int .i64 s.ce, .int .i64 s.st, .slice ao s.vn ca, .slice bo s.dn cb2] 83) := by show At _ _ _ _ _; rw [hwe]; exact ((((((hat.set 0 _).set 1 _).set 2 _).set 3 _).set 4 _).set 5 _)
            have hHas : Hid (∀ v, Only (fun b => b = w.heap.size + 1) wd v -> Got wc.heap.size v s ao ca bo cb2) := fun v hv => ⟨HGOT.out.vec.stay fun g hg hl => hv.block g hl (by have := HSZ.out; omega), HGOT.out.bec.stay fun g hg hl => hv.block g hl (by have := HSZ.out; omega)⟩
            clear hat
            go_wp2_with fail
            rw [<- hwe]
            clear hwe
            refine (HME _ s ao ca bo cb2 (hHas.out _ HOE.out).has _ hoi).mono ?_
            rintro e wf ⟨rfl, hf⟩
            have HAF : Hid (At w0 wf (w.heap.size + 1) #[.int .u8 ((s.kd.toNat : Nat) : Int), .int .i64 s.ix, .int .i64 s.ce, .int .i64 s.st, .slice ao s.vn ca, .slice bo s.dn cb2] 83) := HAE.out.below hf
            have HOF : Hid (Only (fun b => b = w.heap.size + 1) wd wf) := HOE.out.then hf
            clear c0 c1 c2 c3 c4 c5 cf p0 p1 p2 p3 hf
            have haf := HAF.out
            have c0 := haf.cell (i := 0) rfl
            have c1 := haf.cell (i := 1) rfl
            have c2 := haf.cell (i := 2) rfl
            have c3 := haf.cell (i := 3) rfl
            have c4 := haf.cell (i := 4) rfl
            have c5 := haf.cell (i := 5) rfl
            have cf := haf.free
            have HBF : Hid (Below w.heap.size w wf) := (below_then HB1.out HBD.out).trans (HOF.out.below (fun i hi => by omega) (Nat.le_trans HB1.out.size HBD.out.size))
            clear haf
            go_wp2_with fail)
          · obtain rfl : z = zSl := HSQ.out
            unfold slv zSl
            refine bodyPost_ret (v := .tuple #[.agg #[.int .u8 0, .int .i64 0, .int .i64 0, .int .i64 0, .slice none 0 0, .slice none 0 0], .bool false, .int .i64 0]) (by simp [results, Tryz.results36, go_sem, c0, c1, c2, c3, c4, c5]) rfl ?_
            exact ⟨none, 0, none, 0, rfl, got_z _ _, b_at (b_at (b_at (b_at (b_at (b_at HBF.out (Nat.le_succ _) _) (Nat.le_succ _) _) (Nat.le_succ _) _) (Nat.le_succ _) _) (Nat.le_succ _) _) (Nat.le_succ _) _⟩
          · obtain rfl : z = s := HSQ.out
            unfold slv
            refine bodyPost_ret (v := .tuple #[.agg #[.int .u8 ((z.kd.toNat : Nat) : Int), .int .i64 z.ix, .int .i64 z.ce, .int .i64 z.st, .slice ao z.vn ca, .slice bo z.dn cb2], .bool true, .int .i64 0]) (by simp [results, Tryz.results36, go_sem, c0, c1, c2, c3, c4, c5]) rfl ?_
            refine ⟨ao, ca, bo, cb2, rfl, (hHas.out _ ?_).mono (by have := HSZ.out; omega), b_at (b_at (b_at (b_at (b_at (b_at HBF.out (Nat.le_succ _) _) (Nat.le_succ _) _) (Nat.le_succ _) _) (Nat.le_succ _) _) (Nat.le_succ _) _) (Nat.le_succ _) _⟩
            exact HOF.out.trans (only6 _ _ _ _ _ _ _ _)
        · have HMK : ((sOf (lsF 2 F)).toList == [84, 50]) = false := by
            rw [sOf_list, show lsF 2 F = [F 0, F 1] from rfl]
            simp only [beq_eq_false_iff_ne, ne_eq]
            intro e
            simp at e
            exact hmk e
          obtain rfl : i = false := by rw [<- hii]; exact decide_eq_false fun h => hmk ⟨h.2.1, h.2.2.1⟩
          obtain rfl : z = zSl := hz.symm
          clear hi hii hz hm hm2 hmk
          unfold slv zSl
          go_enter Tryz.func36, Tryz.ntmps36
          go_wp2_with fail
          rw [<- hw0, <- hw1]
          refine (HZ _).mono ?_
          rintro e wa ⟨rfl, ha⟩
          have ba : Hid (Below w.heap.size w wa) := below_then HB1.out ha
          have HA : Hid (Below w1.heap.size w1 wa) := ha
          have ca := C1.out.below ha
          have c0 := ca 0 _ rfl
          have c1 := ca 1 _ rfl
          have c2 := ca 2 _ rfl
          have c3 := ca 3 _ rfl
          have c4 := ca 4 _ rfl
          have c5 := ca 5 _ rfl
          have cf := F1.out wa ha
          clear hw0 hw1 b0 b1 z0 z1 HZ ca ha
          have pa := C0.out.below HA.out
          have p0 := pa 0 _ rfl
          have p1 := pa 1 _ rfl
          have p2 := pa 2 _ rfl
          have p3 := pa 3 _ rfl
          clear pa
          go_wp2_with fail
          refine (HCU _).mono ?_
          rintro e wb ⟨rfl, hb⟩
          obtain ⟨wc, hwc⟩ : ∃ wc, wc = wb.alloc (.cells #[.slice (some ⟨g, o, none⟩) 2 2, .slice (some ⟨g, o + 2, none⟩) 1 1, .slice (some ⟨g, o + 3, none⟩) 1 1, .slice (some ⟨g, o + 4, none⟩) 4 4, .slice (some ⟨g, o + 8, none⟩) 4 4, .slice (some ⟨g, o + 12, none⟩) (4 * N) (4 * N), .slice (some ⟨g, o + 12 + 4 * N, none⟩) c.toNat c.toNat] 119) := ⟨_, rfl⟩
          have HBC : Hid (Below w1.heap.size w1 wc) := below_then (below_then HA.out hb) (by rw [hwc]; exact below_alloc _ _)
          have bc : Hid (Below w.heap.size w wc) := below_then HB1.out HBC.out
          have hcv : (convert 74 9 (.slice (some ⟨g, o, none⟩) 2 2)).run Tryz.prog wc = .ok (.string (sOf (lsF 2 F))) wc := conv_any ⟨fun _ => ⟨g, o, rfl, fun j hj => held (HR.out j (by omega)) bc.out⟩, (fun h => by cases h), Nat.le_refl _⟩
          clear c0 c1 c2 c3 c4 c5 cf p0 p1 p2 p3
          have hat := HAT.out wc HBC.out
          have c0 := hat.cell (i := 0) rfl
          have c1 := hat.cell (i := 1) rfl
          have c2 := hat.cell (i := 2) rfl
          have c3 := hat.cell (i := 3) rfl
          have c4 := hat.cell (i := 4) rfl
          have c5 := hat.cell (i := 5) rfl
          have cf := hat.free
          clear hat
          go_wp2_with fail
          rw [<- hwc, hcv]
          clear hwc hcv
          go_wp2_with fail
          refine bodyPost_ret (v := .tuple #[.agg #[.int .u8 0, .int .i64 0, .int .i64 0, .int .i64 0, .slice none 0 0, .slice none 0 0], .bool false, .int .i64 0]) (by simp [results, Tryz.results36, go_sem, c0, c1, c2, c3, c4, c5]) rfl ?_
          exact ⟨none, 0, none, 0, rfl, got_z _ _, b_at (b_at (b_at (b_at (b_at (b_at bc.out (Nat.le_succ _) _) (Nat.le_succ _) _) (Nat.le_succ _) _) (Nat.le_succ _) _) (Nat.le_succ _) _) (Nat.le_succ _) _⟩
      · obtain rfl : E = 100 := by rw [<- hE]; unfold erQ; rw [if_pos rfl, if_neg (by rw [<- hm]; omega)]
        obtain rfl : i = false := by rw [<- hii]; exact decide_eq_false fun h => hnm (by rw [hm]; exact h.1)
        obtain rfl : z = zSl := hz.symm
        clear hE hi hii hz hm hm2 hb h
        unfold slv zSl
        have hn1 : ((n : Int) == 0) = false := by simp only [beq_eq_false_iff_ne]; omega
        have hn2 : ((n : Int) != (m : Int)) = true := by simp only [bne_iff_ne]; omega
        go_enter Tryz.func36, Tryz.ntmps36
        go_wp2_with fail
        rw [<- hw0, <- hw1]
        refine (HZ _).mono ?_
        rintro e wa ⟨rfl, ha⟩
        have ba : Hid (Below w.heap.size w wa) := below_then HB1.out ha
        have HA : Hid (Below w1.heap.size w1 wa) := ha
        have ca := C1.out.below ha
        have c0 := ca 0 _ rfl
        have c1 := ca 1 _ rfl
        have c2 := ca 2 _ rfl
        have c3 := ca 3 _ rfl
        have c4 := ca 4 _ rfl
        have c5 := ca 5 _ rfl
        have cf := F1.out wa ha
        clear hw0 hw1 b0 b1 z0 z1 HZ ca ha
        go_wp2_with fail
        refine bodyPost_ret (v := .tuple #[.agg #[.int .u8 0, .int .i64 0, .int .i64 0, .int .i64 0, .slice none 0 0, .slice none 0 0], .bool false, .int .i64 100]) (by simp [results, Tryz.results36, go_sem, c0, c1, c2, c3, c4, c5]) rfl ?_
        exact ⟨none, 0, none, 0, rfl, got_z _ _, b_at (b_at (b_at (b_at (b_at (b_at ba.out (Nat.le_succ _) _) (Nat.le_succ _) _) (Nat.le_succ _) _) (Nat.le_succ _) _) (Nat.le_succ _) _) (Nat.le_succ _) _⟩
  · obtain rfl : E = 2 := by rw [<- hE]; unfold erQ; rw [if_neg (by decide)]
    obtain rfl : i = false := by rw [<- hi]; rfl
    obtain rfl : z = zSl := hz.symm
    clear hE hi hz hb h
    unfold slv zSl
    go_enter Tryz.func36, Tryz.ntmps36
    go_wp2_with fail
    rw [<- hw0, <- hw1]
    refine (HZ _).mono ?_
    rintro e wa ⟨rfl, ha⟩
    have ba : Hid (Below w.heap.size w wa) := below_then HB1.out ha
    have HA : Hid (Below w1.heap.size w1 wa) := ha
    have ca := C1.out.below ha
    have c0 := ca 0 _ rfl
    have c1 := ca 1 _ rfl
    have c2 := ca 2 _ rfl
    have c3 := ca 3 _ rfl
    have c4 := ca 4 _ rfl
    have c5 := ca 5 _ rfl
    have cf := F1.out wa ha
    clear hw0 hw1 b0 b1 z0 z1 HZ ca ha
    go_wp2_with fail
    refine bodyPost_ret (v := .tuple #[.agg #[.int .u8 0, .int .i64 0, .int .i64 0, .int .i64 0, .slice none 0 0, .slice none 0 0], .bool false, .int .i64 2]) (by simp [results, Tryz.results36, go_sem, c0, c1, c2, c3, c4, c5]) rfl ?_
    exact ⟨none, 0, none, 0, rfl, got_z _ _, b_at (b_at (b_at (b_at (b_at (b_at ba.out (Nat.le_succ _) _) (Nat.le_succ _) _) (Nat.le_succ _) _) (Nat.le_succ _) _) (Nat.le_succ _) _) (Nat.le_succ _) _⟩
end Go.Proofs.YtngcdlodcdgcaaaGreat
