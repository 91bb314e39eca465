/- CellKept's walk. -/
import Derived.Test.YtmdeadakbohpeaaCeH
namespace Go.Proofs.Ytmdeadakbohpeaa
open Go.RowKit

/-- What a slot's own bytes hold. -/
theorem he_enc {N : Nat} {c : Int} {s : Sl} (hN : N ≤ 16) (h : okS N c s = true) {F : Nat → UInt8} (hF : ∀ j, j < sz N c → F j = enc s j) : (he 0 N c s.ix (sz N c) F).ce = s.ce ∧ (he 0 N c s.ix (sz N c) F).kd = s.kd := by
  obtain ⟨h1, h2, h3, _⟩ := sameS_true (dec_enc hN h hF)
  have hi := is_enc hN h rfl hF
  unfold he ofI slQ
  rw [if_pos rfl, hi, if_pos rfl, if_pos h2]
  exact ⟨h3, h1⟩
theorem erQ_sz (N : Nat) (c : Int) : erQ 0 N c (sz N c) = 0 := by unfold erQ; rw [if_pos rfl, if_pos (.inr rfl)]
theorem erC_ok {N : Nat} {c : Int} {n m : Nat} {kv ix : Int} (h0 : erQ 0 N c n = 0) (h1 : erQ 0 N c m = 0) (h2 : (kv = 1 ∨ kv = 2) ∧ 0 ≤ ix ∧ ix < (N : Int)) : erC 0 N c n m kv ix = 0 := by
  have hT : erT 0 N c n m = 0 := by unfold erT; rw [if_pos h0]; exact h1
  unfold erC; rw [if_pos hT, if_pos h2]
theorem oN_two (y0 y1 : Sl) (kd : UInt8) (v : Int) : oN y0 y1 kd v = 0 ∨ oN y0 y1 kd v = 1 := by
  unfold oN
  split
  · exact .inr rfl
  · split
    · exact .inl rfl
    · split
      · exact .inr rfl
      · exact .inl rfl
/-- What is found where the new one was put, by its number. -/
theorem put_found {y0 y1 ys : Sl} {kd : UInt8} {v : Int} (hv : v ≠ 0) (h1 : ys.kd = kd) (h2 : ys.ce = v) (hy : y0 = ys ∨ y1 = ys) : fB y0 y1 kd v = true ∧ (fZ y0 y1 kd v).ce = v := by
  have hs : hB ys kd v = true := decide_eq_true ⟨hv, h1, h2⟩
  unfold fB fZ
  cases e : hB y0 kd v
  · have : y1 = ys := by
      rcases hy with h | h
      · rw [h, hs] at e; cases e
      · exact h
    subst this
    rw [hs]
    exact ⟨rfl, by simp only [Bool.false_eq_true, if_false, if_true]; exact h2⟩
  · refine ⟨rfl, ?_⟩
    simp only [if_true]
    exact (of_decide_eq_true e).2.2
/-- What is kept stays: in the slot 1. -/
theorem kept_lo {y0 y1 ys : Sl} {kd : UInt8} {v : Int} (h : hB y0 kd v = true) : oN y0 y1 kd v = 1 ∧ fB y0 y1 kd v = true ∧ fZ y0 y1 kd v = y0 ∧ fB y0 ys kd v = true ∧ fZ y0 ys kd v = y0 := by
  unfold oN fB fZ; rw [h]; exact ⟨rfl, rfl, rfl, rfl, rfl⟩
theorem kept_hi {y0 y1 ys : Sl} {kd : UInt8} {v : Int} (h0 : hB y0 kd v = false) (h : hB y1 kd v = true) (hs : hB ys kd v = false) : oN y0 y1 kd v = 0 ∧ fB y0 y1 kd v = true ∧ fZ y0 y1 kd v = y1 ∧ fB ys y1 kd v = true ∧ fZ ys y1 kd v = y1 := by
  unfold oN fB fZ; rw [h0, h, hs]; exact ⟨rfl, rfl, rfl, rfl, rfl⟩
theorem hB_ce {y : Sl} {kd : UInt8} {v : Int} (h : hB y kd v = true) : y.ce = v := (of_decide_eq_true h).2.2

set_option maxHeartbeats 32000000 in
set_option maxRecDepth 100000 in
theorem CKept_any (k r c q : Int) (w : World) (a0 : Option Addr) (n0 c0 : Nat) (F0 : Nat → UInt8) (a1 : Option Addr) (n1 c1 : Nat) (F1 : Nat → UInt8) (h0 : Bec w a0 n0 c0 F0) (h1 : Bec w a1 n1 c1 F1) (kp : Int) (s : Sl) (ao : Option Addr) (ca : Nat) (bo : Option Addr) (cb : Nat) (hs : Has w s ao ca bo cb) :
    Calls Try.prog 4 #[.agg #[.int .i64 k, .int .i64 r, .int .i64 c, .int .i64 q], .agg #[.slice a0 n0 c0, .slice a1 n1 c1], .int .i64 kp, slv s ao ca bo cb] w fun e w' => e = .returned (.bool true) ∧ Below w.heap.size w w' := by
  unfold slv
  obtain ⟨w0, hw0⟩ : ∃ w0, w0 = w.alloc (.cells #[.int .i64 k, .int .i64 r, .int .i64 c, .int .i64 q] 23) := ⟨_, rfl⟩
  have bw0 : Below w.heap.size w w0 := by rw [hw0]; exact below_alloc _ _
  have zw0 : w0.heap.size = w.heap.size + 1 := by rw [hw0]; simp
  obtain ⟨w1, hw1⟩ : ∃ w1, w1 = w0.alloc (.cells #[.slice a0 n0 c0, .slice a1 n1 c1] 26) := ⟨_, rfl⟩
  have bw1 : Below w0.heap.size w0 w1 := by rw [hw1]; exact below_alloc _ _
  have zw1 : w1.heap.size = w.heap.size + 1 + 1 := by rw [hw1]; simp [zw0]
  obtain ⟨w2, hw2⟩ : ∃ w2, w2 = w1.alloc (.cells #[.int .u8 ((s.kd.toNat : Nat) : Int), .int .i64 s.ix, .int .i64 s.ce, .int .i64 s.st, .slice ao s.vn ca, .slice bo s.dn cb] 31) := ⟨_, rfl⟩
  have bw2 : Below w1.heap.size w1 w2 := by rw [hw2]; exact below_alloc _ _
  have zw2 : w2.heap.size = w.heap.size + 1 + 1 + 1 := by rw [hw2]; simp [zw1]
  have Bw : Hid (Below w.heap.size w w2) := (below_then (below_then bw0 bw1) bw2)
  have Lw0 : Hid (∀ v, Below w2.heap.size w2 v → At w v (w.heap.size) #[.int .i64 k, .int .i64 r, .int .i64 c, .int .i64 q] 23) := fun v hv => by exact (at_made (Below.refl _ _) hw0).below (below_then (below_then bw1 bw2) hv)
  have Lw1 : Hid (∀ v, Below w2.heap.size w2 v → At w v (w.heap.size + 1) #[.slice a0 n0 c0, .slice a1 n1 c1] 26) := fun v hv => by rw [← zw0]; exact (at_made bw0 hw1).below (below_then bw2 hv)
  have Lw2 : Hid (∀ v, Below w2.heap.size w2 v → At w v (w.heap.size + 1 + 1) #[.int .u8 ((s.kd.toNat : Nat) : Int), .int .i64 s.ix, .int .i64 s.ce, .int .i64 s.st, .slice ao s.vn ca, .slice bo s.dn cb] 31) := fun v hv => by rw [← zw1]; exact (at_made (below_then bw0 bw1) hw2).below (below_then (Below.refl _ _) hv)
  obtain ⟨N, W, x, h⟩ := par_any k r c q
  obtain ⟨E, hE⟩ : ∃ E, erS x N c s = E := ⟨_, rfl⟩
  obtain ⟨G, hG⟩ : ∃ G, erO (erC x N c n0 n1 ((s.kd.toNat : Nat) : Int) s.ix) kp = G := ⟨_, rfl⟩
  obtain ⟨y0, hy0⟩ : ∃ y0, he G N c s.ix n0 F0 = y0 := ⟨_, rfl⟩
  obtain ⟨y1, hy1⟩ : ∃ y1, he G N c s.ix n1 F1 = y1 := ⟨_, rfl⟩
  have HBY : Hid (∀ v, Below w.heap.size w v → Calls Try.prog 16 #[.agg #[.int .i64 k, .int .i64 r, .int .i64 c, .int .i64 q], .agg #[.int .u8 ((s.kd.toNat : Nat) : Int), .int .i64 s.ix, .int .i64 s.ce, .int .i64 s.st, .slice ao s.vn ca, .slice bo s.dn cb]] v (AnsB v E (sz N c) (enc s))) := fun v hv => Bytes_any h v s ao ca bo cb (hs.below hv) E hE
  have HOL : Hid (∀ v, Below w.heap.size w v → Calls Try.prog 13 #[.agg #[.int .i64 k, .int .i64 r, .int .i64 c, .int .i64 q], .agg #[.slice a0 n0 c0, .slice a1 n1 c1], .int .u8 ((s.kd.toNat : Nat) : Int), .int .i64 s.ix, .int .i64 kp] v fun e w' => e = .returned (.tuple #[.int .i64 ((oN y0 y1 s.kd kp : Nat) : Int), .int .i64 G]) ∧ Below v.heap.size v w') := fun v hv => Older_any h v a0 n0 c0 F0 a1 n1 c1 F1 (h0.below hv) (h1.below hv) s.kd s.ix kp G hG y0 y1 hy0 hy1
  unfold AnsB at HBY
  by_cases eE : E = 0
  · subst eE
    by_cases eG : G = 0
    · subst eG
      have hC : erC x N c n0 n1 ((s.kd.toNat : Nat) : Int) s.ix = 0 := by
        by_cases e : erC x N c n0 n1 ((s.kd.toNat : Nat) : Int) s.ix = 0
        · exact e
        · unfold erO at hG; rw [if_neg e] at hG; exact hG
      have hx : x = 0 := erQ_zero (erT_zero (erC_zero hC).1).1
      have hT := (erT_zero (erC_zero hC).1)
      subst hx
      have hN := h.few
      have hok : okS N c s = true := by
        by_cases e : okS N c s = true
        · exact e
        · unfold erS at hE; rw [if_pos rfl, if_neg e] at hE; cases hE
      have hce := (okS_nums hok).1
      have hkp : 0 ≤ kp ∧ kp ≤ 1073741824 := by
        by_cases e : 0 ≤ kp ∧ kp ≤ 1073741824
        · exact e
        · unfold erO at hG; rw [hC, if_pos rfl, if_neg e] at hG; cases hG
      obtain ⟨n, hn⟩ : ∃ n, n = sz N c := ⟨_, rfl⟩
      have hn2 : lenE 0 (sz N c) = n := by rw [hn]; rfl
      rw [hn2] at HBY
      obtain ⟨ys, hys⟩ : ∃ ys, he 0 N c s.ix n (enc s) = ys := ⟨_, rfl⟩
      have hen := he_enc hN hok (F := enc s) (fun _ _ => rfl)
      rw [← hn, hys] at hen
      have hqs : erQ 0 N c n = 0 := by rw [hn]; exact erQ_sz N c
      have hki := (erC_zero hC).2
      by_cases hk0 : kp = 0
      · have hkb : (kp == 0) = true := by simpa using hk0
        clear hk0
        rcases oN_two y0 y1 s.kd kp with hoN | hoN
        · skip
          have HF1 : Hid (∀ v (b0 : Option Addr) (d0 : Nat) (b1 : Option Addr) (d1 : Nat), Bec v b0 n d0 (enc s) → Bec v b1 n1 d1 F1 → Calls Try.prog 8 #[.agg #[.int .i64 k, .int .i64 r, .int .i64 c, .int .i64 q], .agg #[.slice b0 n d0, .slice b1 n1 d1], .int .u8 ((s.kd.toNat : Nat) : Int), .int .i64 s.ix, .int .i64 s.ce] v (AnsF v 0 (fN ys y1 s.kd s.ce) (fZ ys y1 s.kd s.ce) (fB ys y1 s.kd s.ce))) := fun v b0 d0 b1 d1 k0 k1 => Find_any h v b0 n d0 (enc s) b1 n1 d1 F1 k0 k1 s.kd s.ix s.ce 0 (by unfold erF; rw [erC_ok hqs hT.2 hki, if_pos rfl, if_pos ⟨by omega, by omega⟩]) ys y1 hys hy1
          have hpf := put_found (y0 := ys) (y1 := y1) (by omega : s.ce ≠ 0) hen.2 hen.1 (.inl rfl)
          obtain ⟨f1, hf1⟩ : ∃ f1, f1 = fN ys y1 s.kd s.ce := ⟨_, rfl⟩
          obtain ⟨t1, ht1⟩ : ∃ t1, t1 = fZ ys y1 s.kd s.ce := ⟨_, rfl⟩
          rw [← hf1, ← ht1, hpf.1] at HF1
          have hv1 : (t1.ce != s.ce) = false := by rw [ht1, hpf.2]; simp
          rw [hoN] at HOL
          clear hf1 ht1 hpf hoN
          unfold AnsF slv at HF1
          have HH0 : Hid (Bec w a0 n0 c0 F0) := h0
          have HH1 : Hid (Bec w a1 n1 c1 F1) := h1
          clear h0 h1 hs hce hok hkp hy0 hy1 hys hen hqs hki hT hN h hC hE hG hn hn2
          go_enter Try.func4, Try.ntmps4
          go_wp2_with fail
          rw [← hw0, ← hw1, ← hw2]
          clear hw0 bw0 zw0 hw1 bw1 zw1 hw2 bw2 zw2
          refine (awake_any _).mono ?_
          rintro e wa ⟨rfl, ha⟩
          have HA : Hid (Below w2.heap.size w2 wa) := ha
          clear ha
          have q0 := Lw0.out wa HA.out
          have q2 := Lw2.out wa HA.out
          have p0 := q0.cell (i := 0) rfl
          have p1 := q0.cell (i := 1) rfl
          have p2 := q0.cell (i := 2) rfl
          have p3 := q0.cell (i := 3) rfl
          have s0 := q2.cell (i := 0) rfl
          have s1 := q2.cell (i := 1) rfl
          have s2 := q2.cell (i := 2) rfl
          have s3 := q2.cell (i := 3) rfl
          have s4 := q2.cell (i := 4) rfl
          have s5 := q2.cell (i := 5) rfl
          clear q0 q2
          go_wp2_with fail
          refine (HBY.out _ (below_then Bw.out HA.out)).mono ?_
          rintro e wb ⟨uo, uc, rfl, hu, hb⟩
          have HU : Hid (OwU wa.heap.size wb uo n uc (enc s)) := hu
          have HB : Hid (Below w2.heap.size w2 wb) := below_then HA.out hb
          clear hb hu HA HBY p0 p1 p2 p3 s0 s1 s2 s3 s4 s5
          have q0 := Lw0.out wb HB.out
          have q1 := Lw1.out wb HB.out
          have q2 := Lw2.out wb HB.out
          have p0 := q0.cell (i := 0) rfl
          have p1 := q0.cell (i := 1) rfl
          have p2 := q0.cell (i := 2) rfl
          have p3 := q0.cell (i := 3) rfl
          have r0 := q1.cell (i := 0) rfl
          have r1 := q1.cell (i := 1) rfl
          have s0 := q2.cell (i := 0) rfl
          have s1 := q2.cell (i := 1) rfl
          have s2 := q2.cell (i := 2) rfl
          have s3 := q2.cell (i := 3) rfl
          have s4 := q2.cell (i := 4) rfl
          have s5 := q2.cell (i := 5) rfl
          clear q0 q1 q2
          go_wp2_with fail
          refine (HOL.out _ (below_then Bw.out HB.out)).mono ?_
          rintro e wc ⟨rfl, hc⟩
          have HC : Hid (Below w2.heap.size w2 wc) := below_then HB.out hc
          have HUC : Hid (OwU wa.heap.size wc uo n uc (enc s)) := HU.out.below hc
          clear hc HB HOL HU p0 p1 p2 p3 r0 r1 s0 s1 s2 s3 s4 s5
          have q1 := Lw1.out wc HC.out
          have r0 := q1.cell (i := 0) rfl
          have r1 := q1.cell (i := 1) rfl
          clear q1
          go_wp2_with fail
          refine (twin_any _ a0 n0 c0 F0 a1 n1 c1 F1 (HH0.out.below (below_then Bw.out HC.out)) (HH1.out.below (below_then Bw.out HC.out))).mono ?_
          rintro e wd ⟨b0, d0, b1, d1, rfl, k0, k1, hd⟩
          have HK0 : Hid (Bec wd b0 n0 d0 F0) := k0
          have HK1 : Hid (Bec wd b1 n1 d1 F1) := k1
          have HUD : Hid (Bec wd uo n uc (enc s)) := (HUC.out.below hd).bec
          have HD : Hid (Below w2.heap.size w2 wd) := below_then HC.out hd
          clear hd k0 k1 HC HUC r0 r1
          obtain ⟨we, hwe⟩ : ∃ we, we = wd.alloc (.cells #[.slice uo n uc, .slice b1 n1 d1] 26) := ⟨_, rfl⟩
          have HE : Hid (Below w2.heap.size w2 we) := by show Below _ _ _; rw [hwe]; exact b_alloc HD.out _
          have HNW : Hid (At w2 we wd.heap.size #[.slice uo n uc, .slice b1 n1 d1] 26) := at_made HD.out hwe
          have hde : Below wd.heap.size wd we := by rw [hwe]; exact below_alloc _ _
          have HM0 : Hid (Bec we uo n uc (enc s)) := HUD.out.below hde
          have HM1 : Hid (Bec we b1 n1 d1 F1) := HK1.out.below hde
          have q0 := Lw0.out wd HD.out
          have q2 := Lw2.out wd HD.out
          have p0 := fun o => (q0.alloc o).cell (i := 0) rfl
          have p1 := fun o => (q0.alloc o).cell (i := 1) rfl
          have p2 := fun o => (q0.alloc o).cell (i := 2) rfl
          have p3 := fun o => (q0.alloc o).cell (i := 3) rfl
          have s0 := fun o => (q2.alloc o).cell (i := 0) rfl
          have s1 := fun o => (q2.alloc o).cell (i := 1) rfl
          have s2 := fun o => (q2.alloc o).cell (i := 2) rfl
          have s3 := fun o => (q2.alloc o).cell (i := 3) rfl
          have s4 := fun o => (q2.alloc o).cell (i := 4) rfl
          have s5 := fun o => (q2.alloc o).cell (i := 5) rfl
          clear q0 q2 hde
          go_wp2_with fail
          rw [← hwe]
          clear hwe HK0 HK1 HUD HD p0 p1 p2 p3 s0 s1 s2 s3 s4 s5
          refine (HF1.out _ uo uc b1 d1 HM0.out HM1.out).mono ?_
          rintro e wf ⟨o1, e1, o2, e2, rfl, _, hf⟩
          have HEF : Hid (Below we.heap.size we wf) := hf
          have HF : Hid (Below w2.heap.size w2 wf) := below_then HE.out hf
          clear hf HF1
          have q2 := Lw2.out wf HF.out
          have s0 := fun o => (q2.alloc o).cell (i := 0) rfl
          have s1 := fun o => (q2.alloc o).cell (i := 1) rfl
          have s2 := fun o => (q2.alloc o).cell (i := 2) rfl
          have s3 := fun o => (q2.alloc o).cell (i := 3) rfl
          have s4 := fun o => (q2.alloc o).cell (i := 4) rfl
          have s5 := fun o => (q2.alloc o).cell (i := 5) rfl
          clear q2
          go_wp2_with fail
          go_ret
          exact ⟨rfl, below_then Bw.out (b_alloc HF.out _)⟩
        · skip
          have HF1 : Hid (∀ v (b0 : Option Addr) (d0 : Nat) (b1 : Option Addr) (d1 : Nat), Bec v b0 n0 d0 F0 → Bec v b1 n d1 (enc s) → Calls Try.prog 8 #[.agg #[.int .i64 k, .int .i64 r, .int .i64 c, .int .i64 q], .agg #[.slice b0 n0 d0, .slice b1 n d1], .int .u8 ((s.kd.toNat : Nat) : Int), .int .i64 s.ix, .int .i64 s.ce] v (AnsF v 0 (fN y0 ys s.kd s.ce) (fZ y0 ys s.kd s.ce) (fB y0 ys s.kd s.ce))) := fun v b0 d0 b1 d1 k0 k1 => Find_any h v b0 n0 d0 F0 b1 n d1 (enc s) k0 k1 s.kd s.ix s.ce 0 (by unfold erF; rw [erC_ok hT.1 hqs hki, if_pos rfl, if_pos ⟨by omega, by omega⟩]) y0 ys hy0 hys
          have hpf := put_found (y0 := y0) (y1 := ys) (by omega : s.ce ≠ 0) hen.2 hen.1 (.inr rfl)
          obtain ⟨f1, hf1⟩ : ∃ f1, f1 = fN y0 ys s.kd s.ce := ⟨_, rfl⟩
          obtain ⟨t1, ht1⟩ : ∃ t1, t1 = fZ y0 ys s.kd s.ce := ⟨_, rfl⟩
          rw [← hf1, ← ht1, hpf.1] at HF1
          have hv1 : (t1.ce != s.ce) = false := by rw [ht1, hpf.2]; simp
          rw [hoN] at HOL
          clear hf1 ht1 hpf hoN
          unfold AnsF slv at HF1
          have HH0 : Hid (Bec w a0 n0 c0 F0) := h0
          have HH1 : Hid (Bec w a1 n1 c1 F1) := h1
          clear h0 h1 hs hce hok hkp hy0 hy1 hys hen hqs hki hT hN h hC hE hG hn hn2
          go_enter Try.func4, Try.ntmps4
          go_wp2_with fail
          rw [← hw0, ← hw1, ← hw2]
          clear hw0 bw0 zw0 hw1 bw1 zw1 hw2 bw2 zw2
          refine (awake_any _).mono ?_
          rintro e wa ⟨rfl, ha⟩
          have HA : Hid (Below w2.heap.size w2 wa) := ha
          clear ha
          have q0 := Lw0.out wa HA.out
          have q2 := Lw2.out wa HA.out
          have p0 := q0.cell (i := 0) rfl
          have p1 := q0.cell (i := 1) rfl
          have p2 := q0.cell (i := 2) rfl
          have p3 := q0.cell (i := 3) rfl
          have s0 := q2.cell (i := 0) rfl
          have s1 := q2.cell (i := 1) rfl
          have s2 := q2.cell (i := 2) rfl
          have s3 := q2.cell (i := 3) rfl
          have s4 := q2.cell (i := 4) rfl
          have s5 := q2.cell (i := 5) rfl
          clear q0 q2
          go_wp2_with fail
          refine (HBY.out _ (below_then Bw.out HA.out)).mono ?_
          rintro e wb ⟨uo, uc, rfl, hu, hb⟩
          have HU : Hid (OwU wa.heap.size wb uo n uc (enc s)) := hu
          have HB : Hid (Below w2.heap.size w2 wb) := below_then HA.out hb
          clear hb hu HA HBY p0 p1 p2 p3 s0 s1 s2 s3 s4 s5
          have q0 := Lw0.out wb HB.out
          have q1 := Lw1.out wb HB.out
          have q2 := Lw2.out wb HB.out
          have p0 := q0.cell (i := 0) rfl
          have p1 := q0.cell (i := 1) rfl
          have p2 := q0.cell (i := 2) rfl
          have p3 := q0.cell (i := 3) rfl
          have r0 := q1.cell (i := 0) rfl
          have r1 := q1.cell (i := 1) rfl
          have s0 := q2.cell (i := 0) rfl
          have s1 := q2.cell (i := 1) rfl
          have s2 := q2.cell (i := 2) rfl
          have s3 := q2.cell (i := 3) rfl
          have s4 := q2.cell (i := 4) rfl
          have s5 := q2.cell (i := 5) rfl
          clear q0 q1 q2
          go_wp2_with fail
          refine (HOL.out _ (below_then Bw.out HB.out)).mono ?_
          rintro e wc ⟨rfl, hc⟩
          have HC : Hid (Below w2.heap.size w2 wc) := below_then HB.out hc
          have HUC : Hid (OwU wa.heap.size wc uo n uc (enc s)) := HU.out.below hc
          clear hc HB HOL HU p0 p1 p2 p3 r0 r1 s0 s1 s2 s3 s4 s5
          have q1 := Lw1.out wc HC.out
          have r0 := q1.cell (i := 0) rfl
          have r1 := q1.cell (i := 1) rfl
          clear q1
          go_wp2_with fail
          refine (twin_any _ a0 n0 c0 F0 a1 n1 c1 F1 (HH0.out.below (below_then Bw.out HC.out)) (HH1.out.below (below_then Bw.out HC.out))).mono ?_
          rintro e wd ⟨b0, d0, b1, d1, rfl, k0, k1, hd⟩
          have HK0 : Hid (Bec wd b0 n0 d0 F0) := k0
          have HK1 : Hid (Bec wd b1 n1 d1 F1) := k1
          have HUD : Hid (Bec wd uo n uc (enc s)) := (HUC.out.below hd).bec
          have HD : Hid (Below w2.heap.size w2 wd) := below_then HC.out hd
          clear hd k0 k1 HC HUC r0 r1
          obtain ⟨we, hwe⟩ : ∃ we, we = wd.alloc (.cells #[.slice b0 n0 d0, .slice uo n uc] 26) := ⟨_, rfl⟩
          have HE : Hid (Below w2.heap.size w2 we) := by show Below _ _ _; rw [hwe]; exact b_alloc HD.out _
          have HNW : Hid (At w2 we wd.heap.size #[.slice b0 n0 d0, .slice uo n uc] 26) := at_made HD.out hwe
          have hde : Below wd.heap.size wd we := by rw [hwe]; exact below_alloc _ _
          have HM0 : Hid (Bec we b0 n0 d0 F0) := HK0.out.below hde
          have HM1 : Hid (Bec we uo n uc (enc s)) := HUD.out.below hde
          have q0 := Lw0.out wd HD.out
          have q2 := Lw2.out wd HD.out
          have p0 := fun o => (q0.alloc o).cell (i := 0) rfl
          have p1 := fun o => (q0.alloc o).cell (i := 1) rfl
          have p2 := fun o => (q0.alloc o).cell (i := 2) rfl
          have p3 := fun o => (q0.alloc o).cell (i := 3) rfl
          have s0 := fun o => (q2.alloc o).cell (i := 0) rfl
          have s1 := fun o => (q2.alloc o).cell (i := 1) rfl
          have s2 := fun o => (q2.alloc o).cell (i := 2) rfl
          have s3 := fun o => (q2.alloc o).cell (i := 3) rfl
          have s4 := fun o => (q2.alloc o).cell (i := 4) rfl
          have s5 := fun o => (q2.alloc o).cell (i := 5) rfl
          clear q0 q2 hde
          go_wp2_with fail
          rw [← hwe]
          clear hwe HK0 HK1 HUD HD p0 p1 p2 p3 s0 s1 s2 s3 s4 s5
          refine (HF1.out _ b0 d0 uo uc HM0.out HM1.out).mono ?_
          rintro e wf ⟨o1, e1, o2, e2, rfl, _, hf⟩
          have HEF : Hid (Below we.heap.size we wf) := hf
          have HF : Hid (Below w2.heap.size w2 wf) := below_then HE.out hf
          clear hf HF1
          have q2 := Lw2.out wf HF.out
          have s0 := fun o => (q2.alloc o).cell (i := 0) rfl
          have s1 := fun o => (q2.alloc o).cell (i := 1) rfl
          have s2 := fun o => (q2.alloc o).cell (i := 2) rfl
          have s3 := fun o => (q2.alloc o).cell (i := 3) rfl
          have s4 := fun o => (q2.alloc o).cell (i := 4) rfl
          have s5 := fun o => (q2.alloc o).cell (i := 5) rfl
          clear q2
          go_wp2_with fail
          go_ret
          exact ⟨rfl, below_then Bw.out (b_alloc HF.out _)⟩
      · have hkb : (kp == 0) = false := by simpa using hk0
        cases s0 : hB y0 s.kd kp
        · cases s1 : hB y1 s.kd kp
          · have hwas : fB y0 y1 s.kd kp = false := by unfold fB; rw [s0, s1]; rfl
            clear s0 s1
            rcases oN_two y0 y1 s.kd kp with hoN | hoN
            · skip
              have HF1 : Hid (∀ v (b0 : Option Addr) (d0 : Nat) (b1 : Option Addr) (d1 : Nat), Bec v b0 n d0 (enc s) → Bec v b1 n1 d1 F1 → Calls Try.prog 8 #[.agg #[.int .i64 k, .int .i64 r, .int .i64 c, .int .i64 q], .agg #[.slice b0 n d0, .slice b1 n1 d1], .int .u8 ((s.kd.toNat : Nat) : Int), .int .i64 s.ix, .int .i64 s.ce] v (AnsF v 0 (fN ys y1 s.kd s.ce) (fZ ys y1 s.kd s.ce) (fB ys y1 s.kd s.ce))) := fun v b0 d0 b1 d1 k0 k1 => Find_any h v b0 n d0 (enc s) b1 n1 d1 F1 k0 k1 s.kd s.ix s.ce 0 (by unfold erF; rw [erC_ok hqs hT.2 hki, if_pos rfl, if_pos ⟨by omega, by omega⟩]) ys y1 hys hy1
              have hpf := put_found (y0 := ys) (y1 := y1) (by omega : s.ce ≠ 0) hen.2 hen.1 (.inl rfl)
              have HF2 : Hid (∀ v (b0 : Option Addr) (d0 : Nat) (b1 : Option Addr) (d1 : Nat), Bec v b0 n0 d0 F0 → Bec v b1 n1 d1 F1 → Calls Try.prog 8 #[.agg #[.int .i64 k, .int .i64 r, .int .i64 c, .int .i64 q], .agg #[.slice b0 n0 d0, .slice b1 n1 d1], .int .u8 ((s.kd.toNat : Nat) : Int), .int .i64 s.ix, .int .i64 kp] v (AnsF v 0 (fN y0 y1 s.kd kp) (fZ y0 y1 s.kd kp) (fB y0 y1 s.kd kp))) := fun v b0 d0 b1 d1 k0 k1 => Find_any h v b0 n0 d0 F0 b1 n1 d1 F1 k0 k1 s.kd s.ix kp 0 (by unfold erF; rw [erC_ok hT.1 hT.2 hki, if_pos rfl, if_pos ⟨by omega, by omega⟩]) y0 y1 hy0 hy1
              have HF3 : Hid (∀ v (b0 : Option Addr) (d0 : Nat) (b1 : Option Addr) (d1 : Nat), Bec v b0 n d0 (enc s) → Bec v b1 n1 d1 F1 → Calls Try.prog 8 #[.agg #[.int .i64 k, .int .i64 r, .int .i64 c, .int .i64 q], .agg #[.slice b0 n d0, .slice b1 n1 d1], .int .u8 ((s.kd.toNat : Nat) : Int), .int .i64 s.ix, .int .i64 kp] v (AnsF v 0 (fN ys y1 s.kd kp) (fZ ys y1 s.kd kp) (fB ys y1 s.kd kp))) := fun v b0 d0 b1 d1 k0 k1 => Find_any h v b0 n d0 (enc s) b1 n1 d1 F1 k0 k1 s.kd s.ix kp 0 (by unfold erF; rw [erC_ok hqs hT.2 hki, if_pos rfl, if_pos ⟨by omega, by omega⟩]) ys y1 hys hy1
              obtain ⟨f1, hf1⟩ : ∃ f1, f1 = fN ys y1 s.kd s.ce := ⟨_, rfl⟩
              obtain ⟨t1, ht1⟩ : ∃ t1, t1 = fZ ys y1 s.kd s.ce := ⟨_, rfl⟩
              rw [← hf1, ← ht1, hpf.1] at HF1
              have hv1 : (t1.ce != s.ce) = false := by rw [ht1, hpf.2]; simp
              rw [hoN] at HOL
              clear hf1 ht1 hpf hoN
              unfold AnsF slv at HF1
              obtain ⟨f2, hf2⟩ : ∃ f2, f2 = fN y0 y1 s.kd kp := ⟨_, rfl⟩
              obtain ⟨t2, ht2⟩ : ∃ t2, t2 = fZ y0 y1 s.kd kp := ⟨_, rfl⟩
              rw [← hf2, ← ht2, hwas] at HF2
              obtain ⟨f3, hf3⟩ : ∃ f3, f3 = fN ys y1 s.kd kp := ⟨_, rfl⟩
              obtain ⟨t3, ht3⟩ : ∃ t3, t3 = fZ ys y1 s.kd kp := ⟨_, rfl⟩
              unfold AnsF slv at HF2
              obtain ⟨b3, hb3⟩ : ∃ b3, b3 = fB ys y1 s.kd kp := ⟨_, rfl⟩
              rw [← hf3, ← ht3, ← hb3] at HF3
              clear hb3
              unfold AnsF slv at HF3
              clear hf2 ht2 hf3 ht3 hwas
              have HH0 : Hid (Bec w a0 n0 c0 F0) := h0
              have HH1 : Hid (Bec w a1 n1 c1 F1) := h1
              clear h0 h1 hs hce hok hkp hy0 hy1 hys hen hqs hki hT hN h hC hE hG hn hn2
              go_enter Try.func4, Try.ntmps4
              go_wp2_with fail
              rw [← hw0, ← hw1, ← hw2]
              clear hw0 bw0 zw0 hw1 bw1 zw1 hw2 bw2 zw2
              refine (awake_any _).mono ?_
              rintro e wa ⟨rfl, ha⟩
              have HA : Hid (Below w2.heap.size w2 wa) := ha
              clear ha
              have q0 := Lw0.out wa HA.out
              have q2 := Lw2.out wa HA.out
              have p0 := q0.cell (i := 0) rfl
              have p1 := q0.cell (i := 1) rfl
              have p2 := q0.cell (i := 2) rfl
              have p3 := q0.cell (i := 3) rfl
              have s0 := q2.cell (i := 0) rfl
              have s1 := q2.cell (i := 1) rfl
              have s2 := q2.cell (i := 2) rfl
              have s3 := q2.cell (i := 3) rfl
              have s4 := q2.cell (i := 4) rfl
              have s5 := q2.cell (i := 5) rfl
              clear q0 q2
              go_wp2_with fail
              refine (HBY.out _ (below_then Bw.out HA.out)).mono ?_
              rintro e wb ⟨uo, uc, rfl, hu, hb⟩
              have HU : Hid (OwU wa.heap.size wb uo n uc (enc s)) := hu
              have HB : Hid (Below w2.heap.size w2 wb) := below_then HA.out hb
              clear hb hu HA HBY p0 p1 p2 p3 s0 s1 s2 s3 s4 s5
              have q0 := Lw0.out wb HB.out
              have q1 := Lw1.out wb HB.out
              have q2 := Lw2.out wb HB.out
              have p0 := q0.cell (i := 0) rfl
              have p1 := q0.cell (i := 1) rfl
              have p2 := q0.cell (i := 2) rfl
              have p3 := q0.cell (i := 3) rfl
              have r0 := q1.cell (i := 0) rfl
              have r1 := q1.cell (i := 1) rfl
              have s0 := q2.cell (i := 0) rfl
              have s1 := q2.cell (i := 1) rfl
              have s2 := q2.cell (i := 2) rfl
              have s3 := q2.cell (i := 3) rfl
              have s4 := q2.cell (i := 4) rfl
              have s5 := q2.cell (i := 5) rfl
              clear q0 q1 q2
              go_wp2_with fail
              refine (HOL.out _ (below_then Bw.out HB.out)).mono ?_
              rintro e wc ⟨rfl, hc⟩
              have HC : Hid (Below w2.heap.size w2 wc) := below_then HB.out hc
              have HUC : Hid (OwU wa.heap.size wc uo n uc (enc s)) := HU.out.below hc
              clear hc HB HOL HU p0 p1 p2 p3 r0 r1 s0 s1 s2 s3 s4 s5
              have q1 := Lw1.out wc HC.out
              have r0 := q1.cell (i := 0) rfl
              have r1 := q1.cell (i := 1) rfl
              clear q1
              go_wp2_with fail
              refine (twin_any _ a0 n0 c0 F0 a1 n1 c1 F1 (HH0.out.below (below_then Bw.out HC.out)) (HH1.out.below (below_then Bw.out HC.out))).mono ?_
              rintro e wd ⟨b0, d0, b1, d1, rfl, k0, k1, hd⟩
              have HK0 : Hid (Bec wd b0 n0 d0 F0) := k0
              have HK1 : Hid (Bec wd b1 n1 d1 F1) := k1
              have HUD : Hid (Bec wd uo n uc (enc s)) := (HUC.out.below hd).bec
              have HD : Hid (Below w2.heap.size w2 wd) := below_then HC.out hd
              clear hd k0 k1 HC HUC r0 r1
              obtain ⟨we, hwe⟩ : ∃ we, we = wd.alloc (.cells #[.slice uo n uc, .slice b1 n1 d1] 26) := ⟨_, rfl⟩
              have HE : Hid (Below w2.heap.size w2 we) := by show Below _ _ _; rw [hwe]; exact b_alloc HD.out _
              have HNW : Hid (At w2 we wd.heap.size #[.slice uo n uc, .slice b1 n1 d1] 26) := at_made HD.out hwe
              have hde : Below wd.heap.size wd we := by rw [hwe]; exact below_alloc _ _
              have HM0 : Hid (Bec we uo n uc (enc s)) := HUD.out.below hde
              have HM1 : Hid (Bec we b1 n1 d1 F1) := HK1.out.below hde
              have q0 := Lw0.out wd HD.out
              have q2 := Lw2.out wd HD.out
              have p0 := fun o => (q0.alloc o).cell (i := 0) rfl
              have p1 := fun o => (q0.alloc o).cell (i := 1) rfl
              have p2 := fun o => (q0.alloc o).cell (i := 2) rfl
              have p3 := fun o => (q0.alloc o).cell (i := 3) rfl
              have s0 := fun o => (q2.alloc o).cell (i := 0) rfl
              have s1 := fun o => (q2.alloc o).cell (i := 1) rfl
              have s2 := fun o => (q2.alloc o).cell (i := 2) rfl
              have s3 := fun o => (q2.alloc o).cell (i := 3) rfl
              have s4 := fun o => (q2.alloc o).cell (i := 4) rfl
              have s5 := fun o => (q2.alloc o).cell (i := 5) rfl
              clear q0 q2 hde
              go_wp2_with fail
              rw [← hwe]
              clear hwe HK0 HK1 HUD HD p0 p1 p2 p3 s0 s1 s2 s3 s4 s5
              refine (HF1.out _ uo uc b1 d1 HM0.out HM1.out).mono ?_
              rintro e wf ⟨o1, e1, o2, e2, rfl, _, hf⟩
              have HEF : Hid (Below we.heap.size we wf) := hf
              have HF : Hid (Below w2.heap.size w2 wf) := below_then HE.out hf
              clear hf HF1
              have q2 := Lw2.out wf HF.out
              have s0 := fun o => (q2.alloc o).cell (i := 0) rfl
              have s1 := fun o => (q2.alloc o).cell (i := 1) rfl
              have s2 := fun o => (q2.alloc o).cell (i := 2) rfl
              have s3 := fun o => (q2.alloc o).cell (i := 3) rfl
              have s4 := fun o => (q2.alloc o).cell (i := 4) rfl
              have s5 := fun o => (q2.alloc o).cell (i := 5) rfl
              clear q2
              obtain ⟨wg, hwg⟩ : ∃ wg, wg = wf.alloc (.cells #[.int .u8 ((t1.kd.toNat : Nat) : Int), .int .i64 t1.ix, .int .i64 t1.ce, .int .i64 t1.st, .slice o1 t1.vn e1, .slice o2 t1.dn e2] 31) := ⟨_, rfl⟩
              have HG : Hid (Below w2.heap.size w2 wg) := by show Below _ _ _; rw [hwg]; exact b_alloc HF.out _
              have HEG : Hid (Below we.heap.size we wg) := by show Below _ _ _; rw [hwg]; exact b_alloc HEF.out _
              have q0 := Lw0.out wf HF.out
              have q1 := Lw1.out wf HF.out
              have p0 := fun o => (q0.alloc o).cell (i := 0) rfl
              have p1 := fun o => (q0.alloc o).cell (i := 1) rfl
              have p2 := fun o => (q0.alloc o).cell (i := 2) rfl
              have p3 := fun o => (q0.alloc o).cell (i := 3) rfl
              have r0 := fun o => (q1.alloc o).cell (i := 0) rfl
              have r1 := fun o => (q1.alloc o).cell (i := 1) rfl
              clear q0 q1
              go_wp2_with fail
              rw [← hwg]
              clear hwg HF HEF p0 p1 p2 p3 r0 r1 s0 s1 s2 s3 s4 s5
              refine (HF2.out _ a0 c0 a1 c1 (HH0.out.below (below_then Bw.out HG.out)) (HH1.out.below (below_then Bw.out HG.out))).mono ?_
              rintro e wh ⟨o3, e3, o4, e4, rfl, hgt, hh⟩
              have HG2 : Hid (Got wg.heap.size wh t2 o3 e3 o4 e4) := hgt
              have HH : Hid (Below w2.heap.size w2 wh) := below_then HG.out hh
              have HEH : Hid (Below we.heap.size we wh) := below_then HEG.out hh
              clear hh HF2 HG HEG hgt
              obtain ⟨wi, hwi⟩ : ∃ wi, wi = wh.alloc (.cells #[.int .u8 ((t2.kd.toNat : Nat) : Int), .int .i64 t2.ix, .int .i64 t2.ce, .int .i64 t2.st, .slice o3 t2.vn e3, .slice o4 t2.dn e4] 31) := ⟨_, rfl⟩
              have HI : Hid (Below w2.heap.size w2 wi) := by show Below _ _ _; rw [hwi]; exact b_alloc HH.out _
              have HEI : Hid (Below we.heap.size we wi) := by show Below _ _ _; rw [hwi]; exact b_alloc HEH.out _
              have HT2 : Hid (At w2 wi wh.heap.size #[.int .u8 ((t2.kd.toNat : Nat) : Int), .int .i64 t2.ix, .int .i64 t2.ce, .int .i64 t2.st, .slice o3 t2.vn e3, .slice o4 t2.dn e4] 31) := at_made HH.out hwi
              have HG3 : Hid (Has wi t2 o3 e3 o4 e4) := (HG2.out.below (by rw [hwi]; exact below_alloc _ _)).has
              have q0 := Lw0.out wh HH.out
              have q2 := Lw2.out wh HH.out
              have q3 := HNW.out.below HEH.out
              have p0 := fun o => (q0.alloc o).cell (i := 0) rfl
              have p1 := fun o => (q0.alloc o).cell (i := 1) rfl
              have p2 := fun o => (q0.alloc o).cell (i := 2) rfl
              have p3 := fun o => (q0.alloc o).cell (i := 3) rfl
              have s0 := fun o => (q2.alloc o).cell (i := 0) rfl
              have s1 := fun o => (q2.alloc o).cell (i := 1) rfl
              have s2 := fun o => (q2.alloc o).cell (i := 2) rfl
              have s3 := fun o => (q2.alloc o).cell (i := 3) rfl
              have s4 := fun o => (q2.alloc o).cell (i := 4) rfl
              have s5 := fun o => (q2.alloc o).cell (i := 5) rfl
              have r0 := fun o => (q3.alloc o).cell (i := 0) rfl
              have r1 := fun o => (q3.alloc o).cell (i := 1) rfl
              clear q0 q2 q3
              go_wp2_with fail
              rw [← hwi]
              clear hwi HH HEH HG2 p0 p1 p2 p3 r0 r1 s0 s1 s2 s3 s4 s5
              refine (HF3.out _ uo uc b1 d1 (HM0.out.below HEI.out) (HM1.out.below HEI.out)).mono ?_
              rintro e wj ⟨o5, e5, o6, e6, rfl, hgt, hj⟩
              have HJ : Hid (Below w2.heap.size w2 wj) := below_then HI.out hj
              have HT3 : Hid (At w2 wj wh.heap.size #[.int .u8 ((t2.kd.toNat : Nat) : Int), .int .i64 t2.ix, .int .i64 t2.ce, .int .i64 t2.st, .slice o3 t2.vn e3, .slice o4 t2.dn e4] 31) := HT2.out.below hj
              clear hj hgt HF3 HI HEI HT2 HG3
              have q2 := Lw2.out wj HJ.out
              have q3 := HT3.out
              have s0 := fun o => (q2.alloc o).cell (i := 0) rfl
              have s1 := fun o => (q2.alloc o).cell (i := 1) rfl
              have s2 := fun o => (q2.alloc o).cell (i := 2) rfl
              have s3 := fun o => (q2.alloc o).cell (i := 3) rfl
              have s4 := fun o => (q2.alloc o).cell (i := 4) rfl
              have s5 := fun o => (q2.alloc o).cell (i := 5) rfl
              have m0 := fun o => (q3.alloc o).cell (i := 0) rfl
              have m1 := fun o => (q3.alloc o).cell (i := 1) rfl
              have m2 := fun o => (q3.alloc o).cell (i := 2) rfl
              have m3 := fun o => (q3.alloc o).cell (i := 3) rfl
              have m4 := fun o => (q3.alloc o).cell (i := 4) rfl
              have m5 := fun o => (q3.alloc o).cell (i := 5) rfl
              clear q2 q3
              go_wp2_with fail
              go_ret
              exact ⟨rfl, below_then Bw.out (b_alloc HJ.out _)⟩
            · skip
              have HF1 : Hid (∀ v (b0 : Option Addr) (d0 : Nat) (b1 : Option Addr) (d1 : Nat), Bec v b0 n0 d0 F0 → Bec v b1 n d1 (enc s) → Calls Try.prog 8 #[.agg #[.int .i64 k, .int .i64 r, .int .i64 c, .int .i64 q], .agg #[.slice b0 n0 d0, .slice b1 n d1], .int .u8 ((s.kd.toNat : Nat) : Int), .int .i64 s.ix, .int .i64 s.ce] v (AnsF v 0 (fN y0 ys s.kd s.ce) (fZ y0 ys s.kd s.ce) (fB y0 ys s.kd s.ce))) := fun v b0 d0 b1 d1 k0 k1 => Find_any h v b0 n0 d0 F0 b1 n d1 (enc s) k0 k1 s.kd s.ix s.ce 0 (by unfold erF; rw [erC_ok hT.1 hqs hki, if_pos rfl, if_pos ⟨by omega, by omega⟩]) y0 ys hy0 hys
              have hpf := put_found (y0 := y0) (y1 := ys) (by omega : s.ce ≠ 0) hen.2 hen.1 (.inr rfl)
              have HF2 : Hid (∀ v (b0 : Option Addr) (d0 : Nat) (b1 : Option Addr) (d1 : Nat), Bec v b0 n0 d0 F0 → Bec v b1 n1 d1 F1 → Calls Try.prog 8 #[.agg #[.int .i64 k, .int .i64 r, .int .i64 c, .int .i64 q], .agg #[.slice b0 n0 d0, .slice b1 n1 d1], .int .u8 ((s.kd.toNat : Nat) : Int), .int .i64 s.ix, .int .i64 kp] v (AnsF v 0 (fN y0 y1 s.kd kp) (fZ y0 y1 s.kd kp) (fB y0 y1 s.kd kp))) := fun v b0 d0 b1 d1 k0 k1 => Find_any h v b0 n0 d0 F0 b1 n1 d1 F1 k0 k1 s.kd s.ix kp 0 (by unfold erF; rw [erC_ok hT.1 hT.2 hki, if_pos rfl, if_pos ⟨by omega, by omega⟩]) y0 y1 hy0 hy1
              have HF3 : Hid (∀ v (b0 : Option Addr) (d0 : Nat) (b1 : Option Addr) (d1 : Nat), Bec v b0 n0 d0 F0 → Bec v b1 n d1 (enc s) → Calls Try.prog 8 #[.agg #[.int .i64 k, .int .i64 r, .int .i64 c, .int .i64 q], .agg #[.slice b0 n0 d0, .slice b1 n d1], .int .u8 ((s.kd.toNat : Nat) : Int), .int .i64 s.ix, .int .i64 kp] v (AnsF v 0 (fN y0 ys s.kd kp) (fZ y0 ys s.kd kp) (fB y0 ys s.kd kp))) := fun v b0 d0 b1 d1 k0 k1 => Find_any h v b0 n0 d0 F0 b1 n d1 (enc s) k0 k1 s.kd s.ix kp 0 (by unfold erF; rw [erC_ok hT.1 hqs hki, if_pos rfl, if_pos ⟨by omega, by omega⟩]) y0 ys hy0 hys
              obtain ⟨f1, hf1⟩ : ∃ f1, f1 = fN y0 ys s.kd s.ce := ⟨_, rfl⟩
              obtain ⟨t1, ht1⟩ : ∃ t1, t1 = fZ y0 ys s.kd s.ce := ⟨_, rfl⟩
              rw [← hf1, ← ht1, hpf.1] at HF1
              have hv1 : (t1.ce != s.ce) = false := by rw [ht1, hpf.2]; simp
              rw [hoN] at HOL
              clear hf1 ht1 hpf hoN
              unfold AnsF slv at HF1
              obtain ⟨f2, hf2⟩ : ∃ f2, f2 = fN y0 y1 s.kd kp := ⟨_, rfl⟩
              obtain ⟨t2, ht2⟩ : ∃ t2, t2 = fZ y0 y1 s.kd kp := ⟨_, rfl⟩
              rw [← hf2, ← ht2, hwas] at HF2
              obtain ⟨f3, hf3⟩ : ∃ f3, f3 = fN y0 ys s.kd kp := ⟨_, rfl⟩
              obtain ⟨t3, ht3⟩ : ∃ t3, t3 = fZ y0 ys s.kd kp := ⟨_, rfl⟩
              unfold AnsF slv at HF2
              obtain ⟨b3, hb3⟩ : ∃ b3, b3 = fB y0 ys s.kd kp := ⟨_, rfl⟩
              rw [← hf3, ← ht3, ← hb3] at HF3
              clear hb3
              unfold AnsF slv at HF3
              clear hf2 ht2 hf3 ht3 hwas
              have HH0 : Hid (Bec w a0 n0 c0 F0) := h0
              have HH1 : Hid (Bec w a1 n1 c1 F1) := h1
              clear h0 h1 hs hce hok hkp hy0 hy1 hys hen hqs hki hT hN h hC hE hG hn hn2
              go_enter Try.func4, Try.ntmps4
              go_wp2_with fail
              rw [← hw0, ← hw1, ← hw2]
              clear hw0 bw0 zw0 hw1 bw1 zw1 hw2 bw2 zw2
              refine (awake_any _).mono ?_
              rintro e wa ⟨rfl, ha⟩
              have HA : Hid (Below w2.heap.size w2 wa) := ha
              clear ha
              have q0 := Lw0.out wa HA.out
              have q2 := Lw2.out wa HA.out
              have p0 := q0.cell (i := 0) rfl
              have p1 := q0.cell (i := 1) rfl
              have p2 := q0.cell (i := 2) rfl
              have p3 := q0.cell (i := 3) rfl
              have s0 := q2.cell (i := 0) rfl
              have s1 := q2.cell (i := 1) rfl
              have s2 := q2.cell (i := 2) rfl
              have s3 := q2.cell (i := 3) rfl
              have s4 := q2.cell (i := 4) rfl
              have s5 := q2.cell (i := 5) rfl
              clear q0 q2
              go_wp2_with fail
              refine (HBY.out _ (below_then Bw.out HA.out)).mono ?_
              rintro e wb ⟨uo, uc, rfl, hu, hb⟩
              have HU : Hid (OwU wa.heap.size wb uo n uc (enc s)) := hu
              have HB : Hid (Below w2.heap.size w2 wb) := below_then HA.out hb
              clear hb hu HA HBY p0 p1 p2 p3 s0 s1 s2 s3 s4 s5
              have q0 := Lw0.out wb HB.out
              have q1 := Lw1.out wb HB.out
              have q2 := Lw2.out wb HB.out
              have p0 := q0.cell (i := 0) rfl
              have p1 := q0.cell (i := 1) rfl
              have p2 := q0.cell (i := 2) rfl
              have p3 := q0.cell (i := 3) rfl
              have r0 := q1.cell (i := 0) rfl
              have r1 := q1.cell (i := 1) rfl
              have s0 := q2.cell (i := 0) rfl
              have s1 := q2.cell (i := 1) rfl
              have s2 := q2.cell (i := 2) rfl
              have s3 := q2.cell (i := 3) rfl
              have s4 := q2.cell (i := 4) rfl
              have s5 := q2.cell (i := 5) rfl
              clear q0 q1 q2
              go_wp2_with fail
              refine (HOL.out _ (below_then Bw.out HB.out)).mono ?_
              rintro e wc ⟨rfl, hc⟩
              have HC : Hid (Below w2.heap.size w2 wc) := below_then HB.out hc
              have HUC : Hid (OwU wa.heap.size wc uo n uc (enc s)) := HU.out.below hc
              clear hc HB HOL HU p0 p1 p2 p3 r0 r1 s0 s1 s2 s3 s4 s5
              have q1 := Lw1.out wc HC.out
              have r0 := q1.cell (i := 0) rfl
              have r1 := q1.cell (i := 1) rfl
              clear q1
              go_wp2_with fail
              refine (twin_any _ a0 n0 c0 F0 a1 n1 c1 F1 (HH0.out.below (below_then Bw.out HC.out)) (HH1.out.below (below_then Bw.out HC.out))).mono ?_
              rintro e wd ⟨b0, d0, b1, d1, rfl, k0, k1, hd⟩
              have HK0 : Hid (Bec wd b0 n0 d0 F0) := k0
              have HK1 : Hid (Bec wd b1 n1 d1 F1) := k1
              have HUD : Hid (Bec wd uo n uc (enc s)) := (HUC.out.below hd).bec
              have HD : Hid (Below w2.heap.size w2 wd) := below_then HC.out hd
              clear hd k0 k1 HC HUC r0 r1
              obtain ⟨we, hwe⟩ : ∃ we, we = wd.alloc (.cells #[.slice b0 n0 d0, .slice uo n uc] 26) := ⟨_, rfl⟩
              have HE : Hid (Below w2.heap.size w2 we) := by show Below _ _ _; rw [hwe]; exact b_alloc HD.out _
              have HNW : Hid (At w2 we wd.heap.size #[.slice b0 n0 d0, .slice uo n uc] 26) := at_made HD.out hwe
              have hde : Below wd.heap.size wd we := by rw [hwe]; exact below_alloc _ _
              have HM0 : Hid (Bec we b0 n0 d0 F0) := HK0.out.below hde
              have HM1 : Hid (Bec we uo n uc (enc s)) := HUD.out.below hde
              have q0 := Lw0.out wd HD.out
              have q2 := Lw2.out wd HD.out
              have p0 := fun o => (q0.alloc o).cell (i := 0) rfl
              have p1 := fun o => (q0.alloc o).cell (i := 1) rfl
              have p2 := fun o => (q0.alloc o).cell (i := 2) rfl
              have p3 := fun o => (q0.alloc o).cell (i := 3) rfl
              have s0 := fun o => (q2.alloc o).cell (i := 0) rfl
              have s1 := fun o => (q2.alloc o).cell (i := 1) rfl
              have s2 := fun o => (q2.alloc o).cell (i := 2) rfl
              have s3 := fun o => (q2.alloc o).cell (i := 3) rfl
              have s4 := fun o => (q2.alloc o).cell (i := 4) rfl
              have s5 := fun o => (q2.alloc o).cell (i := 5) rfl
              clear q0 q2 hde
              go_wp2_with fail
              rw [← hwe]
              clear hwe HK0 HK1 HUD HD p0 p1 p2 p3 s0 s1 s2 s3 s4 s5
              refine (HF1.out _ b0 d0 uo uc HM0.out HM1.out).mono ?_
              rintro e wf ⟨o1, e1, o2, e2, rfl, _, hf⟩
              have HEF : Hid (Below we.heap.size we wf) := hf
              have HF : Hid (Below w2.heap.size w2 wf) := below_then HE.out hf
              clear hf HF1
              have q2 := Lw2.out wf HF.out
              have s0 := fun o => (q2.alloc o).cell (i := 0) rfl
              have s1 := fun o => (q2.alloc o).cell (i := 1) rfl
              have s2 := fun o => (q2.alloc o).cell (i := 2) rfl
              have s3 := fun o => (q2.alloc o).cell (i := 3) rfl
              have s4 := fun o => (q2.alloc o).cell (i := 4) rfl
              have s5 := fun o => (q2.alloc o).cell (i := 5) rfl
              clear q2
              obtain ⟨wg, hwg⟩ : ∃ wg, wg = wf.alloc (.cells #[.int .u8 ((t1.kd.toNat : Nat) : Int), .int .i64 t1.ix, .int .i64 t1.ce, .int .i64 t1.st, .slice o1 t1.vn e1, .slice o2 t1.dn e2] 31) := ⟨_, rfl⟩
              have HG : Hid (Below w2.heap.size w2 wg) := by show Below _ _ _; rw [hwg]; exact b_alloc HF.out _
              have HEG : Hid (Below we.heap.size we wg) := by show Below _ _ _; rw [hwg]; exact b_alloc HEF.out _
              have q0 := Lw0.out wf HF.out
              have q1 := Lw1.out wf HF.out
              have p0 := fun o => (q0.alloc o).cell (i := 0) rfl
              have p1 := fun o => (q0.alloc o).cell (i := 1) rfl
              have p2 := fun o => (q0.alloc o).cell (i := 2) rfl
              have p3 := fun o => (q0.alloc o).cell (i := 3) rfl
              have r0 := fun o => (q1.alloc o).cell (i := 0) rfl
              have r1 := fun o => (q1.alloc o).cell (i := 1) rfl
              clear q0 q1
              go_wp2_with fail
              rw [← hwg]
              clear hwg HF HEF p0 p1 p2 p3 r0 r1 s0 s1 s2 s3 s4 s5
              refine (HF2.out _ a0 c0 a1 c1 (HH0.out.below (below_then Bw.out HG.out)) (HH1.out.below (below_then Bw.out HG.out))).mono ?_
              rintro e wh ⟨o3, e3, o4, e4, rfl, hgt, hh⟩
              have HG2 : Hid (Got wg.heap.size wh t2 o3 e3 o4 e4) := hgt
              have HH : Hid (Below w2.heap.size w2 wh) := below_then HG.out hh
              have HEH : Hid (Below we.heap.size we wh) := below_then HEG.out hh
              clear hh HF2 HG HEG hgt
              obtain ⟨wi, hwi⟩ : ∃ wi, wi = wh.alloc (.cells #[.int .u8 ((t2.kd.toNat : Nat) : Int), .int .i64 t2.ix, .int .i64 t2.ce, .int .i64 t2.st, .slice o3 t2.vn e3, .slice o4 t2.dn e4] 31) := ⟨_, rfl⟩
              have HI : Hid (Below w2.heap.size w2 wi) := by show Below _ _ _; rw [hwi]; exact b_alloc HH.out _
              have HEI : Hid (Below we.heap.size we wi) := by show Below _ _ _; rw [hwi]; exact b_alloc HEH.out _
              have HT2 : Hid (At w2 wi wh.heap.size #[.int .u8 ((t2.kd.toNat : Nat) : Int), .int .i64 t2.ix, .int .i64 t2.ce, .int .i64 t2.st, .slice o3 t2.vn e3, .slice o4 t2.dn e4] 31) := at_made HH.out hwi
              have HG3 : Hid (Has wi t2 o3 e3 o4 e4) := (HG2.out.below (by rw [hwi]; exact below_alloc _ _)).has
              have q0 := Lw0.out wh HH.out
              have q2 := Lw2.out wh HH.out
              have q3 := HNW.out.below HEH.out
              have p0 := fun o => (q0.alloc o).cell (i := 0) rfl
              have p1 := fun o => (q0.alloc o).cell (i := 1) rfl
              have p2 := fun o => (q0.alloc o).cell (i := 2) rfl
              have p3 := fun o => (q0.alloc o).cell (i := 3) rfl
              have s0 := fun o => (q2.alloc o).cell (i := 0) rfl
              have s1 := fun o => (q2.alloc o).cell (i := 1) rfl
              have s2 := fun o => (q2.alloc o).cell (i := 2) rfl
              have s3 := fun o => (q2.alloc o).cell (i := 3) rfl
              have s4 := fun o => (q2.alloc o).cell (i := 4) rfl
              have s5 := fun o => (q2.alloc o).cell (i := 5) rfl
              have r0 := fun o => (q3.alloc o).cell (i := 0) rfl
              have r1 := fun o => (q3.alloc o).cell (i := 1) rfl
              clear q0 q2 q3
              go_wp2_with fail
              rw [← hwi]
              clear hwi HH HEH HG2 p0 p1 p2 p3 r0 r1 s0 s1 s2 s3 s4 s5
              refine (HF3.out _ b0 d0 uo uc (HM0.out.below HEI.out) (HM1.out.below HEI.out)).mono ?_
              rintro e wj ⟨o5, e5, o6, e6, rfl, hgt, hj⟩
              have HJ : Hid (Below w2.heap.size w2 wj) := below_then HI.out hj
              have HT3 : Hid (At w2 wj wh.heap.size #[.int .u8 ((t2.kd.toNat : Nat) : Int), .int .i64 t2.ix, .int .i64 t2.ce, .int .i64 t2.st, .slice o3 t2.vn e3, .slice o4 t2.dn e4] 31) := HT2.out.below hj
              clear hj hgt HF3 HI HEI HT2 HG3
              have q2 := Lw2.out wj HJ.out
              have q3 := HT3.out
              have s0 := fun o => (q2.alloc o).cell (i := 0) rfl
              have s1 := fun o => (q2.alloc o).cell (i := 1) rfl
              have s2 := fun o => (q2.alloc o).cell (i := 2) rfl
              have s3 := fun o => (q2.alloc o).cell (i := 3) rfl
              have s4 := fun o => (q2.alloc o).cell (i := 4) rfl
              have s5 := fun o => (q2.alloc o).cell (i := 5) rfl
              have m0 := fun o => (q3.alloc o).cell (i := 0) rfl
              have m1 := fun o => (q3.alloc o).cell (i := 1) rfl
              have m2 := fun o => (q3.alloc o).cell (i := 2) rfl
              have m3 := fun o => (q3.alloc o).cell (i := 3) rfl
              have m4 := fun o => (q3.alloc o).cell (i := 4) rfl
              have m5 := fun o => (q3.alloc o).cell (i := 5) rfl
              clear q2 q3
              go_wp2_with fail
              go_ret
              exact ⟨rfl, below_then Bw.out (b_alloc HJ.out _)⟩
          · have hoN : oN y0 y1 s.kd kp = 0 := by unfold oN; rw [s0, s1]; rfl
            have hwas : fB y0 y1 s.kd kp = true := by unfold fB; rw [s0, s1]; rfl
            by_cases hkc : kp = s.ce
            · have hkq : (kp == s.ce) = true := by simpa using hkc
              have hhas : fB ys y1 s.kd kp = true := by unfold fB; rw [s1, Bool.or_true]
              clear hkc s0 s1
              have HF1 : Hid (∀ v (b0 : Option Addr) (d0 : Nat) (b1 : Option Addr) (d1 : Nat), Bec v b0 n d0 (enc s) → Bec v b1 n1 d1 F1 → Calls Try.prog 8 #[.agg #[.int .i64 k, .int .i64 r, .int .i64 c, .int .i64 q], .agg #[.slice b0 n d0, .slice b1 n1 d1], .int .u8 ((s.kd.toNat : Nat) : Int), .int .i64 s.ix, .int .i64 s.ce] v (AnsF v 0 (fN ys y1 s.kd s.ce) (fZ ys y1 s.kd s.ce) (fB ys y1 s.kd s.ce))) := fun v b0 d0 b1 d1 k0 k1 => Find_any h v b0 n d0 (enc s) b1 n1 d1 F1 k0 k1 s.kd s.ix s.ce 0 (by unfold erF; rw [erC_ok hqs hT.2 hki, if_pos rfl, if_pos ⟨by omega, by omega⟩]) ys y1 hys hy1
              have hpf := put_found (y0 := ys) (y1 := y1) (by omega : s.ce ≠ 0) hen.2 hen.1 (.inl rfl)
              have HF2 : Hid (∀ v (b0 : Option Addr) (d0 : Nat) (b1 : Option Addr) (d1 : Nat), Bec v b0 n0 d0 F0 → Bec v b1 n1 d1 F1 → Calls Try.prog 8 #[.agg #[.int .i64 k, .int .i64 r, .int .i64 c, .int .i64 q], .agg #[.slice b0 n0 d0, .slice b1 n1 d1], .int .u8 ((s.kd.toNat : Nat) : Int), .int .i64 s.ix, .int .i64 kp] v (AnsF v 0 (fN y0 y1 s.kd kp) (fZ y0 y1 s.kd kp) (fB y0 y1 s.kd kp))) := fun v b0 d0 b1 d1 k0 k1 => Find_any h v b0 n0 d0 F0 b1 n1 d1 F1 k0 k1 s.kd s.ix kp 0 (by unfold erF; rw [erC_ok hT.1 hT.2 hki, if_pos rfl, if_pos ⟨by omega, by omega⟩]) y0 y1 hy0 hy1
              have HF3 : Hid (∀ v (b0 : Option Addr) (d0 : Nat) (b1 : Option Addr) (d1 : Nat), Bec v b0 n d0 (enc s) → Bec v b1 n1 d1 F1 → Calls Try.prog 8 #[.agg #[.int .i64 k, .int .i64 r, .int .i64 c, .int .i64 q], .agg #[.slice b0 n d0, .slice b1 n1 d1], .int .u8 ((s.kd.toNat : Nat) : Int), .int .i64 s.ix, .int .i64 kp] v (AnsF v 0 (fN ys y1 s.kd kp) (fZ ys y1 s.kd kp) (fB ys y1 s.kd kp))) := fun v b0 d0 b1 d1 k0 k1 => Find_any h v b0 n d0 (enc s) b1 n1 d1 F1 k0 k1 s.kd s.ix kp 0 (by unfold erF; rw [erC_ok hqs hT.2 hki, if_pos rfl, if_pos ⟨by omega, by omega⟩]) ys y1 hys hy1
              obtain ⟨f1, hf1⟩ : ∃ f1, f1 = fN ys y1 s.kd s.ce := ⟨_, rfl⟩
              obtain ⟨t1, ht1⟩ : ∃ t1, t1 = fZ ys y1 s.kd s.ce := ⟨_, rfl⟩
              rw [← hf1, ← ht1, hpf.1] at HF1
              have hv1 : (t1.ce != s.ce) = false := by rw [ht1, hpf.2]; simp
              rw [hoN] at HOL
              clear hf1 ht1 hpf hoN
              unfold AnsF slv at HF1
              obtain ⟨f2, hf2⟩ : ∃ f2, f2 = fN y0 y1 s.kd kp := ⟨_, rfl⟩
              obtain ⟨t2, ht2⟩ : ∃ t2, t2 = fZ y0 y1 s.kd kp := ⟨_, rfl⟩
              rw [← hf2, ← ht2, hwas] at HF2
              obtain ⟨f3, hf3⟩ : ∃ f3, f3 = fN ys y1 s.kd kp := ⟨_, rfl⟩
              obtain ⟨t3, ht3⟩ : ∃ t3, t3 = fZ ys y1 s.kd kp := ⟨_, rfl⟩
              unfold AnsF slv at HF2
              rw [← hf3, ← ht3, hhas] at HF3
              unfold AnsF slv at HF3
              clear hf2 ht2 hf3 ht3 hwas hhas
              have HH0 : Hid (Bec w a0 n0 c0 F0) := h0
              have HH1 : Hid (Bec w a1 n1 c1 F1) := h1
              clear h0 h1 hs hce hok hkp hy0 hy1 hys hen hqs hki hT hN h hC hE hG hn hn2
              go_enter Try.func4, Try.ntmps4
              go_wp2_with fail
              rw [← hw0, ← hw1, ← hw2]
              clear hw0 bw0 zw0 hw1 bw1 zw1 hw2 bw2 zw2
              refine (awake_any _).mono ?_
              rintro e wa ⟨rfl, ha⟩
              have HA : Hid (Below w2.heap.size w2 wa) := ha
              clear ha
              have q0 := Lw0.out wa HA.out
              have q2 := Lw2.out wa HA.out
              have p0 := q0.cell (i := 0) rfl
              have p1 := q0.cell (i := 1) rfl
              have p2 := q0.cell (i := 2) rfl
              have p3 := q0.cell (i := 3) rfl
              have s0 := q2.cell (i := 0) rfl
              have s1 := q2.cell (i := 1) rfl
              have s2 := q2.cell (i := 2) rfl
              have s3 := q2.cell (i := 3) rfl
              have s4 := q2.cell (i := 4) rfl
              have s5 := q2.cell (i := 5) rfl
              clear q0 q2
              go_wp2_with fail
              refine (HBY.out _ (below_then Bw.out HA.out)).mono ?_
              rintro e wb ⟨uo, uc, rfl, hu, hb⟩
              have HU : Hid (OwU wa.heap.size wb uo n uc (enc s)) := hu
              have HB : Hid (Below w2.heap.size w2 wb) := below_then HA.out hb
              clear hb hu HA HBY p0 p1 p2 p3 s0 s1 s2 s3 s4 s5
              have q0 := Lw0.out wb HB.out
              have q1 := Lw1.out wb HB.out
              have q2 := Lw2.out wb HB.out
              have p0 := q0.cell (i := 0) rfl
              have p1 := q0.cell (i := 1) rfl
              have p2 := q0.cell (i := 2) rfl
              have p3 := q0.cell (i := 3) rfl
              have r0 := q1.cell (i := 0) rfl
              have r1 := q1.cell (i := 1) rfl
              have s0 := q2.cell (i := 0) rfl
              have s1 := q2.cell (i := 1) rfl
              have s2 := q2.cell (i := 2) rfl
              have s3 := q2.cell (i := 3) rfl
              have s4 := q2.cell (i := 4) rfl
              have s5 := q2.cell (i := 5) rfl
              clear q0 q1 q2
              go_wp2_with fail
              refine (HOL.out _ (below_then Bw.out HB.out)).mono ?_
              rintro e wc ⟨rfl, hc⟩
              have HC : Hid (Below w2.heap.size w2 wc) := below_then HB.out hc
              have HUC : Hid (OwU wa.heap.size wc uo n uc (enc s)) := HU.out.below hc
              clear hc HB HOL HU p0 p1 p2 p3 r0 r1 s0 s1 s2 s3 s4 s5
              have q1 := Lw1.out wc HC.out
              have r0 := q1.cell (i := 0) rfl
              have r1 := q1.cell (i := 1) rfl
              clear q1
              go_wp2_with fail
              refine (twin_any _ a0 n0 c0 F0 a1 n1 c1 F1 (HH0.out.below (below_then Bw.out HC.out)) (HH1.out.below (below_then Bw.out HC.out))).mono ?_
              rintro e wd ⟨b0, d0, b1, d1, rfl, k0, k1, hd⟩
              have HK0 : Hid (Bec wd b0 n0 d0 F0) := k0
              have HK1 : Hid (Bec wd b1 n1 d1 F1) := k1
              have HUD : Hid (Bec wd uo n uc (enc s)) := (HUC.out.below hd).bec
              have HD : Hid (Below w2.heap.size w2 wd) := below_then HC.out hd
              clear hd k0 k1 HC HUC r0 r1
              obtain ⟨we, hwe⟩ : ∃ we, we = wd.alloc (.cells #[.slice uo n uc, .slice b1 n1 d1] 26) := ⟨_, rfl⟩
              have HE : Hid (Below w2.heap.size w2 we) := by show Below _ _ _; rw [hwe]; exact b_alloc HD.out _
              have HNW : Hid (At w2 we wd.heap.size #[.slice uo n uc, .slice b1 n1 d1] 26) := at_made HD.out hwe
              have hde : Below wd.heap.size wd we := by rw [hwe]; exact below_alloc _ _
              have HM0 : Hid (Bec we uo n uc (enc s)) := HUD.out.below hde
              have HM1 : Hid (Bec we b1 n1 d1 F1) := HK1.out.below hde
              have q0 := Lw0.out wd HD.out
              have q2 := Lw2.out wd HD.out
              have p0 := fun o => (q0.alloc o).cell (i := 0) rfl
              have p1 := fun o => (q0.alloc o).cell (i := 1) rfl
              have p2 := fun o => (q0.alloc o).cell (i := 2) rfl
              have p3 := fun o => (q0.alloc o).cell (i := 3) rfl
              have s0 := fun o => (q2.alloc o).cell (i := 0) rfl
              have s1 := fun o => (q2.alloc o).cell (i := 1) rfl
              have s2 := fun o => (q2.alloc o).cell (i := 2) rfl
              have s3 := fun o => (q2.alloc o).cell (i := 3) rfl
              have s4 := fun o => (q2.alloc o).cell (i := 4) rfl
              have s5 := fun o => (q2.alloc o).cell (i := 5) rfl
              clear q0 q2 hde
              go_wp2_with fail
              rw [← hwe]
              clear hwe HK0 HK1 HUD HD p0 p1 p2 p3 s0 s1 s2 s3 s4 s5
              refine (HF1.out _ uo uc b1 d1 HM0.out HM1.out).mono ?_
              rintro e wf ⟨o1, e1, o2, e2, rfl, _, hf⟩
              have HEF : Hid (Below we.heap.size we wf) := hf
              have HF : Hid (Below w2.heap.size w2 wf) := below_then HE.out hf
              clear hf HF1
              have q2 := Lw2.out wf HF.out
              have s0 := fun o => (q2.alloc o).cell (i := 0) rfl
              have s1 := fun o => (q2.alloc o).cell (i := 1) rfl
              have s2 := fun o => (q2.alloc o).cell (i := 2) rfl
              have s3 := fun o => (q2.alloc o).cell (i := 3) rfl
              have s4 := fun o => (q2.alloc o).cell (i := 4) rfl
              have s5 := fun o => (q2.alloc o).cell (i := 5) rfl
              clear q2
              obtain ⟨wg, hwg⟩ : ∃ wg, wg = wf.alloc (.cells #[.int .u8 ((t1.kd.toNat : Nat) : Int), .int .i64 t1.ix, .int .i64 t1.ce, .int .i64 t1.st, .slice o1 t1.vn e1, .slice o2 t1.dn e2] 31) := ⟨_, rfl⟩
              have HG : Hid (Below w2.heap.size w2 wg) := by show Below _ _ _; rw [hwg]; exact b_alloc HF.out _
              have HEG : Hid (Below we.heap.size we wg) := by show Below _ _ _; rw [hwg]; exact b_alloc HEF.out _
              have q0 := Lw0.out wf HF.out
              have q1 := Lw1.out wf HF.out
              have p0 := fun o => (q0.alloc o).cell (i := 0) rfl
              have p1 := fun o => (q0.alloc o).cell (i := 1) rfl
              have p2 := fun o => (q0.alloc o).cell (i := 2) rfl
              have p3 := fun o => (q0.alloc o).cell (i := 3) rfl
              have r0 := fun o => (q1.alloc o).cell (i := 0) rfl
              have r1 := fun o => (q1.alloc o).cell (i := 1) rfl
              clear q0 q1
              go_wp2_with fail
              rw [← hwg]
              clear hwg HF HEF p0 p1 p2 p3 r0 r1 s0 s1 s2 s3 s4 s5
              refine (HF2.out _ a0 c0 a1 c1 (HH0.out.below (below_then Bw.out HG.out)) (HH1.out.below (below_then Bw.out HG.out))).mono ?_
              rintro e wh ⟨o3, e3, o4, e4, rfl, hgt, hh⟩
              have HG2 : Hid (Got wg.heap.size wh t2 o3 e3 o4 e4) := hgt
              have HH : Hid (Below w2.heap.size w2 wh) := below_then HG.out hh
              have HEH : Hid (Below we.heap.size we wh) := below_then HEG.out hh
              clear hh HF2 HG HEG hgt
              obtain ⟨wi, hwi⟩ : ∃ wi, wi = wh.alloc (.cells #[.int .u8 ((t2.kd.toNat : Nat) : Int), .int .i64 t2.ix, .int .i64 t2.ce, .int .i64 t2.st, .slice o3 t2.vn e3, .slice o4 t2.dn e4] 31) := ⟨_, rfl⟩
              have HI : Hid (Below w2.heap.size w2 wi) := by show Below _ _ _; rw [hwi]; exact b_alloc HH.out _
              have HEI : Hid (Below we.heap.size we wi) := by show Below _ _ _; rw [hwi]; exact b_alloc HEH.out _
              have HT2 : Hid (At w2 wi wh.heap.size #[.int .u8 ((t2.kd.toNat : Nat) : Int), .int .i64 t2.ix, .int .i64 t2.ce, .int .i64 t2.st, .slice o3 t2.vn e3, .slice o4 t2.dn e4] 31) := at_made HH.out hwi
              have HG3 : Hid (Has wi t2 o3 e3 o4 e4) := (HG2.out.below (by rw [hwi]; exact below_alloc _ _)).has
              have q0 := Lw0.out wh HH.out
              have q2 := Lw2.out wh HH.out
              have q3 := HNW.out.below HEH.out
              have p0 := fun o => (q0.alloc o).cell (i := 0) rfl
              have p1 := fun o => (q0.alloc o).cell (i := 1) rfl
              have p2 := fun o => (q0.alloc o).cell (i := 2) rfl
              have p3 := fun o => (q0.alloc o).cell (i := 3) rfl
              have s0 := fun o => (q2.alloc o).cell (i := 0) rfl
              have s1 := fun o => (q2.alloc o).cell (i := 1) rfl
              have s2 := fun o => (q2.alloc o).cell (i := 2) rfl
              have s3 := fun o => (q2.alloc o).cell (i := 3) rfl
              have s4 := fun o => (q2.alloc o).cell (i := 4) rfl
              have s5 := fun o => (q2.alloc o).cell (i := 5) rfl
              have r0 := fun o => (q3.alloc o).cell (i := 0) rfl
              have r1 := fun o => (q3.alloc o).cell (i := 1) rfl
              clear q0 q2 q3
              go_wp2_with fail
              rw [← hwi]
              clear hwi HH HEH HG2 p0 p1 p2 p3 r0 r1 s0 s1 s2 s3 s4 s5
              refine (HF3.out _ uo uc b1 d1 (HM0.out.below HEI.out) (HM1.out.below HEI.out)).mono ?_
              rintro e wj ⟨o5, e5, o6, e6, rfl, hgt, hj⟩
              have HJ : Hid (Below w2.heap.size w2 wj) := below_then HI.out hj
              have HT3 : Hid (At w2 wj wh.heap.size #[.int .u8 ((t2.kd.toNat : Nat) : Int), .int .i64 t2.ix, .int .i64 t2.ce, .int .i64 t2.st, .slice o3 t2.vn e3, .slice o4 t2.dn e4] 31) := HT2.out.below hj
              clear hj hgt HF3 HI HEI HT2 HG3
              have q2 := Lw2.out wj HJ.out
              have q3 := HT3.out
              have s0 := fun o => (q2.alloc o).cell (i := 0) rfl
              have s1 := fun o => (q2.alloc o).cell (i := 1) rfl
              have s2 := fun o => (q2.alloc o).cell (i := 2) rfl
              have s3 := fun o => (q2.alloc o).cell (i := 3) rfl
              have s4 := fun o => (q2.alloc o).cell (i := 4) rfl
              have s5 := fun o => (q2.alloc o).cell (i := 5) rfl
              have m0 := fun o => (q3.alloc o).cell (i := 0) rfl
              have m1 := fun o => (q3.alloc o).cell (i := 1) rfl
              have m2 := fun o => (q3.alloc o).cell (i := 2) rfl
              have m3 := fun o => (q3.alloc o).cell (i := 3) rfl
              have m4 := fun o => (q3.alloc o).cell (i := 4) rfl
              have m5 := fun o => (q3.alloc o).cell (i := 5) rfl
              clear q2 q3
              go_wp2_with fail
              go_ret
              exact ⟨rfl, below_then Bw.out (b_alloc HJ.out _)⟩
            · have hkq : (kp == s.ce) = false := by simpa using hkc
              have hsf : hB ys s.kd kp = false := decide_eq_false fun q => hkc (q.2.2.symm.trans hen.1)
              obtain ⟨_, _, hold, hhas, hkept⟩ := kept_hi s0 s1 hsf
              have hkce : y1.ce = kp := hB_ce s1
              clear hkc s0 s1 hsf
              have HF1 : Hid (∀ v (b0 : Option Addr) (d0 : Nat) (b1 : Option Addr) (d1 : Nat), Bec v b0 n d0 (enc s) → Bec v b1 n1 d1 F1 → Calls Try.prog 8 #[.agg #[.int .i64 k, .int .i64 r, .int .i64 c, .int .i64 q], .agg #[.slice b0 n d0, .slice b1 n1 d1], .int .u8 ((s.kd.toNat : Nat) : Int), .int .i64 s.ix, .int .i64 s.ce] v (AnsF v 0 (fN ys y1 s.kd s.ce) (fZ ys y1 s.kd s.ce) (fB ys y1 s.kd s.ce))) := fun v b0 d0 b1 d1 k0 k1 => Find_any h v b0 n d0 (enc s) b1 n1 d1 F1 k0 k1 s.kd s.ix s.ce 0 (by unfold erF; rw [erC_ok hqs hT.2 hki, if_pos rfl, if_pos ⟨by omega, by omega⟩]) ys y1 hys hy1
              have hpf := put_found (y0 := ys) (y1 := y1) (by omega : s.ce ≠ 0) hen.2 hen.1 (.inl rfl)
              have HF2 : Hid (∀ v (b0 : Option Addr) (d0 : Nat) (b1 : Option Addr) (d1 : Nat), Bec v b0 n0 d0 F0 → Bec v b1 n1 d1 F1 → Calls Try.prog 8 #[.agg #[.int .i64 k, .int .i64 r, .int .i64 c, .int .i64 q], .agg #[.slice b0 n0 d0, .slice b1 n1 d1], .int .u8 ((s.kd.toNat : Nat) : Int), .int .i64 s.ix, .int .i64 kp] v (AnsF v 0 (fN y0 y1 s.kd kp) (fZ y0 y1 s.kd kp) (fB y0 y1 s.kd kp))) := fun v b0 d0 b1 d1 k0 k1 => Find_any h v b0 n0 d0 F0 b1 n1 d1 F1 k0 k1 s.kd s.ix kp 0 (by unfold erF; rw [erC_ok hT.1 hT.2 hki, if_pos rfl, if_pos ⟨by omega, by omega⟩]) y0 y1 hy0 hy1
              have HF3 : Hid (∀ v (b0 : Option Addr) (d0 : Nat) (b1 : Option Addr) (d1 : Nat), Bec v b0 n d0 (enc s) → Bec v b1 n1 d1 F1 → Calls Try.prog 8 #[.agg #[.int .i64 k, .int .i64 r, .int .i64 c, .int .i64 q], .agg #[.slice b0 n d0, .slice b1 n1 d1], .int .u8 ((s.kd.toNat : Nat) : Int), .int .i64 s.ix, .int .i64 kp] v (AnsF v 0 (fN ys y1 s.kd kp) (fZ ys y1 s.kd kp) (fB ys y1 s.kd kp))) := fun v b0 d0 b1 d1 k0 k1 => Find_any h v b0 n d0 (enc s) b1 n1 d1 F1 k0 k1 s.kd s.ix kp 0 (by unfold erF; rw [erC_ok hqs hT.2 hki, if_pos rfl, if_pos ⟨by omega, by omega⟩]) ys y1 hys hy1
              obtain ⟨f1, hf1⟩ : ∃ f1, f1 = fN ys y1 s.kd s.ce := ⟨_, rfl⟩
              obtain ⟨t1, ht1⟩ : ∃ t1, t1 = fZ ys y1 s.kd s.ce := ⟨_, rfl⟩
              rw [← hf1, ← ht1, hpf.1] at HF1
              have hv1 : (t1.ce != s.ce) = false := by rw [ht1, hpf.2]; simp
              rw [hoN] at HOL
              clear hf1 ht1 hpf hoN
              unfold AnsF slv at HF1
              obtain ⟨f2, hf2⟩ : ∃ f2, f2 = fN y0 y1 s.kd kp := ⟨_, rfl⟩
              obtain ⟨t2, ht2⟩ : ∃ t2, t2 = fZ y0 y1 s.kd kp := ⟨_, rfl⟩
              rw [← hf2, ← ht2, hwas] at HF2
              obtain ⟨f3, hf3⟩ : ∃ f3, f3 = fN ys y1 s.kd kp := ⟨_, rfl⟩
              obtain ⟨t3, ht3⟩ : ∃ t3, t3 = fZ ys y1 s.kd kp := ⟨_, rfl⟩
              unfold AnsF slv at HF2
              rw [← hf3, ← ht3, hhas] at HF3
              unfold AnsF slv at HF3
              have hv3 : (t3.ce == kp) = true := by rw [ht3, hkept]; simpa using hkce
              have hv4 : (t3.st == t2.st) = true := by rw [ht3, ht2, hkept, hold]; simp
              have hv5 : t3 = t2 := by rw [ht3, ht2, hkept, hold]
              have HV5 : Hid (t3 = t2) := hv5
              clear hv5 hkept hold hkce
              clear hf2 ht2 hf3 ht3 hwas hhas
              have HH0 : Hid (Bec w a0 n0 c0 F0) := h0
              have HH1 : Hid (Bec w a1 n1 c1 F1) := h1
              clear h0 h1 hs hce hok hkp hy0 hy1 hys hen hqs hki hT hN h hC hE hG hn hn2
              go_enter Try.func4, Try.ntmps4
              go_wp2_with fail
              rw [← hw0, ← hw1, ← hw2]
              clear hw0 bw0 zw0 hw1 bw1 zw1 hw2 bw2 zw2
              refine (awake_any _).mono ?_
              rintro e wa ⟨rfl, ha⟩
              have HA : Hid (Below w2.heap.size w2 wa) := ha
              clear ha
              have q0 := Lw0.out wa HA.out
              have q2 := Lw2.out wa HA.out
              have p0 := q0.cell (i := 0) rfl
              have p1 := q0.cell (i := 1) rfl
              have p2 := q0.cell (i := 2) rfl
              have p3 := q0.cell (i := 3) rfl
              have s0 := q2.cell (i := 0) rfl
              have s1 := q2.cell (i := 1) rfl
              have s2 := q2.cell (i := 2) rfl
              have s3 := q2.cell (i := 3) rfl
              have s4 := q2.cell (i := 4) rfl
              have s5 := q2.cell (i := 5) rfl
              clear q0 q2
              go_wp2_with fail
              refine (HBY.out _ (below_then Bw.out HA.out)).mono ?_
              rintro e wb ⟨uo, uc, rfl, hu, hb⟩
              have HU : Hid (OwU wa.heap.size wb uo n uc (enc s)) := hu
              have HB : Hid (Below w2.heap.size w2 wb) := below_then HA.out hb
              clear hb hu HA HBY p0 p1 p2 p3 s0 s1 s2 s3 s4 s5
              have q0 := Lw0.out wb HB.out
              have q1 := Lw1.out wb HB.out
              have q2 := Lw2.out wb HB.out
              have p0 := q0.cell (i := 0) rfl
              have p1 := q0.cell (i := 1) rfl
              have p2 := q0.cell (i := 2) rfl
              have p3 := q0.cell (i := 3) rfl
              have r0 := q1.cell (i := 0) rfl
              have r1 := q1.cell (i := 1) rfl
              have s0 := q2.cell (i := 0) rfl
              have s1 := q2.cell (i := 1) rfl
              have s2 := q2.cell (i := 2) rfl
              have s3 := q2.cell (i := 3) rfl
              have s4 := q2.cell (i := 4) rfl
              have s5 := q2.cell (i := 5) rfl
              clear q0 q1 q2
              go_wp2_with fail
              refine (HOL.out _ (below_then Bw.out HB.out)).mono ?_
              rintro e wc ⟨rfl, hc⟩
              have HC : Hid (Below w2.heap.size w2 wc) := below_then HB.out hc
              have HUC : Hid (OwU wa.heap.size wc uo n uc (enc s)) := HU.out.below hc
              clear hc HB HOL HU p0 p1 p2 p3 r0 r1 s0 s1 s2 s3 s4 s5
              have q1 := Lw1.out wc HC.out
              have r0 := q1.cell (i := 0) rfl
              have r1 := q1.cell (i := 1) rfl
              clear q1
              go_wp2_with fail
              refine (twin_any _ a0 n0 c0 F0 a1 n1 c1 F1 (HH0.out.below (below_then Bw.out HC.out)) (HH1.out.below (below_then Bw.out HC.out))).mono ?_
              rintro e wd ⟨b0, d0, b1, d1, rfl, k0, k1, hd⟩
              have HK0 : Hid (Bec wd b0 n0 d0 F0) := k0
              have HK1 : Hid (Bec wd b1 n1 d1 F1) := k1
              have HUD : Hid (Bec wd uo n uc (enc s)) := (HUC.out.below hd).bec
              have HD : Hid (Below w2.heap.size w2 wd) := below_then HC.out hd
              clear hd k0 k1 HC HUC r0 r1
              obtain ⟨we, hwe⟩ : ∃ we, we = wd.alloc (.cells #[.slice uo n uc, .slice b1 n1 d1] 26) := ⟨_, rfl⟩
              have HE : Hid (Below w2.heap.size w2 we) := by show Below _ _ _; rw [hwe]; exact b_alloc HD.out _
              have HNW : Hid (At w2 we wd.heap.size #[.slice uo n uc, .slice b1 n1 d1] 26) := at_made HD.out hwe
              have hde : Below wd.heap.size wd we := by rw [hwe]; exact below_alloc _ _
              have HM0 : Hid (Bec we uo n uc (enc s)) := HUD.out.below hde
              have HM1 : Hid (Bec we b1 n1 d1 F1) := HK1.out.below hde
              have q0 := Lw0.out wd HD.out
              have q2 := Lw2.out wd HD.out
              have p0 := fun o => (q0.alloc o).cell (i := 0) rfl
              have p1 := fun o => (q0.alloc o).cell (i := 1) rfl
              have p2 := fun o => (q0.alloc o).cell (i := 2) rfl
              have p3 := fun o => (q0.alloc o).cell (i := 3) rfl
              have s0 := fun o => (q2.alloc o).cell (i := 0) rfl
              have s1 := fun o => (q2.alloc o).cell (i := 1) rfl
              have s2 := fun o => (q2.alloc o).cell (i := 2) rfl
              have s3 := fun o => (q2.alloc o).cell (i := 3) rfl
              have s4 := fun o => (q2.alloc o).cell (i := 4) rfl
              have s5 := fun o => (q2.alloc o).cell (i := 5) rfl
              clear q0 q2 hde
              go_wp2_with fail
              rw [← hwe]
              clear hwe HK0 HK1 HUD HD p0 p1 p2 p3 s0 s1 s2 s3 s4 s5
              refine (HF1.out _ uo uc b1 d1 HM0.out HM1.out).mono ?_
              rintro e wf ⟨o1, e1, o2, e2, rfl, _, hf⟩
              have HEF : Hid (Below we.heap.size we wf) := hf
              have HF : Hid (Below w2.heap.size w2 wf) := below_then HE.out hf
              clear hf HF1
              have q2 := Lw2.out wf HF.out
              have s0 := fun o => (q2.alloc o).cell (i := 0) rfl
              have s1 := fun o => (q2.alloc o).cell (i := 1) rfl
              have s2 := fun o => (q2.alloc o).cell (i := 2) rfl
              have s3 := fun o => (q2.alloc o).cell (i := 3) rfl
              have s4 := fun o => (q2.alloc o).cell (i := 4) rfl
              have s5 := fun o => (q2.alloc o).cell (i := 5) rfl
              clear q2
              obtain ⟨wg, hwg⟩ : ∃ wg, wg = wf.alloc (.cells #[.int .u8 ((t1.kd.toNat : Nat) : Int), .int .i64 t1.ix, .int .i64 t1.ce, .int .i64 t1.st, .slice o1 t1.vn e1, .slice o2 t1.dn e2] 31) := ⟨_, rfl⟩
              have HG : Hid (Below w2.heap.size w2 wg) := by show Below _ _ _; rw [hwg]; exact b_alloc HF.out _
              have HEG : Hid (Below we.heap.size we wg) := by show Below _ _ _; rw [hwg]; exact b_alloc HEF.out _
              have q0 := Lw0.out wf HF.out
              have q1 := Lw1.out wf HF.out
              have p0 := fun o => (q0.alloc o).cell (i := 0) rfl
              have p1 := fun o => (q0.alloc o).cell (i := 1) rfl
              have p2 := fun o => (q0.alloc o).cell (i := 2) rfl
              have p3 := fun o => (q0.alloc o).cell (i := 3) rfl
              have r0 := fun o => (q1.alloc o).cell (i := 0) rfl
              have r1 := fun o => (q1.alloc o).cell (i := 1) rfl
              clear q0 q1
              go_wp2_with fail
              rw [← hwg]
              clear hwg HF HEF p0 p1 p2 p3 r0 r1 s0 s1 s2 s3 s4 s5
              refine (HF2.out _ a0 c0 a1 c1 (HH0.out.below (below_then Bw.out HG.out)) (HH1.out.below (below_then Bw.out HG.out))).mono ?_
              rintro e wh ⟨o3, e3, o4, e4, rfl, hgt, hh⟩
              have HG2 : Hid (Got wg.heap.size wh t2 o3 e3 o4 e4) := hgt
              have HH : Hid (Below w2.heap.size w2 wh) := below_then HG.out hh
              have HEH : Hid (Below we.heap.size we wh) := below_then HEG.out hh
              clear hh HF2 HG HEG hgt
              obtain ⟨wi, hwi⟩ : ∃ wi, wi = wh.alloc (.cells #[.int .u8 ((t2.kd.toNat : Nat) : Int), .int .i64 t2.ix, .int .i64 t2.ce, .int .i64 t2.st, .slice o3 t2.vn e3, .slice o4 t2.dn e4] 31) := ⟨_, rfl⟩
              have HI : Hid (Below w2.heap.size w2 wi) := by show Below _ _ _; rw [hwi]; exact b_alloc HH.out _
              have HEI : Hid (Below we.heap.size we wi) := by show Below _ _ _; rw [hwi]; exact b_alloc HEH.out _
              have HT2 : Hid (At w2 wi wh.heap.size #[.int .u8 ((t2.kd.toNat : Nat) : Int), .int .i64 t2.ix, .int .i64 t2.ce, .int .i64 t2.st, .slice o3 t2.vn e3, .slice o4 t2.dn e4] 31) := at_made HH.out hwi
              have HG3 : Hid (Has wi t2 o3 e3 o4 e4) := (HG2.out.below (by rw [hwi]; exact below_alloc _ _)).has
              have q0 := Lw0.out wh HH.out
              have q2 := Lw2.out wh HH.out
              have q3 := HNW.out.below HEH.out
              have p0 := fun o => (q0.alloc o).cell (i := 0) rfl
              have p1 := fun o => (q0.alloc o).cell (i := 1) rfl
              have p2 := fun o => (q0.alloc o).cell (i := 2) rfl
              have p3 := fun o => (q0.alloc o).cell (i := 3) rfl
              have s0 := fun o => (q2.alloc o).cell (i := 0) rfl
              have s1 := fun o => (q2.alloc o).cell (i := 1) rfl
              have s2 := fun o => (q2.alloc o).cell (i := 2) rfl
              have s3 := fun o => (q2.alloc o).cell (i := 3) rfl
              have s4 := fun o => (q2.alloc o).cell (i := 4) rfl
              have s5 := fun o => (q2.alloc o).cell (i := 5) rfl
              have r0 := fun o => (q3.alloc o).cell (i := 0) rfl
              have r1 := fun o => (q3.alloc o).cell (i := 1) rfl
              clear q0 q2 q3
              go_wp2_with fail
              rw [← hwi]
              clear hwi HH HEH HG2 p0 p1 p2 p3 r0 r1 s0 s1 s2 s3 s4 s5
              refine (HF3.out _ uo uc b1 d1 (HM0.out.below HEI.out) (HM1.out.below HEI.out)).mono ?_
              rintro e wj ⟨o5, e5, o6, e6, rfl, hgt, hj⟩
              have HJ : Hid (Below w2.heap.size w2 wj) := below_then HI.out hj
              have HT3 : Hid (At w2 wj wh.heap.size #[.int .u8 ((t2.kd.toNat : Nat) : Int), .int .i64 t2.ix, .int .i64 t2.ce, .int .i64 t2.st, .slice o3 t2.vn e3, .slice o4 t2.dn e4] 31) := HT2.out.below hj
              have hc2 : ∀ o, (convert 24 9 (.slice o4 t2.dn e4)).run Try.prog (wj.alloc o) = .ok (.string (sOf (lsF t2.dn t2.D))) (wj.alloc o) := fun o => conv_any ((HG3.out.below (below_then hj (below_alloc _ _))).bec)
              have hc3 : ∀ o, (convert 24 9 (.slice o6 t3.dn e6)).run Try.prog (wj.alloc o) = .ok (.string (sOf (lsF t2.dn t2.D))) (wj.alloc o) := fun o => by
                have := conv_any ((hgt.has.below (below_alloc wj o)).bec)
                rw [HV5.out] at this ⊢
                exact this
              have hcs : ((sOf (lsF t2.dn t2.D)).toList == (sOf (lsF t2.dn t2.D)).toList) = true := by simp
              clear hj hgt HF3 HI HEI HT2 HG3
              have q2 := Lw2.out wj HJ.out
              have q3 := HT3.out
              have s0 := fun o => (q2.alloc o).cell (i := 0) rfl
              have s1 := fun o => (q2.alloc o).cell (i := 1) rfl
              have s2 := fun o => (q2.alloc o).cell (i := 2) rfl
              have s3 := fun o => (q2.alloc o).cell (i := 3) rfl
              have s4 := fun o => (q2.alloc o).cell (i := 4) rfl
              have s5 := fun o => (q2.alloc o).cell (i := 5) rfl
              have m0 := fun o => (q3.alloc o).cell (i := 0) rfl
              have m1 := fun o => (q3.alloc o).cell (i := 1) rfl
              have m2 := fun o => (q3.alloc o).cell (i := 2) rfl
              have m3 := fun o => (q3.alloc o).cell (i := 3) rfl
              have m4 := fun o => (q3.alloc o).cell (i := 4) rfl
              have m5 := fun o => (q3.alloc o).cell (i := 5) rfl
              clear q2 q3
              go_wp2_with fail
              go_ret
              exact ⟨rfl, below_then Bw.out (b_alloc HJ.out _)⟩
        · obtain ⟨hoN, hwas, hold, hhas, hkept⟩ := kept_lo (y1 := y1) (ys := ys) s0
          obtain ⟨_, _, _, hhas, hkept⟩ := kept_lo (y1 := y1) (ys := ys) s0
          have hkce : y0.ce = kp := hB_ce s0
          by_cases hkc : kp = s.ce
          · have hkq : (kp == s.ce) = true := by simpa using hkc
            clear hkc s0 hold hkept hkce
            have HF1 : Hid (∀ v (b0 : Option Addr) (d0 : Nat) (b1 : Option Addr) (d1 : Nat), Bec v b0 n0 d0 F0 → Bec v b1 n d1 (enc s) → Calls Try.prog 8 #[.agg #[.int .i64 k, .int .i64 r, .int .i64 c, .int .i64 q], .agg #[.slice b0 n0 d0, .slice b1 n d1], .int .u8 ((s.kd.toNat : Nat) : Int), .int .i64 s.ix, .int .i64 s.ce] v (AnsF v 0 (fN y0 ys s.kd s.ce) (fZ y0 ys s.kd s.ce) (fB y0 ys s.kd s.ce))) := fun v b0 d0 b1 d1 k0 k1 => Find_any h v b0 n0 d0 F0 b1 n d1 (enc s) k0 k1 s.kd s.ix s.ce 0 (by unfold erF; rw [erC_ok hT.1 hqs hki, if_pos rfl, if_pos ⟨by omega, by omega⟩]) y0 ys hy0 hys
            have hpf := put_found (y0 := y0) (y1 := ys) (by omega : s.ce ≠ 0) hen.2 hen.1 (.inr rfl)
            have HF2 : Hid (∀ v (b0 : Option Addr) (d0 : Nat) (b1 : Option Addr) (d1 : Nat), Bec v b0 n0 d0 F0 → Bec v b1 n1 d1 F1 → Calls Try.prog 8 #[.agg #[.int .i64 k, .int .i64 r, .int .i64 c, .int .i64 q], .agg #[.slice b0 n0 d0, .slice b1 n1 d1], .int .u8 ((s.kd.toNat : Nat) : Int), .int .i64 s.ix, .int .i64 kp] v (AnsF v 0 (fN y0 y1 s.kd kp) (fZ y0 y1 s.kd kp) (fB y0 y1 s.kd kp))) := fun v b0 d0 b1 d1 k0 k1 => Find_any h v b0 n0 d0 F0 b1 n1 d1 F1 k0 k1 s.kd s.ix kp 0 (by unfold erF; rw [erC_ok hT.1 hT.2 hki, if_pos rfl, if_pos ⟨by omega, by omega⟩]) y0 y1 hy0 hy1
            have HF3 : Hid (∀ v (b0 : Option Addr) (d0 : Nat) (b1 : Option Addr) (d1 : Nat), Bec v b0 n0 d0 F0 → Bec v b1 n d1 (enc s) → Calls Try.prog 8 #[.agg #[.int .i64 k, .int .i64 r, .int .i64 c, .int .i64 q], .agg #[.slice b0 n0 d0, .slice b1 n d1], .int .u8 ((s.kd.toNat : Nat) : Int), .int .i64 s.ix, .int .i64 kp] v (AnsF v 0 (fN y0 ys s.kd kp) (fZ y0 ys s.kd kp) (fB y0 ys s.kd kp))) := fun v b0 d0 b1 d1 k0 k1 => Find_any h v b0 n0 d0 F0 b1 n d1 (enc s) k0 k1 s.kd s.ix kp 0 (by unfold erF; rw [erC_ok hT.1 hqs hki, if_pos rfl, if_pos ⟨by omega, by omega⟩]) y0 ys hy0 hys
            obtain ⟨f1, hf1⟩ : ∃ f1, f1 = fN y0 ys s.kd s.ce := ⟨_, rfl⟩
            obtain ⟨t1, ht1⟩ : ∃ t1, t1 = fZ y0 ys s.kd s.ce := ⟨_, rfl⟩
            rw [← hf1, ← ht1, hpf.1] at HF1
            have hv1 : (t1.ce != s.ce) = false := by rw [ht1, hpf.2]; simp
            rw [hoN] at HOL
            clear hf1 ht1 hpf hoN
            unfold AnsF slv at HF1
            obtain ⟨f2, hf2⟩ : ∃ f2, f2 = fN y0 y1 s.kd kp := ⟨_, rfl⟩
            obtain ⟨t2, ht2⟩ : ∃ t2, t2 = fZ y0 y1 s.kd kp := ⟨_, rfl⟩
            rw [← hf2, ← ht2, hwas] at HF2
            obtain ⟨f3, hf3⟩ : ∃ f3, f3 = fN y0 ys s.kd kp := ⟨_, rfl⟩
            obtain ⟨t3, ht3⟩ : ∃ t3, t3 = fZ y0 ys s.kd kp := ⟨_, rfl⟩
            unfold AnsF slv at HF2
            rw [← hf3, ← ht3, hhas] at HF3
            unfold AnsF slv at HF3
            clear hf2 ht2 hf3 ht3 hwas hhas
            have HH0 : Hid (Bec w a0 n0 c0 F0) := h0
            have HH1 : Hid (Bec w a1 n1 c1 F1) := h1
            clear h0 h1 hs hce hok hkp hy0 hy1 hys hen hqs hki hT hN h hC hE hG hn hn2
            go_enter Try.func4, Try.ntmps4
            go_wp2_with fail
            rw [← hw0, ← hw1, ← hw2]
            clear hw0 bw0 zw0 hw1 bw1 zw1 hw2 bw2 zw2
            refine (awake_any _).mono ?_
            rintro e wa ⟨rfl, ha⟩
            have HA : Hid (Below w2.heap.size w2 wa) := ha
            clear ha
            have q0 := Lw0.out wa HA.out
            have q2 := Lw2.out wa HA.out
            have p0 := q0.cell (i := 0) rfl
            have p1 := q0.cell (i := 1) rfl
            have p2 := q0.cell (i := 2) rfl
            have p3 := q0.cell (i := 3) rfl
            have s0 := q2.cell (i := 0) rfl
            have s1 := q2.cell (i := 1) rfl
            have s2 := q2.cell (i := 2) rfl
            have s3 := q2.cell (i := 3) rfl
            have s4 := q2.cell (i := 4) rfl
            have s5 := q2.cell (i := 5) rfl
            clear q0 q2
            go_wp2_with fail
            refine (HBY.out _ (below_then Bw.out HA.out)).mono ?_
            rintro e wb ⟨uo, uc, rfl, hu, hb⟩
            have HU : Hid (OwU wa.heap.size wb uo n uc (enc s)) := hu
            have HB : Hid (Below w2.heap.size w2 wb) := below_then HA.out hb
            clear hb hu HA HBY p0 p1 p2 p3 s0 s1 s2 s3 s4 s5
            have q0 := Lw0.out wb HB.out
            have q1 := Lw1.out wb HB.out
            have q2 := Lw2.out wb HB.out
            have p0 := q0.cell (i := 0) rfl
            have p1 := q0.cell (i := 1) rfl
            have p2 := q0.cell (i := 2) rfl
            have p3 := q0.cell (i := 3) rfl
            have r0 := q1.cell (i := 0) rfl
            have r1 := q1.cell (i := 1) rfl
            have s0 := q2.cell (i := 0) rfl
            have s1 := q2.cell (i := 1) rfl
            have s2 := q2.cell (i := 2) rfl
            have s3 := q2.cell (i := 3) rfl
            have s4 := q2.cell (i := 4) rfl
            have s5 := q2.cell (i := 5) rfl
            clear q0 q1 q2
            go_wp2_with fail
            refine (HOL.out _ (below_then Bw.out HB.out)).mono ?_
            rintro e wc ⟨rfl, hc⟩
            have HC : Hid (Below w2.heap.size w2 wc) := below_then HB.out hc
            have HUC : Hid (OwU wa.heap.size wc uo n uc (enc s)) := HU.out.below hc
            clear hc HB HOL HU p0 p1 p2 p3 r0 r1 s0 s1 s2 s3 s4 s5
            have q1 := Lw1.out wc HC.out
            have r0 := q1.cell (i := 0) rfl
            have r1 := q1.cell (i := 1) rfl
            clear q1
            go_wp2_with fail
            refine (twin_any _ a0 n0 c0 F0 a1 n1 c1 F1 (HH0.out.below (below_then Bw.out HC.out)) (HH1.out.below (below_then Bw.out HC.out))).mono ?_
            rintro e wd ⟨b0, d0, b1, d1, rfl, k0, k1, hd⟩
            have HK0 : Hid (Bec wd b0 n0 d0 F0) := k0
            have HK1 : Hid (Bec wd b1 n1 d1 F1) := k1
            have HUD : Hid (Bec wd uo n uc (enc s)) := (HUC.out.below hd).bec
            have HD : Hid (Below w2.heap.size w2 wd) := below_then HC.out hd
            clear hd k0 k1 HC HUC r0 r1
            obtain ⟨we, hwe⟩ : ∃ we, we = wd.alloc (.cells #[.slice b0 n0 d0, .slice uo n uc] 26) := ⟨_, rfl⟩
            have HE : Hid (Below w2.heap.size w2 we) := by show Below _ _ _; rw [hwe]; exact b_alloc HD.out _
            have HNW : Hid (At w2 we wd.heap.size #[.slice b0 n0 d0, .slice uo n uc] 26) := at_made HD.out hwe
            have hde : Below wd.heap.size wd we := by rw [hwe]; exact below_alloc _ _
            have HM0 : Hid (Bec we b0 n0 d0 F0) := HK0.out.below hde
            have HM1 : Hid (Bec we uo n uc (enc s)) := HUD.out.below hde
            have q0 := Lw0.out wd HD.out
            have q2 := Lw2.out wd HD.out
            have p0 := fun o => (q0.alloc o).cell (i := 0) rfl
            have p1 := fun o => (q0.alloc o).cell (i := 1) rfl
            have p2 := fun o => (q0.alloc o).cell (i := 2) rfl
            have p3 := fun o => (q0.alloc o).cell (i := 3) rfl
            have s0 := fun o => (q2.alloc o).cell (i := 0) rfl
            have s1 := fun o => (q2.alloc o).cell (i := 1) rfl
            have s2 := fun o => (q2.alloc o).cell (i := 2) rfl
            have s3 := fun o => (q2.alloc o).cell (i := 3) rfl
            have s4 := fun o => (q2.alloc o).cell (i := 4) rfl
            have s5 := fun o => (q2.alloc o).cell (i := 5) rfl
            clear q0 q2 hde
            go_wp2_with fail
            rw [← hwe]
            clear hwe HK0 HK1 HUD HD p0 p1 p2 p3 s0 s1 s2 s3 s4 s5
            refine (HF1.out _ b0 d0 uo uc HM0.out HM1.out).mono ?_
            rintro e wf ⟨o1, e1, o2, e2, rfl, _, hf⟩
            have HEF : Hid (Below we.heap.size we wf) := hf
            have HF : Hid (Below w2.heap.size w2 wf) := below_then HE.out hf
            clear hf HF1
            have q2 := Lw2.out wf HF.out
            have s0 := fun o => (q2.alloc o).cell (i := 0) rfl
            have s1 := fun o => (q2.alloc o).cell (i := 1) rfl
            have s2 := fun o => (q2.alloc o).cell (i := 2) rfl
            have s3 := fun o => (q2.alloc o).cell (i := 3) rfl
            have s4 := fun o => (q2.alloc o).cell (i := 4) rfl
            have s5 := fun o => (q2.alloc o).cell (i := 5) rfl
            clear q2
            obtain ⟨wg, hwg⟩ : ∃ wg, wg = wf.alloc (.cells #[.int .u8 ((t1.kd.toNat : Nat) : Int), .int .i64 t1.ix, .int .i64 t1.ce, .int .i64 t1.st, .slice o1 t1.vn e1, .slice o2 t1.dn e2] 31) := ⟨_, rfl⟩
            have HG : Hid (Below w2.heap.size w2 wg) := by show Below _ _ _; rw [hwg]; exact b_alloc HF.out _
            have HEG : Hid (Below we.heap.size we wg) := by show Below _ _ _; rw [hwg]; exact b_alloc HEF.out _
            have q0 := Lw0.out wf HF.out
            have q1 := Lw1.out wf HF.out
            have p0 := fun o => (q0.alloc o).cell (i := 0) rfl
            have p1 := fun o => (q0.alloc o).cell (i := 1) rfl
            have p2 := fun o => (q0.alloc o).cell (i := 2) rfl
            have p3 := fun o => (q0.alloc o).cell (i := 3) rfl
            have r0 := fun o => (q1.alloc o).cell (i := 0) rfl
            have r1 := fun o => (q1.alloc o).cell (i := 1) rfl
            clear q0 q1
            go_wp2_with fail
            rw [← hwg]
            clear hwg HF HEF p0 p1 p2 p3 r0 r1 s0 s1 s2 s3 s4 s5
            refine (HF2.out _ a0 c0 a1 c1 (HH0.out.below (below_then Bw.out HG.out)) (HH1.out.below (below_then Bw.out HG.out))).mono ?_
            rintro e wh ⟨o3, e3, o4, e4, rfl, hgt, hh⟩
            have HG2 : Hid (Got wg.heap.size wh t2 o3 e3 o4 e4) := hgt
            have HH : Hid (Below w2.heap.size w2 wh) := below_then HG.out hh
            have HEH : Hid (Below we.heap.size we wh) := below_then HEG.out hh
            clear hh HF2 HG HEG hgt
            obtain ⟨wi, hwi⟩ : ∃ wi, wi = wh.alloc (.cells #[.int .u8 ((t2.kd.toNat : Nat) : Int), .int .i64 t2.ix, .int .i64 t2.ce, .int .i64 t2.st, .slice o3 t2.vn e3, .slice o4 t2.dn e4] 31) := ⟨_, rfl⟩
            have HI : Hid (Below w2.heap.size w2 wi) := by show Below _ _ _; rw [hwi]; exact b_alloc HH.out _
            have HEI : Hid (Below we.heap.size we wi) := by show Below _ _ _; rw [hwi]; exact b_alloc HEH.out _
            have HT2 : Hid (At w2 wi wh.heap.size #[.int .u8 ((t2.kd.toNat : Nat) : Int), .int .i64 t2.ix, .int .i64 t2.ce, .int .i64 t2.st, .slice o3 t2.vn e3, .slice o4 t2.dn e4] 31) := at_made HH.out hwi
            have HG3 : Hid (Has wi t2 o3 e3 o4 e4) := (HG2.out.below (by rw [hwi]; exact below_alloc _ _)).has
            have q0 := Lw0.out wh HH.out
            have q2 := Lw2.out wh HH.out
            have q3 := HNW.out.below HEH.out
            have p0 := fun o => (q0.alloc o).cell (i := 0) rfl
            have p1 := fun o => (q0.alloc o).cell (i := 1) rfl
            have p2 := fun o => (q0.alloc o).cell (i := 2) rfl
            have p3 := fun o => (q0.alloc o).cell (i := 3) rfl
            have s0 := fun o => (q2.alloc o).cell (i := 0) rfl
            have s1 := fun o => (q2.alloc o).cell (i := 1) rfl
            have s2 := fun o => (q2.alloc o).cell (i := 2) rfl
            have s3 := fun o => (q2.alloc o).cell (i := 3) rfl
            have s4 := fun o => (q2.alloc o).cell (i := 4) rfl
            have s5 := fun o => (q2.alloc o).cell (i := 5) rfl
            have r0 := fun o => (q3.alloc o).cell (i := 0) rfl
            have r1 := fun o => (q3.alloc o).cell (i := 1) rfl
            clear q0 q2 q3
            go_wp2_with fail
            rw [← hwi]
            clear hwi HH HEH HG2 p0 p1 p2 p3 r0 r1 s0 s1 s2 s3 s4 s5
            refine (HF3.out _ b0 d0 uo uc (HM0.out.below HEI.out) (HM1.out.below HEI.out)).mono ?_
            rintro e wj ⟨o5, e5, o6, e6, rfl, hgt, hj⟩
            have HJ : Hid (Below w2.heap.size w2 wj) := below_then HI.out hj
            have HT3 : Hid (At w2 wj wh.heap.size #[.int .u8 ((t2.kd.toNat : Nat) : Int), .int .i64 t2.ix, .int .i64 t2.ce, .int .i64 t2.st, .slice o3 t2.vn e3, .slice o4 t2.dn e4] 31) := HT2.out.below hj
            clear hj hgt HF3 HI HEI HT2 HG3
            have q2 := Lw2.out wj HJ.out
            have q3 := HT3.out
            have s0 := fun o => (q2.alloc o).cell (i := 0) rfl
            have s1 := fun o => (q2.alloc o).cell (i := 1) rfl
            have s2 := fun o => (q2.alloc o).cell (i := 2) rfl
            have s3 := fun o => (q2.alloc o).cell (i := 3) rfl
            have s4 := fun o => (q2.alloc o).cell (i := 4) rfl
            have s5 := fun o => (q2.alloc o).cell (i := 5) rfl
            have m0 := fun o => (q3.alloc o).cell (i := 0) rfl
            have m1 := fun o => (q3.alloc o).cell (i := 1) rfl
            have m2 := fun o => (q3.alloc o).cell (i := 2) rfl
            have m3 := fun o => (q3.alloc o).cell (i := 3) rfl
            have m4 := fun o => (q3.alloc o).cell (i := 4) rfl
            have m5 := fun o => (q3.alloc o).cell (i := 5) rfl
            clear q2 q3
            go_wp2_with fail
            go_ret
            exact ⟨rfl, below_then Bw.out (b_alloc HJ.out _)⟩
          · have hkq : (kp == s.ce) = false := by simpa using hkc
            clear hkc s0
            have HF1 : Hid (∀ v (b0 : Option Addr) (d0 : Nat) (b1 : Option Addr) (d1 : Nat), Bec v b0 n0 d0 F0 → Bec v b1 n d1 (enc s) → Calls Try.prog 8 #[.agg #[.int .i64 k, .int .i64 r, .int .i64 c, .int .i64 q], .agg #[.slice b0 n0 d0, .slice b1 n d1], .int .u8 ((s.kd.toNat : Nat) : Int), .int .i64 s.ix, .int .i64 s.ce] v (AnsF v 0 (fN y0 ys s.kd s.ce) (fZ y0 ys s.kd s.ce) (fB y0 ys s.kd s.ce))) := fun v b0 d0 b1 d1 k0 k1 => Find_any h v b0 n0 d0 F0 b1 n d1 (enc s) k0 k1 s.kd s.ix s.ce 0 (by unfold erF; rw [erC_ok hT.1 hqs hki, if_pos rfl, if_pos ⟨by omega, by omega⟩]) y0 ys hy0 hys
            have hpf := put_found (y0 := y0) (y1 := ys) (by omega : s.ce ≠ 0) hen.2 hen.1 (.inr rfl)
            have HF2 : Hid (∀ v (b0 : Option Addr) (d0 : Nat) (b1 : Option Addr) (d1 : Nat), Bec v b0 n0 d0 F0 → Bec v b1 n1 d1 F1 → Calls Try.prog 8 #[.agg #[.int .i64 k, .int .i64 r, .int .i64 c, .int .i64 q], .agg #[.slice b0 n0 d0, .slice b1 n1 d1], .int .u8 ((s.kd.toNat : Nat) : Int), .int .i64 s.ix, .int .i64 kp] v (AnsF v 0 (fN y0 y1 s.kd kp) (fZ y0 y1 s.kd kp) (fB y0 y1 s.kd kp))) := fun v b0 d0 b1 d1 k0 k1 => Find_any h v b0 n0 d0 F0 b1 n1 d1 F1 k0 k1 s.kd s.ix kp 0 (by unfold erF; rw [erC_ok hT.1 hT.2 hki, if_pos rfl, if_pos ⟨by omega, by omega⟩]) y0 y1 hy0 hy1
            have HF3 : Hid (∀ v (b0 : Option Addr) (d0 : Nat) (b1 : Option Addr) (d1 : Nat), Bec v b0 n0 d0 F0 → Bec v b1 n d1 (enc s) → Calls Try.prog 8 #[.agg #[.int .i64 k, .int .i64 r, .int .i64 c, .int .i64 q], .agg #[.slice b0 n0 d0, .slice b1 n d1], .int .u8 ((s.kd.toNat : Nat) : Int), .int .i64 s.ix, .int .i64 kp] v (AnsF v 0 (fN y0 ys s.kd kp) (fZ y0 ys s.kd kp) (fB y0 ys s.kd kp))) := fun v b0 d0 b1 d1 k0 k1 => Find_any h v b0 n0 d0 F0 b1 n d1 (enc s) k0 k1 s.kd s.ix kp 0 (by unfold erF; rw [erC_ok hT.1 hqs hki, if_pos rfl, if_pos ⟨by omega, by omega⟩]) y0 ys hy0 hys
            obtain ⟨f1, hf1⟩ : ∃ f1, f1 = fN y0 ys s.kd s.ce := ⟨_, rfl⟩
            obtain ⟨t1, ht1⟩ : ∃ t1, t1 = fZ y0 ys s.kd s.ce := ⟨_, rfl⟩
            rw [← hf1, ← ht1, hpf.1] at HF1
            have hv1 : (t1.ce != s.ce) = false := by rw [ht1, hpf.2]; simp
            rw [hoN] at HOL
            clear hf1 ht1 hpf hoN
            unfold AnsF slv at HF1
            obtain ⟨f2, hf2⟩ : ∃ f2, f2 = fN y0 y1 s.kd kp := ⟨_, rfl⟩
            obtain ⟨t2, ht2⟩ : ∃ t2, t2 = fZ y0 y1 s.kd kp := ⟨_, rfl⟩
            rw [← hf2, ← ht2, hwas] at HF2
            obtain ⟨f3, hf3⟩ : ∃ f3, f3 = fN y0 ys s.kd kp := ⟨_, rfl⟩
            obtain ⟨t3, ht3⟩ : ∃ t3, t3 = fZ y0 ys s.kd kp := ⟨_, rfl⟩
            unfold AnsF slv at HF2
            rw [← hf3, ← ht3, hhas] at HF3
            unfold AnsF slv at HF3
            have hv3 : (t3.ce == kp) = true := by rw [ht3, hkept]; simpa using hkce
            have hv4 : (t3.st == t2.st) = true := by rw [ht3, ht2, hkept, hold]; simp
            have hv5 : t3 = t2 := by rw [ht3, ht2, hkept, hold]
            have HV5 : Hid (t3 = t2) := hv5
            clear hv5 hkept hold hkce
            clear hf2 ht2 hf3 ht3 hwas hhas
            have HH0 : Hid (Bec w a0 n0 c0 F0) := h0
            have HH1 : Hid (Bec w a1 n1 c1 F1) := h1
            clear h0 h1 hs hce hok hkp hy0 hy1 hys hen hqs hki hT hN h hC hE hG hn hn2
            go_enter Try.func4, Try.ntmps4
            go_wp2_with fail
            rw [← hw0, ← hw1, ← hw2]
            clear hw0 bw0 zw0 hw1 bw1 zw1 hw2 bw2 zw2
            refine (awake_any _).mono ?_
            rintro e wa ⟨rfl, ha⟩
            have HA : Hid (Below w2.heap.size w2 wa) := ha
            clear ha
            have q0 := Lw0.out wa HA.out
            have q2 := Lw2.out wa HA.out
            have p0 := q0.cell (i := 0) rfl
            have p1 := q0.cell (i := 1) rfl
            have p2 := q0.cell (i := 2) rfl
            have p3 := q0.cell (i := 3) rfl
            have s0 := q2.cell (i := 0) rfl
            have s1 := q2.cell (i := 1) rfl
            have s2 := q2.cell (i := 2) rfl
            have s3 := q2.cell (i := 3) rfl
            have s4 := q2.cell (i := 4) rfl
            have s5 := q2.cell (i := 5) rfl
            clear q0 q2
            go_wp2_with fail
            refine (HBY.out _ (below_then Bw.out HA.out)).mono ?_
            rintro e wb ⟨uo, uc, rfl, hu, hb⟩
            have HU : Hid (OwU wa.heap.size wb uo n uc (enc s)) := hu
            have HB : Hid (Below w2.heap.size w2 wb) := below_then HA.out hb
            clear hb hu HA HBY p0 p1 p2 p3 s0 s1 s2 s3 s4 s5
            have q0 := Lw0.out wb HB.out
            have q1 := Lw1.out wb HB.out
            have q2 := Lw2.out wb HB.out
            have p0 := q0.cell (i := 0) rfl
            have p1 := q0.cell (i := 1) rfl
            have p2 := q0.cell (i := 2) rfl
            have p3 := q0.cell (i := 3) rfl
            have r0 := q1.cell (i := 0) rfl
            have r1 := q1.cell (i := 1) rfl
            have s0 := q2.cell (i := 0) rfl
            have s1 := q2.cell (i := 1) rfl
            have s2 := q2.cell (i := 2) rfl
            have s3 := q2.cell (i := 3) rfl
            have s4 := q2.cell (i := 4) rfl
            have s5 := q2.cell (i := 5) rfl
            clear q0 q1 q2
            go_wp2_with fail
            refine (HOL.out _ (below_then Bw.out HB.out)).mono ?_
            rintro e wc ⟨rfl, hc⟩
            have HC : Hid (Below w2.heap.size w2 wc) := below_then HB.out hc
            have HUC : Hid (OwU wa.heap.size wc uo n uc (enc s)) := HU.out.below hc
            clear hc HB HOL HU p0 p1 p2 p3 r0 r1 s0 s1 s2 s3 s4 s5
            have q1 := Lw1.out wc HC.out
            have r0 := q1.cell (i := 0) rfl
            have r1 := q1.cell (i := 1) rfl
            clear q1
            go_wp2_with fail
            refine (twin_any _ a0 n0 c0 F0 a1 n1 c1 F1 (HH0.out.below (below_then Bw.out HC.out)) (HH1.out.below (below_then Bw.out HC.out))).mono ?_
            rintro e wd ⟨b0, d0, b1, d1, rfl, k0, k1, hd⟩
            have HK0 : Hid (Bec wd b0 n0 d0 F0) := k0
            have HK1 : Hid (Bec wd b1 n1 d1 F1) := k1
            have HUD : Hid (Bec wd uo n uc (enc s)) := (HUC.out.below hd).bec
            have HD : Hid (Below w2.heap.size w2 wd) := below_then HC.out hd
            clear hd k0 k1 HC HUC r0 r1
            obtain ⟨we, hwe⟩ : ∃ we, we = wd.alloc (.cells #[.slice b0 n0 d0, .slice uo n uc] 26) := ⟨_, rfl⟩
            have HE : Hid (Below w2.heap.size w2 we) := by show Below _ _ _; rw [hwe]; exact b_alloc HD.out _
            have HNW : Hid (At w2 we wd.heap.size #[.slice b0 n0 d0, .slice uo n uc] 26) := at_made HD.out hwe
            have hde : Below wd.heap.size wd we := by rw [hwe]; exact below_alloc _ _
            have HM0 : Hid (Bec we b0 n0 d0 F0) := HK0.out.below hde
            have HM1 : Hid (Bec we uo n uc (enc s)) := HUD.out.below hde
            have q0 := Lw0.out wd HD.out
            have q2 := Lw2.out wd HD.out
            have p0 := fun o => (q0.alloc o).cell (i := 0) rfl
            have p1 := fun o => (q0.alloc o).cell (i := 1) rfl
            have p2 := fun o => (q0.alloc o).cell (i := 2) rfl
            have p3 := fun o => (q0.alloc o).cell (i := 3) rfl
            have s0 := fun o => (q2.alloc o).cell (i := 0) rfl
            have s1 := fun o => (q2.alloc o).cell (i := 1) rfl
            have s2 := fun o => (q2.alloc o).cell (i := 2) rfl
            have s3 := fun o => (q2.alloc o).cell (i := 3) rfl
            have s4 := fun o => (q2.alloc o).cell (i := 4) rfl
            have s5 := fun o => (q2.alloc o).cell (i := 5) rfl
            clear q0 q2 hde
            go_wp2_with fail
            rw [← hwe]
            clear hwe HK0 HK1 HUD HD p0 p1 p2 p3 s0 s1 s2 s3 s4 s5
            refine (HF1.out _ b0 d0 uo uc HM0.out HM1.out).mono ?_
            rintro e wf ⟨o1, e1, o2, e2, rfl, _, hf⟩
            have HEF : Hid (Below we.heap.size we wf) := hf
            have HF : Hid (Below w2.heap.size w2 wf) := below_then HE.out hf
            clear hf HF1
            have q2 := Lw2.out wf HF.out
            have s0 := fun o => (q2.alloc o).cell (i := 0) rfl
            have s1 := fun o => (q2.alloc o).cell (i := 1) rfl
            have s2 := fun o => (q2.alloc o).cell (i := 2) rfl
            have s3 := fun o => (q2.alloc o).cell (i := 3) rfl
            have s4 := fun o => (q2.alloc o).cell (i := 4) rfl
            have s5 := fun o => (q2.alloc o).cell (i := 5) rfl
            clear q2
            obtain ⟨wg, hwg⟩ : ∃ wg, wg = wf.alloc (.cells #[.int .u8 ((t1.kd.toNat : Nat) : Int), .int .i64 t1.ix, .int .i64 t1.ce, .int .i64 t1.st, .slice o1 t1.vn e1, .slice o2 t1.dn e2] 31) := ⟨_, rfl⟩
            have HG : Hid (Below w2.heap.size w2 wg) := by show Below _ _ _; rw [hwg]; exact b_alloc HF.out _
            have HEG : Hid (Below we.heap.size we wg) := by show Below _ _ _; rw [hwg]; exact b_alloc HEF.out _
            have q0 := Lw0.out wf HF.out
            have q1 := Lw1.out wf HF.out
            have p0 := fun o => (q0.alloc o).cell (i := 0) rfl
            have p1 := fun o => (q0.alloc o).cell (i := 1) rfl
            have p2 := fun o => (q0.alloc o).cell (i := 2) rfl
            have p3 := fun o => (q0.alloc o).cell (i := 3) rfl
            have r0 := fun o => (q1.alloc o).cell (i := 0) rfl
            have r1 := fun o => (q1.alloc o).cell (i := 1) rfl
            clear q0 q1
            go_wp2_with fail
            rw [← hwg]
            clear hwg HF HEF p0 p1 p2 p3 r0 r1 s0 s1 s2 s3 s4 s5
            refine (HF2.out _ a0 c0 a1 c1 (HH0.out.below (below_then Bw.out HG.out)) (HH1.out.below (below_then Bw.out HG.out))).mono ?_
            rintro e wh ⟨o3, e3, o4, e4, rfl, hgt, hh⟩
            have HG2 : Hid (Got wg.heap.size wh t2 o3 e3 o4 e4) := hgt
            have HH : Hid (Below w2.heap.size w2 wh) := below_then HG.out hh
            have HEH : Hid (Below we.heap.size we wh) := below_then HEG.out hh
            clear hh HF2 HG HEG hgt
            obtain ⟨wi, hwi⟩ : ∃ wi, wi = wh.alloc (.cells #[.int .u8 ((t2.kd.toNat : Nat) : Int), .int .i64 t2.ix, .int .i64 t2.ce, .int .i64 t2.st, .slice o3 t2.vn e3, .slice o4 t2.dn e4] 31) := ⟨_, rfl⟩
            have HI : Hid (Below w2.heap.size w2 wi) := by show Below _ _ _; rw [hwi]; exact b_alloc HH.out _
            have HEI : Hid (Below we.heap.size we wi) := by show Below _ _ _; rw [hwi]; exact b_alloc HEH.out _
            have HT2 : Hid (At w2 wi wh.heap.size #[.int .u8 ((t2.kd.toNat : Nat) : Int), .int .i64 t2.ix, .int .i64 t2.ce, .int .i64 t2.st, .slice o3 t2.vn e3, .slice o4 t2.dn e4] 31) := at_made HH.out hwi
            have HG3 : Hid (Has wi t2 o3 e3 o4 e4) := (HG2.out.below (by rw [hwi]; exact below_alloc _ _)).has
            have q0 := Lw0.out wh HH.out
            have q2 := Lw2.out wh HH.out
            have q3 := HNW.out.below HEH.out
            have p0 := fun o => (q0.alloc o).cell (i := 0) rfl
            have p1 := fun o => (q0.alloc o).cell (i := 1) rfl
            have p2 := fun o => (q0.alloc o).cell (i := 2) rfl
            have p3 := fun o => (q0.alloc o).cell (i := 3) rfl
            have s0 := fun o => (q2.alloc o).cell (i := 0) rfl
            have s1 := fun o => (q2.alloc o).cell (i := 1) rfl
            have s2 := fun o => (q2.alloc o).cell (i := 2) rfl
            have s3 := fun o => (q2.alloc o).cell (i := 3) rfl
            have s4 := fun o => (q2.alloc o).cell (i := 4) rfl
            have s5 := fun o => (q2.alloc o).cell (i := 5) rfl
            have r0 := fun o => (q3.alloc o).cell (i := 0) rfl
            have r1 := fun o => (q3.alloc o).cell (i := 1) rfl
            clear q0 q2 q3
            go_wp2_with fail
            rw [← hwi]
            clear hwi HH HEH HG2 p0 p1 p2 p3 r0 r1 s0 s1 s2 s3 s4 s5
            refine (HF3.out _ b0 d0 uo uc (HM0.out.below HEI.out) (HM1.out.below HEI.out)).mono ?_
            rintro e wj ⟨o5, e5, o6, e6, rfl, hgt, hj⟩
            have HJ : Hid (Below w2.heap.size w2 wj) := below_then HI.out hj
            have HT3 : Hid (At w2 wj wh.heap.size #[.int .u8 ((t2.kd.toNat : Nat) : Int), .int .i64 t2.ix, .int .i64 t2.ce, .int .i64 t2.st, .slice o3 t2.vn e3, .slice o4 t2.dn e4] 31) := HT2.out.below hj
            have hc2 : ∀ o, (convert 24 9 (.slice o4 t2.dn e4)).run Try.prog (wj.alloc o) = .ok (.string (sOf (lsF t2.dn t2.D))) (wj.alloc o) := fun o => conv_any ((HG3.out.below (below_then hj (below_alloc _ _))).bec)
            have hc3 : ∀ o, (convert 24 9 (.slice o6 t3.dn e6)).run Try.prog (wj.alloc o) = .ok (.string (sOf (lsF t2.dn t2.D))) (wj.alloc o) := fun o => by
              have := conv_any ((hgt.has.below (below_alloc wj o)).bec)
              rw [HV5.out] at this ⊢
              exact this
            have hcs : ((sOf (lsF t2.dn t2.D)).toList == (sOf (lsF t2.dn t2.D)).toList) = true := by simp
            clear hj hgt HF3 HI HEI HT2 HG3
            have q2 := Lw2.out wj HJ.out
            have q3 := HT3.out
            have s0 := fun o => (q2.alloc o).cell (i := 0) rfl
            have s1 := fun o => (q2.alloc o).cell (i := 1) rfl
            have s2 := fun o => (q2.alloc o).cell (i := 2) rfl
            have s3 := fun o => (q2.alloc o).cell (i := 3) rfl
            have s4 := fun o => (q2.alloc o).cell (i := 4) rfl
            have s5 := fun o => (q2.alloc o).cell (i := 5) rfl
            have m0 := fun o => (q3.alloc o).cell (i := 0) rfl
            have m1 := fun o => (q3.alloc o).cell (i := 1) rfl
            have m2 := fun o => (q3.alloc o).cell (i := 2) rfl
            have m3 := fun o => (q3.alloc o).cell (i := 3) rfl
            have m4 := fun o => (q3.alloc o).cell (i := 4) rfl
            have m5 := fun o => (q3.alloc o).cell (i := 5) rfl
            clear q2 q3
            go_wp2_with fail
            go_ret
            exact ⟨rfl, below_then Bw.out (b_alloc HJ.out _)⟩
    · have hqn : (G != 0) = true := by simpa using eG
      have hz : y0 = zSl ∧ y1 = zSl := by rw [← hy0, ← hy1]; unfold he; rw [if_neg eG, if_neg eG]; exact ⟨rfl, rfl⟩
      obtain ⟨rfl, rfl⟩ := hz
      rw [oin_z] at HOL
      rw [show lenE 0 (sz N c) = sz N c from rfl] at HBY
      clear h hE hG hy0 hy1 h0 h1 eG hs
      go_enter Try.func4, Try.ntmps4
      go_wp2_with fail
      rw [← hw0, ← hw1, ← hw2]
      clear hw0 bw0 zw0 hw1 bw1 zw1 hw2 bw2 zw2
      refine (awake_any _).mono ?_
      rintro e wa ⟨rfl, ha⟩
      have HA : Hid (Below w2.heap.size w2 wa) := ha
      clear ha
      have q0 := Lw0.out wa HA.out
      have q2 := Lw2.out wa HA.out
      have p0 := q0.cell (i := 0) rfl
      have p1 := q0.cell (i := 1) rfl
      have p2 := q0.cell (i := 2) rfl
      have p3 := q0.cell (i := 3) rfl
      have s0 := q2.cell (i := 0) rfl
      have s1 := q2.cell (i := 1) rfl
      have s2 := q2.cell (i := 2) rfl
      have s3 := q2.cell (i := 3) rfl
      have s4 := q2.cell (i := 4) rfl
      have s5 := q2.cell (i := 5) rfl
      clear q0 q2
      go_wp2_with fail
      refine (HBY.out _ (below_then Bw.out HA.out)).mono ?_
      rintro e wb ⟨uo, uc, rfl, hu, hb⟩
      have HU : Hid (OwU wa.heap.size wb uo (sz N c) uc (enc s)) := hu
      have HB : Hid (Below w2.heap.size w2 wb) := below_then HA.out hb
      clear hb hu HA HBY p0 p1 p2 p3 s0 s1 s2 s3 s4 s5
      have q0 := Lw0.out wb HB.out
      have q1 := Lw1.out wb HB.out
      have q2 := Lw2.out wb HB.out
      have p0 := q0.cell (i := 0) rfl
      have p1 := q0.cell (i := 1) rfl
      have p2 := q0.cell (i := 2) rfl
      have p3 := q0.cell (i := 3) rfl
      have r0 := q1.cell (i := 0) rfl
      have r1 := q1.cell (i := 1) rfl
      have s0 := q2.cell (i := 0) rfl
      have s1 := q2.cell (i := 1) rfl
      have s2 := q2.cell (i := 2) rfl
      have s3 := q2.cell (i := 3) rfl
      have s4 := q2.cell (i := 4) rfl
      have s5 := q2.cell (i := 5) rfl
      clear q0 q1 q2
      go_wp2_with fail
      refine (HOL.out _ (below_then Bw.out HB.out)).mono ?_
      rintro e wc ⟨rfl, hc⟩
      have HC : Hid (Below w2.heap.size w2 wc) := below_then HB.out hc
      have HUC : Hid (OwU wa.heap.size wc uo (sz N c) uc (enc s)) := HU.out.below hc
      clear hc HB HOL HU p0 p1 p2 p3 r0 r1 s0 s1 s2 s3 s4 s5
      go_wp2_with fail
      go_ret
      exact ⟨rfl, below_then Bw.out HC.out⟩
  · have hqn : (E != 0) = true := by simpa using eE
    obtain ⟨l, hl⟩ : ∃ l, l = lenE E (sz N c) := ⟨_, rfl⟩
    obtain ⟨on, hon⟩ : ∃ on, on = oN y0 y1 s.kd kp := ⟨_, rfl⟩
    rw [← hl] at HBY
    rw [← hon] at HOL
    clear h hE hG hy0 hy1 h0 h1 eE hl hon hs
    go_enter Try.func4, Try.ntmps4
    go_wp2_with fail
    rw [← hw0, ← hw1, ← hw2]
    clear hw0 bw0 zw0 hw1 bw1 zw1 hw2 bw2 zw2
    refine (awake_any _).mono ?_
    rintro e wa ⟨rfl, ha⟩
    have HA : Hid (Below w2.heap.size w2 wa) := ha
    clear ha
    have q0 := Lw0.out wa HA.out
    have q2 := Lw2.out wa HA.out
    have p0 := q0.cell (i := 0) rfl
    have p1 := q0.cell (i := 1) rfl
    have p2 := q0.cell (i := 2) rfl
    have p3 := q0.cell (i := 3) rfl
    have s0 := q2.cell (i := 0) rfl
    have s1 := q2.cell (i := 1) rfl
    have s2 := q2.cell (i := 2) rfl
    have s3 := q2.cell (i := 3) rfl
    have s4 := q2.cell (i := 4) rfl
    have s5 := q2.cell (i := 5) rfl
    clear q0 q2
    go_wp2_with fail
    refine (HBY.out _ (below_then Bw.out HA.out)).mono ?_
    rintro e wb ⟨uo, uc, rfl, hu, hb⟩
    have HU : Hid (OwU wa.heap.size wb uo l uc (enc s)) := hu
    have HB : Hid (Below w2.heap.size w2 wb) := below_then HA.out hb
    clear hb hu HA HBY p0 p1 p2 p3 s0 s1 s2 s3 s4 s5
    have q0 := Lw0.out wb HB.out
    have q1 := Lw1.out wb HB.out
    have q2 := Lw2.out wb HB.out
    have p0 := q0.cell (i := 0) rfl
    have p1 := q0.cell (i := 1) rfl
    have p2 := q0.cell (i := 2) rfl
    have p3 := q0.cell (i := 3) rfl
    have r0 := q1.cell (i := 0) rfl
    have r1 := q1.cell (i := 1) rfl
    have s0 := q2.cell (i := 0) rfl
    have s1 := q2.cell (i := 1) rfl
    have s2 := q2.cell (i := 2) rfl
    have s3 := q2.cell (i := 3) rfl
    have s4 := q2.cell (i := 4) rfl
    have s5 := q2.cell (i := 5) rfl
    clear q0 q1 q2
    go_wp2_with fail
    refine (HOL.out _ (below_then Bw.out HB.out)).mono ?_
    rintro e wc ⟨rfl, hc⟩
    have HC : Hid (Below w2.heap.size w2 wc) := below_then HB.out hc
    have HUC : Hid (OwU wa.heap.size wc uo l uc (enc s)) := HU.out.below hc
    clear hc HB HOL HU p0 p1 p2 p3 r0 r1 s0 s1 s2 s3 s4 s5
    go_wp2_with fail
    go_ret
    exact ⟨rfl, below_then Bw.out HC.out⟩
end Go.Proofs.Ytmdeadakbohpeaa
