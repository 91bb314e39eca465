/- CellNewest's walk. -/
import Derived.Test.YtmdeadakbohpeaaCeH
namespace Go.Proofs.Ytmdeadakbohpeaa
open Go.RowKit

/-- A slot that is read: none, of another index, of another kind, or of the kind. -/
theorem sl_tests {N : Nat} {c ix : Int} {n : Nat} {F : Nat → UInt8} (kd : UInt8) {i : Bool} {a y : Sl} (hi : isS N c n F = i) (ha : slQ i N c F = a) (hy : he 0 N c ix n F = y) :
    (i = false ∧ y = zSl ∧ ofK kd y = zSl) ∨ (i = true ∧ (a.ix == ix) = false ∧ y = zSl ∧ ofK kd y = zSl) ∨ (i = true ∧ (a.ix == ix) = true ∧ (((a.kd.toNat : Nat) : Int) == ((kd.toNat : Nat) : Int)) = false ∧ y = a ∧ ofK kd y = zSl ∧ 1 ≤ a.ce ∧ a.ce ≤ 1073741824) ∨ (i = true ∧ (a.ix == ix) = true ∧ (((a.kd.toNat : Nat) : Int) == ((kd.toNat : Nat) : Int)) = true ∧ y = a ∧ ofK kd y = a ∧ (1 ≤ a.ce ∧ a.ce ≤ 1073741824) ∧ a.kd = kd) := by
  have hy2 : ofI ix a = y := by rw [← hy, ← ha, ← hi]; unfold he; rw [if_pos rfl]
  cases i
  · have : a = zSl := by rw [← ha]; rfl
    refine .inl ⟨rfl, ?_, ?_⟩
    · rw [← hy2, this]; unfold ofI; split <;> rfl
    · rw [← hy2, this]; unfold ofI; split <;> exact ofK_z kd
  · have hok : okS N c a = true := by rw [← ha]; exact (is_true hi).2.2.2
    have hn := (okS_nums hok).1
    by_cases e : a.ix = ix
    · have e1 : (a.ix == ix) = true := by simpa using e
      have e2 : y = a := by rw [← hy2]; unfold ofI; rw [if_pos e]
      by_cases f : a.kd = kd
      · refine .inr (.inr (.inr ⟨rfl, e1, by rw [f]; simp, e2, ?_, hn, f⟩))
        rw [e2]; unfold ofK; rw [if_pos f]
      · refine .inr (.inr (.inl ⟨rfl, e1, ?_, e2, ?_, hn⟩))
        · simp only [beq_eq_false_iff_ne, ne_eq, Int.natCast_inj]; exact fun h => f (UInt8.toNat_inj.1 h)
        · rw [e2]; unfold ofK; rw [if_neg f]
    · have e2 : y = zSl := by rw [← hy2]; unfold ofI; rw [if_neg e]
      exact .inr (.inl ⟨rfl, by simpa using e, e2, by rw [e2]; exact ofK_z kd⟩)
theorem ofK_of {kd : UInt8} {y : Sl} (h : ¬ (ofK kd y).ce = 0) : y.kd = kd ∧ ofK kd y = y := by
  unfold ofK at h ⊢
  by_cases e : y.kd = kd
  · rw [if_pos e]; exact ⟨e, rfl⟩
  · rw [if_neg e] at h; exact absurd rfl h
/-- The newest version is found. -/
theorem new_find {y0 y1 : Sl} {kd : UInt8} (h : ¬ (gZ y0 y1 kd).ce = 0) : fN y0 y1 kd (gZ y0 y1 kd).ce = gN y0 y1 kd ∧ (fZ y0 y1 kd (gZ y0 y1 kd).ce).ce = (gZ y0 y1 kd).ce ∧ fB y0 y1 kd (gZ y0 y1 kd).ce = true := by
  unfold gZ at h ⊢
  unfold gN
  by_cases hlt : (ofK kd y0).ce < (ofK kd y1).ce
  · rw [if_pos hlt] at h ⊢
    rw [if_pos hlt]
    obtain ⟨e1, e2⟩ := ofK_of h
    have hb1 : hB y1 kd (ofK kd y1).ce = true := decide_eq_true ⟨h, e1, by rw [e2]⟩
    have hb0 : hB y0 kd (ofK kd y1).ce = false := decide_eq_false fun q => by
      have : ofK kd y0 = y0 := by unfold ofK; rw [if_pos q.2.1]
      rw [this] at hlt
      have := q.2.2
      omega
    unfold fN fZ fB
    rw [hb0, hb1]
    refine ⟨rfl, ?_, rfl⟩
    simp only [Bool.false_eq_true, if_false, if_true]
    rw [e2]
  · rw [if_neg hlt] at h ⊢
    rw [if_neg hlt]
    obtain ⟨e1, e2⟩ := ofK_of h
    have hb0 : hB y0 kd (ofK kd y0).ce = true := decide_eq_true ⟨h, e1, by rw [e2]⟩
    unfold fN fZ fB
    rw [hb0]
    refine ⟨rfl, ?_, rfl⟩
    simp only [if_true]
    rw [e2]
theorem gZ_le (y0 y1 : Sl) (kd : UInt8) : (ofK kd y0).ce ≤ (gZ y0 y1 kd).ce ∧ (ofK kd y1).ce ≤ (gZ y0 y1 kd).ce := by
  unfold gZ
  split <;> constructor <;> omega
theorem oN_zero (y0 y1 : Sl) (kd : UInt8) : oN y0 y1 kd 0 = if y1.ce < y0.ce then 1 else 0 := by
  unfold oN
  rw [show hB y0 kd 0 = false from decide_eq_false fun h => h.1 rfl, show hB y1 kd 0 = false from decide_eq_false fun h => h.1 rfl]
  rfl

set_option maxHeartbeats 32000000 in
set_option maxRecDepth 100000 in
theorem CNewest_any (k r c q : Int) (w : World) (a0 : Option Addr) (n0 c0 : Nat) (F0 : Nat → UInt8) (a1 : Option Addr) (n1 c1 : Nat) (F1 : Nat → UInt8) (h0 : Bec w a0 n0 c0 F0) (h1 : Bec w a1 n1 c1 F1) (kd : UInt8) (ix : Int) :
    Calls Try.prog 5 #[.agg #[.int .i64 k, .int .i64 r, .int .i64 c, .int .i64 q], .agg #[.slice a0 n0 c0, .slice a1 n1 c1], .int .u8 ((kd.toNat : Nat) : Int), .int .i64 ix] w fun e w' => e = .returned (.bool true) ∧ Below w.heap.size w w' := by
  obtain ⟨w0, hw0⟩ : ∃ w0, w0 = w.alloc (.cells #[.int .i64 k, .int .i64 r, .int .i64 c, .int .i64 q] 23) := ⟨_, rfl⟩
  have bw0 : Below w.heap.size w w0 := by rw [hw0]; exact below_alloc _ _
  have zw0 : w0.heap.size = w.heap.size + 1 := by rw [hw0]; simp
  obtain ⟨w1, hw1⟩ : ∃ w1, w1 = w0.alloc (.cells #[.slice a0 n0 c0, .slice a1 n1 c1] 26) := ⟨_, rfl⟩
  have bw1 : Below w0.heap.size w0 w1 := by rw [hw1]; exact below_alloc _ _
  have zw1 : w1.heap.size = w.heap.size + 1 + 1 := by rw [hw1]; simp [zw0]
  have Bw : Hid (Below w.heap.size w w1) := (below_then bw0 bw1)
  have Lw0 : Hid (∀ v, Below w1.heap.size w1 v → At w v (w.heap.size) #[.int .i64 k, .int .i64 r, .int .i64 c, .int .i64 q] 23) := fun v hv => by exact (at_made (Below.refl _ _) hw0).below (below_then bw1 hv)
  have Lw1 : Hid (∀ v, Below w1.heap.size w1 v → At w v (w.heap.size + 1) #[.slice a0 n0 c0, .slice a1 n1 c1] 26) := fun v hv => by rw [← zw0]; exact (at_made bw0 hw1).below (below_then (Below.refl _ _) hv)
  obtain ⟨N, W, x, h⟩ := par_any k r c q
  obtain ⟨E, hE⟩ : ∃ E, erC x N c n0 n1 ((kd.toNat : Nat) : Int) ix = E := ⟨_, rfl⟩
  obtain ⟨y0, hy0⟩ : ∃ y0, he E N c ix n0 F0 = y0 := ⟨_, rfl⟩
  obtain ⟨y1, hy1⟩ : ∃ y1, he E N c ix n1 F1 = y1 := ⟨_, rfl⟩
  have hF : erO (erC x N c n0 n1 ((kd.toNat : Nat) : Int) ix) 0 = E := by
    rw [hE]; unfold erO
    by_cases e : E = 0
    · rw [if_pos e, if_pos ⟨Int.le_refl _, by decide⟩, e]
    · rw [if_neg e]
  have HNE : Hid (∀ v, Below w.heap.size w v → Calls Try.prog 11 #[.agg #[.int .i64 k, .int .i64 r, .int .i64 c, .int .i64 q], .agg #[.slice a0 n0 c0, .slice a1 n1 c1], .int .u8 ((kd.toNat : Nat) : Int), .int .i64 ix] v (AnsF v E (gN y0 y1 kd) (gZ y0 y1 kd) (gB y0 y1 kd))) := fun v hv => Newest_any h v a0 n0 c0 F0 a1 n1 c1 F1 (h0.below hv) (h1.below hv) kd ix E hE y0 y1 hy0 hy1
  have HOL : Hid (∀ v, Below w.heap.size w v → Calls Try.prog 13 #[.agg #[.int .i64 k, .int .i64 r, .int .i64 c, .int .i64 q], .agg #[.slice a0 n0 c0, .slice a1 n1 c1], .int .u8 ((kd.toNat : Nat) : Int), .int .i64 ix, .int .i64 0] v fun e w' => e = .returned (.tuple #[.int .i64 ((oN y0 y1 kd 0 : Nat) : Int), .int .i64 E]) ∧ Below v.heap.size v w') := fun v hv => Older_any h v a0 n0 c0 F0 a1 n1 c1 F1 (h0.below hv) (h1.below hv) kd ix 0 E hF y0 y1 hy0 hy1
  unfold AnsF slv at HNE
  by_cases eC : E = 0
  · subst eC
    have hx : x = 0 := erQ_zero (erT_zero (erC_zero hE).1).1
    have hT := (erT_zero (erC_zero hE).1)
    subst hx
    obtain ⟨i0, hi0⟩ : ∃ i0, isS N c n0 F0 = i0 := ⟨_, rfl⟩
    obtain ⟨i1, hi1⟩ : ∃ i1, isS N c n1 F1 = i1 := ⟨_, rfl⟩
    obtain ⟨a, ha⟩ : ∃ a, slQ i0 N c F0 = a := ⟨_, rfl⟩
    obtain ⟨b, hb⟩ : ∃ b, slQ i1 N c F1 = b := ⟨_, rfl⟩
    have hq : ∀ n F, isQ 0 N c n F = isS N c n F := fun n F => by unfold isQ; rw [decide_eq_true rfl, Bool.true_and]
    have HP0 : Hid (∀ v, Below w.heap.size w v → Calls Try.prog 17 #[.agg #[.int .i64 k, .int .i64 r, .int .i64 c, .int .i64 q], .slice a0 n0 c0] v (AnsP v 0 i0 a)) := fun v hv => Parse_any h v a0 n0 c0 F0 (h0.below hv) 0 hT.1 i0 ((hq _ _).trans hi0) a ha
    have HP1 : Hid (∀ v, Below w.heap.size w v → Calls Try.prog 17 #[.agg #[.int .i64 k, .int .i64 r, .int .i64 c, .int .i64 q], .slice a1 n1 c1] v (AnsP v 0 i1 b)) := fun v hv => Parse_any h v a1 n1 c1 F1 (h1.below hv) 0 hT.2 i1 ((hq _ _).trans hi1) b hb
    have HFI : Hid (∀ t, 1 ≤ t → t ≤ 1073741824 → ∀ v, Below w.heap.size w v → Calls Try.prog 8 #[.agg #[.int .i64 k, .int .i64 r, .int .i64 c, .int .i64 q], .agg #[.slice a0 n0 c0, .slice a1 n1 c1], .int .u8 ((kd.toNat : Nat) : Int), .int .i64 ix, .int .i64 t] v (AnsF v 0 (fN y0 y1 kd t) (fZ y0 y1 kd t) (fB y0 y1 kd t))) := fun t t1 t2 v hv => Find_any h v a0 n0 c0 F0 a1 n1 c1 F1 (h0.below hv) (h1.below hv) kd ix t 0 (by unfold erF; rw [hE, if_pos rfl, if_pos ⟨t1, t2⟩]) y0 y1 hy0 hy1
    have HT0 := sl_tests kd hi0 ha hy0
    have HT1 := sl_tests kd hi1 hb hy1
    clear h hE hF hy0 hy1 hq hT hi0 hi1 ha hb h0 h1
    unfold AnsP slv at HP0 HP1
    unfold AnsF slv at HFI
    have HGZ : Hid ((ofK kd y0).ce ≤ (gZ y0 y1 kd).ce ∧ (ofK kd y1).ce ≤ (gZ y0 y1 kd).ce) := gZ_le y0 y1 kd
    have HOZ : Hid (oN y0 y1 kd 0 = if y1.ce < y0.ce then 1 else 0) := oN_zero y0 y1 kd
    have HNF : Hid (¬ (gZ y0 y1 kd).ce = 0 → fN y0 y1 kd (gZ y0 y1 kd).ce = gN y0 y1 kd ∧ (fZ y0 y1 kd (gZ y0 y1 kd).ce).ce = (gZ y0 y1 kd).ce ∧ fB y0 y1 kd (gZ y0 y1 kd).ce = true) := new_find
    have HGB : Hid (gB y0 y1 kd = decide (¬ (gZ y0 y1 kd).ce = 0)) := rfl
    have HGG : Hid (gZ y0 y1 kd = ofK kd y1 ∨ gZ y0 y1 kd = ofK kd y0) := by show _ ∨ _; unfold gZ; split; exact .inl rfl; exact .inr rfl
    obtain ⟨z, hz⟩ : ∃ z, z = gZ y0 y1 kd := ⟨_, rfl⟩
    obtain ⟨gn, hgn⟩ : ∃ gn, gn = gN y0 y1 kd := ⟨_, rfl⟩
    obtain ⟨gb, hgb⟩ : ∃ gb, gb = gB y0 y1 kd := ⟨_, rfl⟩
    obtain ⟨on, hon⟩ : ∃ on, on = oN y0 y1 kd 0 := ⟨_, rfl⟩
    rw [← hz, ← hgn, ← hgb] at HNE
    rw [← hon] at HOL HOZ
    rw [← hz] at HGZ HNF HGB HGG
    rw [← hgn] at HNF
    rw [← hgb] at HGB
    clear hz hgn hgb hon
    go_enter Try.func5, Try.ntmps5
    go_wp2_with fail
    rw [← hw0, ← hw1]
    clear hw0 bw0 zw0 hw1 bw1 zw1
    refine (awake_any _).mono ?_
    rintro e wa ⟨rfl, ha⟩
    have HA : Hid (Below w1.heap.size w1 wa) := ha
    clear ha
    have q0 := Lw0.out wa HA.out
    have q1 := Lw1.out wa HA.out
    have p0 := q0.cell (i := 0) rfl
    have p1 := q0.cell (i := 1) rfl
    have p2 := q0.cell (i := 2) rfl
    have p3 := q0.cell (i := 3) rfl
    have r0 := q1.cell (i := 0) rfl
    have r1 := q1.cell (i := 1) rfl
    clear q0 q1
    go_wp2_with fail
    refine (HNE.out _ (below_then Bw.out HA.out)).mono ?_
    rintro e wb ⟨zo, zc, yo, yc, rfl, _, hb⟩
    have HB : Hid (Below w1.heap.size w1 wb) := below_then HA.out hb
    clear hb HA HNE p0 p1 p2 p3 r0 r1
    obtain ⟨wc, hwc⟩ : ∃ wc, wc = wb.alloc (.cells #[.int .u8 ((z.kd.toNat : Nat) : Int), .int .i64 z.ix, .int .i64 z.ce, .int .i64 z.st, .slice zo z.vn zc, .slice yo z.dn yc] 31) := ⟨_, rfl⟩
    have HC : Hid (Below w1.heap.size w1 wc) := by show Below _ _ _; rw [hwc]; exact b_alloc HB.out _
    have HTZ : Hid (At w1 wc wb.heap.size #[.int .u8 ((z.kd.toNat : Nat) : Int), .int .i64 z.ix, .int .i64 z.ce, .int .i64 z.st, .slice zo z.vn zc, .slice yo z.dn yc] 31) := at_made HB.out hwc
    have q0 := Lw0.out wb HB.out
    have q1 := Lw1.out wb HB.out
    have p0 := fun o => (q0.alloc o).cell (i := 0) rfl
    have p1 := fun o => (q0.alloc o).cell (i := 1) rfl
    have p2 := fun o => (q0.alloc o).cell (i := 2) rfl
    have p3 := fun o => (q0.alloc o).cell (i := 3) rfl
    have r0 := fun o => (q1.alloc o).cell (i := 0) rfl
    have r1 := fun o => (q1.alloc o).cell (i := 1) rfl
    clear q0 q1
    go_wp2_with fail
    rw [← hwc]
    clear hwc
    refine (HOL.out _ (below_then Bw.out HC.out)).mono ?_
    rintro e wd ⟨rfl, hd⟩
    have HD : Hid (Below w1.heap.size w1 wd) := below_then HC.out hd
    have HTD : Hid (At w1 wd wb.heap.size #[.int .u8 ((z.kd.toNat : Nat) : Int), .int .i64 z.ix, .int .i64 z.ce, .int .i64 z.st, .slice zo z.vn zc, .slice yo z.dn yc] 31) := HTZ.out.below hd
    clear hd HC HTZ HOL p0 p1 p2 p3 r0 r1
    have q0 := Lw0.out wd HD.out
    have q1 := Lw1.out wd HD.out
    have p0 := q0.cell (i := 0) rfl
    have p1 := q0.cell (i := 1) rfl
    have p2 := q0.cell (i := 2) rfl
    have p3 := q0.cell (i := 3) rfl
    have r0 := q1.cell (i := 0) rfl
    have r1 := q1.cell (i := 1) rfl
    clear q0 q1
    go_wp2_with fail
    refine (HP0.out _ (below_then Bw.out HD.out)).mono ?_
    rintro e we ⟨ao, ca, bo, cb, rfl, _, he⟩
    have HE : Hid (Below w1.heap.size w1 we) := below_then HD.out he
    have HTE : Hid (At w1 we wb.heap.size #[.int .u8 ((z.kd.toNat : Nat) : Int), .int .i64 z.ix, .int .i64 z.ce, .int .i64 z.st, .slice zo z.vn zc, .slice yo z.dn yc] 31) := HTD.out.below he
    clear he HD HTD HP0 p0 p1 p2 p3 r0 r1
    obtain ⟨wf, hwf⟩ : ∃ wf, wf = we.alloc (.cells #[.int .u8 ((a.kd.toNat : Nat) : Int), .int .i64 a.ix, .int .i64 a.ce, .int .i64 a.st, .slice ao a.vn ca, .slice bo a.dn cb] 31) := ⟨_, rfl⟩
    have HF : Hid (Below w1.heap.size w1 wf) := by show Below _ _ _; rw [hwf]; exact b_alloc HE.out _
    have HTF : Hid (At w1 wf wb.heap.size #[.int .u8 ((z.kd.toNat : Nat) : Int), .int .i64 z.ix, .int .i64 z.ce, .int .i64 z.st, .slice zo z.vn zc, .slice yo z.dn yc] 31) := by show At _ _ _ _ _; rw [hwf]; exact HTE.out.alloc _
    have HAF : Hid (At w1 wf we.heap.size #[.int .u8 ((a.kd.toNat : Nat) : Int), .int .i64 a.ix, .int .i64 a.ce, .int .i64 a.st, .slice ao a.vn ca, .slice bo a.dn cb] 31) := at_made HE.out hwf
    have q0 := Lw0.out we HE.out
    have q1 := Lw1.out we HE.out
    have p0 := fun o => (q0.alloc o).cell (i := 0) rfl
    have p1 := fun o => (q0.alloc o).cell (i := 1) rfl
    have p2 := fun o => (q0.alloc o).cell (i := 2) rfl
    have p3 := fun o => (q0.alloc o).cell (i := 3) rfl
    have r0 := fun o => (q1.alloc o).cell (i := 0) rfl
    have r1 := fun o => (q1.alloc o).cell (i := 1) rfl
    clear q0 q1
    go_wp2_with fail
    rw [← hwf]
    clear hwf HE HTE
    refine (HP1.out _ (below_then Bw.out HF.out)).mono ?_
    rintro e wg ⟨ao', ca', bo', cb', rfl, _, hg⟩
    have HG : Hid (Below w1.heap.size w1 wg) := below_then HF.out hg
    have HTG : Hid (At w1 wg wb.heap.size #[.int .u8 ((z.kd.toNat : Nat) : Int), .int .i64 z.ix, .int .i64 z.ce, .int .i64 z.st, .slice zo z.vn zc, .slice yo z.dn yc] 31) := HTF.out.below hg
    have HAG : Hid (At w1 wg we.heap.size #[.int .u8 ((a.kd.toNat : Nat) : Int), .int .i64 a.ix, .int .i64 a.ce, .int .i64 a.st, .slice ao a.vn ca, .slice bo a.dn cb] 31) := HAF.out.below hg
    clear hg HF HTF HAF HP1 p0 p1 p2 p3 r0 r1
    obtain ⟨wh, hwh⟩ : ∃ wh, wh = wg.alloc (.cells #[.int .u8 ((b.kd.toNat : Nat) : Int), .int .i64 b.ix, .int .i64 b.ce, .int .i64 b.st, .slice ao' b.vn ca', .slice bo' b.dn cb'] 31) := ⟨_, rfl⟩
    have HH : Hid (Below w1.heap.size w1 wh) := by show Below _ _ _; rw [hwh]; exact b_alloc HG.out _
    have HTH : Hid (At w1 wh wb.heap.size #[.int .u8 ((z.kd.toNat : Nat) : Int), .int .i64 z.ix, .int .i64 z.ce, .int .i64 z.st, .slice zo z.vn zc, .slice yo z.dn yc] 31) := by show At _ _ _ _ _; rw [hwh]; exact HTG.out.alloc _
    have HAH : Hid (At w1 wh we.heap.size #[.int .u8 ((a.kd.toNat : Nat) : Int), .int .i64 a.ix, .int .i64 a.ce, .int .i64 a.st, .slice ao a.vn ca, .slice bo a.dn cb] 31) := by show At _ _ _ _ _; rw [hwh]; exact HAG.out.alloc _
    have HBH : Hid (At w1 wh wg.heap.size #[.int .u8 ((b.kd.toNat : Nat) : Int), .int .i64 b.ix, .int .i64 b.ce, .int .i64 b.st, .slice ao' b.vn ca', .slice bo' b.dn cb'] 31) := at_made HG.out hwh
    rcases HT0 with ⟨s0, s1, s2⟩ | ⟨s0, s3, s1, s2⟩ | ⟨s0, s3, s4, s1, s2, s5, s6⟩ | ⟨s0, s3, s4, s1, s2, ⟨s5, s6⟩, s7⟩
    · rcases HT1 with ⟨t0, t1, t2⟩ | ⟨t0, t3, t1, t2⟩ | ⟨t0, t3, t4, t1, t2, t5, t6⟩ | ⟨t0, t3, t4, t1, t2, ⟨t5, t6⟩, t7⟩
      · skip
        have ho : on = 0 := by rw [HOZ.out, s1]; exact if_neg (by show ¬ _ < (0 : Int); rw [t1]; exact Int.lt_irrefl _)
        have hgz := HGZ.out
        rw [s2, t2] at hgz
        have hgg := HGG.out
        rw [s2, t2] at hgg
        have hzz : z = zSl := by rcases hgg with h | h <;> exact h
        have hb0 : gb = false := by rw [HGB.out, hzz]; rfl
        subst ho hb0
        subst s0 t0
        clear s1 s2 t1 t2 hgz hgg HGZ HOZ HGB HGG hzz HNF
        have qz := HTG.out
        have qa := HAG.out
        have z2 := fun o => (qz.alloc o).cell (i := 2) rfl
        have a0 := fun o => (qa.alloc o).cell (i := 0) rfl
        have a1 := fun o => (qa.alloc o).cell (i := 1) rfl
        have a2 := fun o => (qa.alloc o).cell (i := 2) rfl
        clear qz qa
        go_wp2_with fail
        go_ret
        exact ⟨rfl, below_then Bw.out (by rw [← hwh]; exact HH.out)⟩
      · skip
        have ho : on = 0 := by rw [HOZ.out, s1]; exact if_neg (by show ¬ _ < (0 : Int); rw [t1]; exact Int.lt_irrefl _)
        have hgz := HGZ.out
        rw [s2, t2] at hgz
        have hgg := HGG.out
        rw [s2, t2] at hgg
        have hzz : z = zSl := by rcases hgg with h | h <;> exact h
        have hb0 : gb = false := by rw [HGB.out, hzz]; rfl
        subst ho hb0
        subst s0 t0
        clear s1 s2 t1 t2 hgz hgg HGZ HOZ HGB HGG hzz HNF
        have qz := HTG.out
        have qa := HAG.out
        have z2 := fun o => (qz.alloc o).cell (i := 2) rfl
        have a0 := fun o => (qa.alloc o).cell (i := 0) rfl
        have a1 := fun o => (qa.alloc o).cell (i := 1) rfl
        have a2 := fun o => (qa.alloc o).cell (i := 2) rfl
        clear qz qa
        go_wp2_with fail
        go_ret
        exact ⟨rfl, below_then Bw.out (by rw [← hwh]; exact HH.out)⟩
      · skip
        have ho : on = 0 := by rw [HOZ.out, s1]; exact if_neg (by show ¬ _ < (0 : Int); rw [t1]; omega)
        have hgz := HGZ.out
        rw [s2, t2] at hgz
        have hgg := HGG.out
        rw [s2, t2] at hgg
        have hzz : z = zSl := by rcases hgg with h | h <;> exact h
        have hb0 : gb = false := by rw [HGB.out, hzz]; rfl
        subst ho hb0
        subst s0 t0
        clear s1 s2 t1 t2 t5 t6 hgz hgg HGZ HOZ HGB HGG hzz HNF
        have qz := HTG.out
        have qa := HAG.out
        have z2 := fun o => (qz.alloc o).cell (i := 2) rfl
        have a0 := fun o => (qa.alloc o).cell (i := 0) rfl
        have a1 := fun o => (qa.alloc o).cell (i := 1) rfl
        have a2 := fun o => (qa.alloc o).cell (i := 2) rfl
        clear qz qa
        go_wp2_with fail
        go_ret
        exact ⟨rfl, below_then Bw.out (by rw [← hwh]; exact HH.out)⟩
      · skip
        have ho : on = 0 := by rw [HOZ.out, s1]; exact if_neg (by show ¬ _ < (0 : Int); rw [t1]; omega)
        have hgz := HGZ.out
        rw [s2, t2] at hgz
        have hgg := HGG.out
        rw [s2, t2] at hgg
        have hz1 : 1 ≤ z.ce := by have := hgz.2; omega
        have hz2 : z.ce ≤ 1073741824 := by
          rcases hgg with h | h
          · rw [h]; omega
          · rw [h]; show (0 : Int) ≤ _; decide
        have hnf := HNF.out (by omega)
        have hb0 : gb = true := by rw [HGB.out]; exact decide_eq_true (by omega)
        subst ho hb0
        have hle1 : b.ce ≤ z.ce := hgz.2
        subst s0 t0
        clear s1 s2 t1 t2 t5 t6 t7 hgz hgg HGZ HOZ HGB HGG HNF
        have qz := HTG.out
        have qa := HAG.out
        have z2 := fun o => (qz.alloc o).cell (i := 2) rfl
        have a0 := fun o => (qa.alloc o).cell (i := 0) rfl
        have a1 := fun o => (qa.alloc o).cell (i := 1) rfl
        have a2 := fun o => (qa.alloc o).cell (i := 2) rfl
        have q0 := Lw0.out wg HG.out
        have q1 := Lw1.out wg HG.out
        have p0 := fun o => (q0.alloc o).cell (i := 0) rfl
        have p1 := fun o => (q0.alloc o).cell (i := 1) rfl
        have p2 := fun o => (q0.alloc o).cell (i := 2) rfl
        have p3 := fun o => (q0.alloc o).cell (i := 3) rfl
        have r0 := fun o => (q1.alloc o).cell (i := 0) rfl
        have r1 := fun o => (q1.alloc o).cell (i := 1) rfl
        clear q0 q1
        clear qz qa
        go_wp2_with fail
        rw [← hwh]
        clear hwh z2 a0 a1 a2 p0 p1 p2 p3 r0 r1
        refine (HFI.out z.ce hz1 hz2 _ (below_then Bw.out HH.out)).mono ?_
        rintro e wi ⟨to, tc, uo, uc, rfl, _, hi⟩
        obtain ⟨f1, f2, f3⟩ := hnf
        obtain ⟨t, ht⟩ : ∃ t, t = fZ y0 y1 kd z.ce := ⟨_, rfl⟩
        rw [f1, f3, ← ht]
        rw [← ht] at f2
        have f4 : (t.ce != z.ce) = false := by rw [f2]; simp
        have HI : Hid (Below w1.heap.size w1 wi) := below_then HH.out hi
        have qz := HTH.out.below hi
        have qa := HAH.out.below hi
        have qb := HBH.out.below hi
        clear f1 f2 f3 ht hi
        have z2 := fun o => (qz.alloc o).cell (i := 2) rfl
        have a2 := fun o => (qa.alloc o).cell (i := 2) rfl
        have b2 := fun o => (qb.alloc o).cell (i := 2) rfl
        clear qz qa qb
        go_wp2_with fail
        go_ret
        exact ⟨rfl, below_then Bw.out (b_alloc HI.out _)⟩
    · rcases HT1 with ⟨t0, t1, t2⟩ | ⟨t0, t3, t1, t2⟩ | ⟨t0, t3, t4, t1, t2, t5, t6⟩ | ⟨t0, t3, t4, t1, t2, ⟨t5, t6⟩, t7⟩
      · skip
        have ho : on = 0 := by rw [HOZ.out, s1]; exact if_neg (by show ¬ _ < (0 : Int); rw [t1]; exact Int.lt_irrefl _)
        have hgz := HGZ.out
        rw [s2, t2] at hgz
        have hgg := HGG.out
        rw [s2, t2] at hgg
        have hzz : z = zSl := by rcases hgg with h | h <;> exact h
        have hb0 : gb = false := by rw [HGB.out, hzz]; rfl
        subst ho hb0
        subst s0 t0
        clear s1 s2 t1 t2 hgz hgg HGZ HOZ HGB HGG hzz HNF
        have qz := HTG.out
        have qa := HAG.out
        have z2 := fun o => (qz.alloc o).cell (i := 2) rfl
        have a0 := fun o => (qa.alloc o).cell (i := 0) rfl
        have a1 := fun o => (qa.alloc o).cell (i := 1) rfl
        have a2 := fun o => (qa.alloc o).cell (i := 2) rfl
        clear qz qa
        go_wp2_with fail
        go_ret
        exact ⟨rfl, below_then Bw.out (by rw [← hwh]; exact HH.out)⟩
      · skip
        have ho : on = 0 := by rw [HOZ.out, s1]; exact if_neg (by show ¬ _ < (0 : Int); rw [t1]; exact Int.lt_irrefl _)
        have hgz := HGZ.out
        rw [s2, t2] at hgz
        have hgg := HGG.out
        rw [s2, t2] at hgg
        have hzz : z = zSl := by rcases hgg with h | h <;> exact h
        have hb0 : gb = false := by rw [HGB.out, hzz]; rfl
        subst ho hb0
        subst s0 t0
        clear s1 s2 t1 t2 hgz hgg HGZ HOZ HGB HGG hzz HNF
        have qz := HTG.out
        have qa := HAG.out
        have z2 := fun o => (qz.alloc o).cell (i := 2) rfl
        have a0 := fun o => (qa.alloc o).cell (i := 0) rfl
        have a1 := fun o => (qa.alloc o).cell (i := 1) rfl
        have a2 := fun o => (qa.alloc o).cell (i := 2) rfl
        clear qz qa
        go_wp2_with fail
        go_ret
        exact ⟨rfl, below_then Bw.out (by rw [← hwh]; exact HH.out)⟩
      · skip
        have ho : on = 0 := by rw [HOZ.out, s1]; exact if_neg (by show ¬ _ < (0 : Int); rw [t1]; omega)
        have hgz := HGZ.out
        rw [s2, t2] at hgz
        have hgg := HGG.out
        rw [s2, t2] at hgg
        have hzz : z = zSl := by rcases hgg with h | h <;> exact h
        have hb0 : gb = false := by rw [HGB.out, hzz]; rfl
        subst ho hb0
        subst s0 t0
        clear s1 s2 t1 t2 t5 t6 hgz hgg HGZ HOZ HGB HGG hzz HNF
        have qz := HTG.out
        have qa := HAG.out
        have z2 := fun o => (qz.alloc o).cell (i := 2) rfl
        have a0 := fun o => (qa.alloc o).cell (i := 0) rfl
        have a1 := fun o => (qa.alloc o).cell (i := 1) rfl
        have a2 := fun o => (qa.alloc o).cell (i := 2) rfl
        clear qz qa
        go_wp2_with fail
        go_ret
        exact ⟨rfl, below_then Bw.out (by rw [← hwh]; exact HH.out)⟩
      · skip
        have ho : on = 0 := by rw [HOZ.out, s1]; exact if_neg (by show ¬ _ < (0 : Int); rw [t1]; omega)
        have hgz := HGZ.out
        rw [s2, t2] at hgz
        have hgg := HGG.out
        rw [s2, t2] at hgg
        have hz1 : 1 ≤ z.ce := by have := hgz.2; omega
        have hz2 : z.ce ≤ 1073741824 := by
          rcases hgg with h | h
          · rw [h]; omega
          · rw [h]; show (0 : Int) ≤ _; decide
        have hnf := HNF.out (by omega)
        have hb0 : gb = true := by rw [HGB.out]; exact decide_eq_true (by omega)
        subst ho hb0
        have hle1 : b.ce ≤ z.ce := hgz.2
        subst s0 t0
        clear s1 s2 t1 t2 t5 t6 t7 hgz hgg HGZ HOZ HGB HGG HNF
        have qz := HTG.out
        have qa := HAG.out
        have z2 := fun o => (qz.alloc o).cell (i := 2) rfl
        have a0 := fun o => (qa.alloc o).cell (i := 0) rfl
        have a1 := fun o => (qa.alloc o).cell (i := 1) rfl
        have a2 := fun o => (qa.alloc o).cell (i := 2) rfl
        have q0 := Lw0.out wg HG.out
        have q1 := Lw1.out wg HG.out
        have p0 := fun o => (q0.alloc o).cell (i := 0) rfl
        have p1 := fun o => (q0.alloc o).cell (i := 1) rfl
        have p2 := fun o => (q0.alloc o).cell (i := 2) rfl
        have p3 := fun o => (q0.alloc o).cell (i := 3) rfl
        have r0 := fun o => (q1.alloc o).cell (i := 0) rfl
        have r1 := fun o => (q1.alloc o).cell (i := 1) rfl
        clear q0 q1
        clear qz qa
        go_wp2_with fail
        rw [← hwh]
        clear hwh z2 a0 a1 a2 p0 p1 p2 p3 r0 r1
        refine (HFI.out z.ce hz1 hz2 _ (below_then Bw.out HH.out)).mono ?_
        rintro e wi ⟨to, tc, uo, uc, rfl, _, hi⟩
        obtain ⟨f1, f2, f3⟩ := hnf
        obtain ⟨t, ht⟩ : ∃ t, t = fZ y0 y1 kd z.ce := ⟨_, rfl⟩
        rw [f1, f3, ← ht]
        rw [← ht] at f2
        have f4 : (t.ce != z.ce) = false := by rw [f2]; simp
        have HI : Hid (Below w1.heap.size w1 wi) := below_then HH.out hi
        have qz := HTH.out.below hi
        have qa := HAH.out.below hi
        have qb := HBH.out.below hi
        clear f1 f2 f3 ht hi
        have z2 := fun o => (qz.alloc o).cell (i := 2) rfl
        have a2 := fun o => (qa.alloc o).cell (i := 2) rfl
        have b2 := fun o => (qb.alloc o).cell (i := 2) rfl
        clear qz qa qb
        go_wp2_with fail
        go_ret
        exact ⟨rfl, below_then Bw.out (b_alloc HI.out _)⟩
    · rcases HT1 with ⟨t0, t1, t2⟩ | ⟨t0, t3, t1, t2⟩ | ⟨t0, t3, t4, t1, t2, t5, t6⟩ | ⟨t0, t3, t4, t1, t2, ⟨t5, t6⟩, t7⟩
      · skip
        have ho : on = 1 := by rw [HOZ.out, s1, t1]; exact if_pos (by show (0 : Int) < _; omega)
        have hgz := HGZ.out
        rw [s2, t2] at hgz
        have hgg := HGG.out
        rw [s2, t2] at hgg
        have hzz : z = zSl := by rcases hgg with h | h <;> exact h
        have hb0 : gb = false := by rw [HGB.out, hzz]; rfl
        subst ho hb0
        subst s0 t0
        clear s1 s2 s5 s6 t1 t2 hgz hgg HGZ HOZ HGB HGG hzz HNF
        have qz := HTG.out
        have qa := HAG.out
        have z2 := fun o => (qz.alloc o).cell (i := 2) rfl
        have a0 := fun o => (qa.alloc o).cell (i := 0) rfl
        have a1 := fun o => (qa.alloc o).cell (i := 1) rfl
        have a2 := fun o => (qa.alloc o).cell (i := 2) rfl
        clear qz qa
        go_wp2_with fail
        go_ret
        exact ⟨rfl, below_then Bw.out (by rw [← hwh]; exact HH.out)⟩
      · skip
        have ho : on = 1 := by rw [HOZ.out, s1, t1]; exact if_pos (by show (0 : Int) < _; omega)
        have hgz := HGZ.out
        rw [s2, t2] at hgz
        have hgg := HGG.out
        rw [s2, t2] at hgg
        have hzz : z = zSl := by rcases hgg with h | h <;> exact h
        have hb0 : gb = false := by rw [HGB.out, hzz]; rfl
        subst ho hb0
        subst s0 t0
        clear s1 s2 s5 s6 t1 t2 hgz hgg HGZ HOZ HGB HGG hzz HNF
        have qz := HTG.out
        have qa := HAG.out
        have z2 := fun o => (qz.alloc o).cell (i := 2) rfl
        have a0 := fun o => (qa.alloc o).cell (i := 0) rfl
        have a1 := fun o => (qa.alloc o).cell (i := 1) rfl
        have a2 := fun o => (qa.alloc o).cell (i := 2) rfl
        clear qz qa
        go_wp2_with fail
        go_ret
        exact ⟨rfl, below_then Bw.out (by rw [← hwh]; exact HH.out)⟩
      · skip
        by_cases hab : a.ce ≤ b.ce
        · skip
          have ho : on = 0 := by rw [HOZ.out, s1, t1]; exact if_neg (by omega)
          have hd : a.ce ≤ b.ce := hab
          have hgz := HGZ.out
          rw [s2, t2] at hgz
          have hgg := HGG.out
          rw [s2, t2] at hgg
          have hzz : z = zSl := by rcases hgg with h | h <;> exact h
          have hb0 : gb = false := by rw [HGB.out, hzz]; rfl
          subst ho hb0
          subst s0 t0
          clear s1 s2 s5 s6 t1 t2 t5 t6 hgz hgg HGZ HOZ HGB HGG hzz hab HNF
          have qz := HTG.out
          have qa := HAG.out
          have z2 := fun o => (qz.alloc o).cell (i := 2) rfl
          have a0 := fun o => (qa.alloc o).cell (i := 0) rfl
          have a1 := fun o => (qa.alloc o).cell (i := 1) rfl
          have a2 := fun o => (qa.alloc o).cell (i := 2) rfl
          clear qz qa
          go_wp2_with fail
          go_ret
          exact ⟨rfl, below_then Bw.out (by rw [← hwh]; exact HH.out)⟩

        · skip
          have ho : on = 1 := by rw [HOZ.out, s1, t1]; exact if_pos (by omega)
          have hd : ¬ a.ce ≤ b.ce := hab
          have hgz := HGZ.out
          rw [s2, t2] at hgz
          have hgg := HGG.out
          rw [s2, t2] at hgg
          have hzz : z = zSl := by rcases hgg with h | h <;> exact h
          have hb0 : gb = false := by rw [HGB.out, hzz]; rfl
          subst ho hb0
          subst s0 t0
          clear s1 s2 s5 s6 t1 t2 t5 t6 hgz hgg HGZ HOZ HGB HGG hzz hab HNF
          have qz := HTG.out
          have qa := HAG.out
          have z2 := fun o => (qz.alloc o).cell (i := 2) rfl
          have a0 := fun o => (qa.alloc o).cell (i := 0) rfl
          have a1 := fun o => (qa.alloc o).cell (i := 1) rfl
          have a2 := fun o => (qa.alloc o).cell (i := 2) rfl
          clear qz qa
          go_wp2_with fail
          go_ret
          exact ⟨rfl, below_then Bw.out (by rw [← hwh]; exact HH.out)⟩
      · skip
        by_cases hab : a.ce ≤ b.ce
        · skip
          have ho : on = 0 := by rw [HOZ.out, s1, t1]; exact if_neg (by omega)
          have hd : a.ce ≤ b.ce := hab
          have hgz := HGZ.out
          rw [s2, t2] at hgz
          have hgg := HGG.out
          rw [s2, t2] at hgg
          have hz1 : 1 ≤ z.ce := by have := hgz.2; omega
          have hz2 : z.ce ≤ 1073741824 := by
            rcases hgg with h | h
            · rw [h]; omega
            · rw [h]; show (0 : Int) ≤ _; decide
          have hnf := HNF.out (by omega)
          have hb0 : gb = true := by rw [HGB.out]; exact decide_eq_true (by omega)
          subst ho hb0
          have hle1 : b.ce ≤ z.ce := hgz.2
          subst s0 t0
          clear s1 s2 s5 s6 t1 t2 t5 t6 t7 hgz hgg HGZ HOZ HGB HGG hab HNF
          have qz := HTG.out
          have qa := HAG.out
          have z2 := fun o => (qz.alloc o).cell (i := 2) rfl
          have a0 := fun o => (qa.alloc o).cell (i := 0) rfl
          have a1 := fun o => (qa.alloc o).cell (i := 1) rfl
          have a2 := fun o => (qa.alloc o).cell (i := 2) rfl
          have q0 := Lw0.out wg HG.out
          have q1 := Lw1.out wg HG.out
          have p0 := fun o => (q0.alloc o).cell (i := 0) rfl
          have p1 := fun o => (q0.alloc o).cell (i := 1) rfl
          have p2 := fun o => (q0.alloc o).cell (i := 2) rfl
          have p3 := fun o => (q0.alloc o).cell (i := 3) rfl
          have r0 := fun o => (q1.alloc o).cell (i := 0) rfl
          have r1 := fun o => (q1.alloc o).cell (i := 1) rfl
          clear q0 q1
          clear qz qa
          go_wp2_with fail
          rw [← hwh]
          clear hwh z2 a0 a1 a2 p0 p1 p2 p3 r0 r1
          refine (HFI.out z.ce hz1 hz2 _ (below_then Bw.out HH.out)).mono ?_
          rintro e wi ⟨to, tc, uo, uc, rfl, _, hi⟩
          obtain ⟨f1, f2, f3⟩ := hnf
          obtain ⟨t, ht⟩ : ∃ t, t = fZ y0 y1 kd z.ce := ⟨_, rfl⟩
          rw [f1, f3, ← ht]
          rw [← ht] at f2
          have f4 : (t.ce != z.ce) = false := by rw [f2]; simp
          have HI : Hid (Below w1.heap.size w1 wi) := below_then HH.out hi
          have qz := HTH.out.below hi
          have qa := HAH.out.below hi
          have qb := HBH.out.below hi
          clear f1 f2 f3 ht hi
          have z2 := fun o => (qz.alloc o).cell (i := 2) rfl
          have a2 := fun o => (qa.alloc o).cell (i := 2) rfl
          have b2 := fun o => (qb.alloc o).cell (i := 2) rfl
          clear qz qa qb
          go_wp2_with fail
          go_ret
          exact ⟨rfl, below_then Bw.out (b_alloc HI.out _)⟩

        · skip
          have ho : on = 1 := by rw [HOZ.out, s1, t1]; exact if_pos (by omega)
          have hd : ¬ a.ce ≤ b.ce := hab
          have hgz := HGZ.out
          rw [s2, t2] at hgz
          have hgg := HGG.out
          rw [s2, t2] at hgg
          have hz1 : 1 ≤ z.ce := by have := hgz.2; omega
          have hz2 : z.ce ≤ 1073741824 := by
            rcases hgg with h | h
            · rw [h]; omega
            · rw [h]; show (0 : Int) ≤ _; decide
          have hnf := HNF.out (by omega)
          have hb0 : gb = true := by rw [HGB.out]; exact decide_eq_true (by omega)
          subst ho hb0
          have hle1 : b.ce ≤ z.ce := hgz.2
          subst s0 t0
          clear s1 s2 s5 s6 t1 t2 t5 t6 t7 hgz hgg HGZ HOZ HGB HGG hab HNF
          have qz := HTG.out
          have qa := HAG.out
          have z2 := fun o => (qz.alloc o).cell (i := 2) rfl
          have a0 := fun o => (qa.alloc o).cell (i := 0) rfl
          have a1 := fun o => (qa.alloc o).cell (i := 1) rfl
          have a2 := fun o => (qa.alloc o).cell (i := 2) rfl
          have q0 := Lw0.out wg HG.out
          have q1 := Lw1.out wg HG.out
          have p0 := fun o => (q0.alloc o).cell (i := 0) rfl
          have p1 := fun o => (q0.alloc o).cell (i := 1) rfl
          have p2 := fun o => (q0.alloc o).cell (i := 2) rfl
          have p3 := fun o => (q0.alloc o).cell (i := 3) rfl
          have r0 := fun o => (q1.alloc o).cell (i := 0) rfl
          have r1 := fun o => (q1.alloc o).cell (i := 1) rfl
          clear q0 q1
          clear qz qa
          go_wp2_with fail
          rw [← hwh]
          clear hwh z2 a0 a1 a2 p0 p1 p2 p3 r0 r1
          refine (HFI.out z.ce hz1 hz2 _ (below_then Bw.out HH.out)).mono ?_
          rintro e wi ⟨to, tc, uo, uc, rfl, _, hi⟩
          obtain ⟨f1, f2, f3⟩ := hnf
          obtain ⟨t, ht⟩ : ∃ t, t = fZ y0 y1 kd z.ce := ⟨_, rfl⟩
          rw [f1, f3, ← ht]
          rw [← ht] at f2
          have f4 : (t.ce != z.ce) = false := by rw [f2]; simp
          have HI : Hid (Below w1.heap.size w1 wi) := below_then HH.out hi
          have qz := HTH.out.below hi
          have qa := HAH.out.below hi
          have qb := HBH.out.below hi
          clear f1 f2 f3 ht hi
          have z2 := fun o => (qz.alloc o).cell (i := 2) rfl
          have a2 := fun o => (qa.alloc o).cell (i := 2) rfl
          have b2 := fun o => (qb.alloc o).cell (i := 2) rfl
          clear qz qa qb
          go_wp2_with fail
          go_ret
          exact ⟨rfl, below_then Bw.out (b_alloc HI.out _)⟩
    · rcases HT1 with ⟨t0, t1, t2⟩ | ⟨t0, t3, t1, t2⟩ | ⟨t0, t3, t4, t1, t2, t5, t6⟩ | ⟨t0, t3, t4, t1, t2, ⟨t5, t6⟩, t7⟩
      · skip
        have ho : on = 1 := by rw [HOZ.out, s1, t1]; exact if_pos (by show (0 : Int) < _; omega)
        have hgz := HGZ.out
        rw [s2, t2] at hgz
        have hgg := HGG.out
        rw [s2, t2] at hgg
        have hz1 : 1 ≤ z.ce := by have := hgz.1; omega
        have hz2 : z.ce ≤ 1073741824 := by
          rcases hgg with h | h
          · rw [h]; show (0 : Int) ≤ _; decide
          · rw [h]; omega
        have hnf := HNF.out (by omega)
        have hb0 : gb = true := by rw [HGB.out]; exact decide_eq_true (by omega)
        subst ho hb0
        have hle0 : a.ce ≤ z.ce := hgz.1
        subst s0 t0
        clear s1 s2 s5 s6 s7 t1 t2 hgz hgg HGZ HOZ HGB HGG HNF
        have qz := HTG.out
        have qa := HAG.out
        have z2 := fun o => (qz.alloc o).cell (i := 2) rfl
        have a0 := fun o => (qa.alloc o).cell (i := 0) rfl
        have a1 := fun o => (qa.alloc o).cell (i := 1) rfl
        have a2 := fun o => (qa.alloc o).cell (i := 2) rfl
        have q0 := Lw0.out wg HG.out
        have q1 := Lw1.out wg HG.out
        have p0 := fun o => (q0.alloc o).cell (i := 0) rfl
        have p1 := fun o => (q0.alloc o).cell (i := 1) rfl
        have p2 := fun o => (q0.alloc o).cell (i := 2) rfl
        have p3 := fun o => (q0.alloc o).cell (i := 3) rfl
        have r0 := fun o => (q1.alloc o).cell (i := 0) rfl
        have r1 := fun o => (q1.alloc o).cell (i := 1) rfl
        clear q0 q1
        clear qz qa
        go_wp2_with fail
        rw [← hwh]
        clear hwh z2 a0 a1 a2 p0 p1 p2 p3 r0 r1
        refine (HFI.out z.ce hz1 hz2 _ (below_then Bw.out HH.out)).mono ?_
        rintro e wi ⟨to, tc, uo, uc, rfl, _, hi⟩
        obtain ⟨f1, f2, f3⟩ := hnf
        obtain ⟨t, ht⟩ : ∃ t, t = fZ y0 y1 kd z.ce := ⟨_, rfl⟩
        rw [f1, f3, ← ht]
        rw [← ht] at f2
        have f4 : (t.ce != z.ce) = false := by rw [f2]; simp
        have HI : Hid (Below w1.heap.size w1 wi) := below_then HH.out hi
        have qz := HTH.out.below hi
        have qa := HAH.out.below hi
        have qb := HBH.out.below hi
        clear f1 f2 f3 ht hi
        have z2 := fun o => (qz.alloc o).cell (i := 2) rfl
        have a2 := fun o => (qa.alloc o).cell (i := 2) rfl
        have b2 := fun o => (qb.alloc o).cell (i := 2) rfl
        clear qz qa qb
        go_wp2_with fail
        go_ret
        exact ⟨rfl, below_then Bw.out (b_alloc HI.out _)⟩
      · skip
        have ho : on = 1 := by rw [HOZ.out, s1, t1]; exact if_pos (by show (0 : Int) < _; omega)
        have hgz := HGZ.out
        rw [s2, t2] at hgz
        have hgg := HGG.out
        rw [s2, t2] at hgg
        have hz1 : 1 ≤ z.ce := by have := hgz.1; omega
        have hz2 : z.ce ≤ 1073741824 := by
          rcases hgg with h | h
          · rw [h]; show (0 : Int) ≤ _; decide
          · rw [h]; omega
        have hnf := HNF.out (by omega)
        have hb0 : gb = true := by rw [HGB.out]; exact decide_eq_true (by omega)
        subst ho hb0
        have hle0 : a.ce ≤ z.ce := hgz.1
        subst s0 t0
        clear s1 s2 s5 s6 s7 t1 t2 hgz hgg HGZ HOZ HGB HGG HNF
        have qz := HTG.out
        have qa := HAG.out
        have z2 := fun o => (qz.alloc o).cell (i := 2) rfl
        have a0 := fun o => (qa.alloc o).cell (i := 0) rfl
        have a1 := fun o => (qa.alloc o).cell (i := 1) rfl
        have a2 := fun o => (qa.alloc o).cell (i := 2) rfl
        have q0 := Lw0.out wg HG.out
        have q1 := Lw1.out wg HG.out
        have p0 := fun o => (q0.alloc o).cell (i := 0) rfl
        have p1 := fun o => (q0.alloc o).cell (i := 1) rfl
        have p2 := fun o => (q0.alloc o).cell (i := 2) rfl
        have p3 := fun o => (q0.alloc o).cell (i := 3) rfl
        have r0 := fun o => (q1.alloc o).cell (i := 0) rfl
        have r1 := fun o => (q1.alloc o).cell (i := 1) rfl
        clear q0 q1
        clear qz qa
        go_wp2_with fail
        rw [← hwh]
        clear hwh z2 a0 a1 a2 p0 p1 p2 p3 r0 r1
        refine (HFI.out z.ce hz1 hz2 _ (below_then Bw.out HH.out)).mono ?_
        rintro e wi ⟨to, tc, uo, uc, rfl, _, hi⟩
        obtain ⟨f1, f2, f3⟩ := hnf
        obtain ⟨t, ht⟩ : ∃ t, t = fZ y0 y1 kd z.ce := ⟨_, rfl⟩
        rw [f1, f3, ← ht]
        rw [← ht] at f2
        have f4 : (t.ce != z.ce) = false := by rw [f2]; simp
        have HI : Hid (Below w1.heap.size w1 wi) := below_then HH.out hi
        have qz := HTH.out.below hi
        have qa := HAH.out.below hi
        have qb := HBH.out.below hi
        clear f1 f2 f3 ht hi
        have z2 := fun o => (qz.alloc o).cell (i := 2) rfl
        have a2 := fun o => (qa.alloc o).cell (i := 2) rfl
        have b2 := fun o => (qb.alloc o).cell (i := 2) rfl
        clear qz qa qb
        go_wp2_with fail
        go_ret
        exact ⟨rfl, below_then Bw.out (b_alloc HI.out _)⟩
      · skip
        by_cases hab : a.ce ≤ b.ce
        · skip
          have ho : on = 0 := by rw [HOZ.out, s1, t1]; exact if_neg (by omega)
          have hd : a.ce ≤ b.ce := hab
          have hgz := HGZ.out
          rw [s2, t2] at hgz
          have hgg := HGG.out
          rw [s2, t2] at hgg
          have hz1 : 1 ≤ z.ce := by have := hgz.1; omega
          have hz2 : z.ce ≤ 1073741824 := by
            rcases hgg with h | h
            · rw [h]; show (0 : Int) ≤ _; decide
            · rw [h]; omega
          have hnf := HNF.out (by omega)
          have hb0 : gb = true := by rw [HGB.out]; exact decide_eq_true (by omega)
          subst ho hb0
          have hle0 : a.ce ≤ z.ce := hgz.1
          subst s0 t0
          clear s1 s2 s5 s6 s7 t1 t2 t5 t6 hgz hgg HGZ HOZ HGB HGG hab HNF
          have qz := HTG.out
          have qa := HAG.out
          have z2 := fun o => (qz.alloc o).cell (i := 2) rfl
          have a0 := fun o => (qa.alloc o).cell (i := 0) rfl
          have a1 := fun o => (qa.alloc o).cell (i := 1) rfl
          have a2 := fun o => (qa.alloc o).cell (i := 2) rfl
          have q0 := Lw0.out wg HG.out
          have q1 := Lw1.out wg HG.out
          have p0 := fun o => (q0.alloc o).cell (i := 0) rfl
          have p1 := fun o => (q0.alloc o).cell (i := 1) rfl
          have p2 := fun o => (q0.alloc o).cell (i := 2) rfl
          have p3 := fun o => (q0.alloc o).cell (i := 3) rfl
          have r0 := fun o => (q1.alloc o).cell (i := 0) rfl
          have r1 := fun o => (q1.alloc o).cell (i := 1) rfl
          clear q0 q1
          clear qz qa
          go_wp2_with fail
          rw [← hwh]
          clear hwh z2 a0 a1 a2 p0 p1 p2 p3 r0 r1
          refine (HFI.out z.ce hz1 hz2 _ (below_then Bw.out HH.out)).mono ?_
          rintro e wi ⟨to, tc, uo, uc, rfl, _, hi⟩
          obtain ⟨f1, f2, f3⟩ := hnf
          obtain ⟨t, ht⟩ : ∃ t, t = fZ y0 y1 kd z.ce := ⟨_, rfl⟩
          rw [f1, f3, ← ht]
          rw [← ht] at f2
          have f4 : (t.ce != z.ce) = false := by rw [f2]; simp
          have HI : Hid (Below w1.heap.size w1 wi) := below_then HH.out hi
          have qz := HTH.out.below hi
          have qa := HAH.out.below hi
          have qb := HBH.out.below hi
          clear f1 f2 f3 ht hi
          have z2 := fun o => (qz.alloc o).cell (i := 2) rfl
          have a2 := fun o => (qa.alloc o).cell (i := 2) rfl
          have b2 := fun o => (qb.alloc o).cell (i := 2) rfl
          clear qz qa qb
          go_wp2_with fail
          go_ret
          exact ⟨rfl, below_then Bw.out (b_alloc HI.out _)⟩

        · skip
          have ho : on = 1 := by rw [HOZ.out, s1, t1]; exact if_pos (by omega)
          have hd : ¬ a.ce ≤ b.ce := hab
          have hgz := HGZ.out
          rw [s2, t2] at hgz
          have hgg := HGG.out
          rw [s2, t2] at hgg
          have hz1 : 1 ≤ z.ce := by have := hgz.1; omega
          have hz2 : z.ce ≤ 1073741824 := by
            rcases hgg with h | h
            · rw [h]; show (0 : Int) ≤ _; decide
            · rw [h]; omega
          have hnf := HNF.out (by omega)
          have hb0 : gb = true := by rw [HGB.out]; exact decide_eq_true (by omega)
          subst ho hb0
          have hle0 : a.ce ≤ z.ce := hgz.1
          subst s0 t0
          clear s1 s2 s5 s6 s7 t1 t2 t5 t6 hgz hgg HGZ HOZ HGB HGG hab HNF
          have qz := HTG.out
          have qa := HAG.out
          have z2 := fun o => (qz.alloc o).cell (i := 2) rfl
          have a0 := fun o => (qa.alloc o).cell (i := 0) rfl
          have a1 := fun o => (qa.alloc o).cell (i := 1) rfl
          have a2 := fun o => (qa.alloc o).cell (i := 2) rfl
          have q0 := Lw0.out wg HG.out
          have q1 := Lw1.out wg HG.out
          have p0 := fun o => (q0.alloc o).cell (i := 0) rfl
          have p1 := fun o => (q0.alloc o).cell (i := 1) rfl
          have p2 := fun o => (q0.alloc o).cell (i := 2) rfl
          have p3 := fun o => (q0.alloc o).cell (i := 3) rfl
          have r0 := fun o => (q1.alloc o).cell (i := 0) rfl
          have r1 := fun o => (q1.alloc o).cell (i := 1) rfl
          clear q0 q1
          clear qz qa
          go_wp2_with fail
          rw [← hwh]
          clear hwh z2 a0 a1 a2 p0 p1 p2 p3 r0 r1
          refine (HFI.out z.ce hz1 hz2 _ (below_then Bw.out HH.out)).mono ?_
          rintro e wi ⟨to, tc, uo, uc, rfl, _, hi⟩
          obtain ⟨f1, f2, f3⟩ := hnf
          obtain ⟨t, ht⟩ : ∃ t, t = fZ y0 y1 kd z.ce := ⟨_, rfl⟩
          rw [f1, f3, ← ht]
          rw [← ht] at f2
          have f4 : (t.ce != z.ce) = false := by rw [f2]; simp
          have HI : Hid (Below w1.heap.size w1 wi) := below_then HH.out hi
          have qz := HTH.out.below hi
          have qa := HAH.out.below hi
          have qb := HBH.out.below hi
          clear f1 f2 f3 ht hi
          have z2 := fun o => (qz.alloc o).cell (i := 2) rfl
          have a2 := fun o => (qa.alloc o).cell (i := 2) rfl
          have b2 := fun o => (qb.alloc o).cell (i := 2) rfl
          clear qz qa qb
          go_wp2_with fail
          go_ret
          exact ⟨rfl, below_then Bw.out (b_alloc HI.out _)⟩
      · skip
        by_cases hab : a.ce ≤ b.ce
        · skip
          have ho : on = 0 := by rw [HOZ.out, s1, t1]; exact if_neg (by omega)
          have hd : a.ce ≤ b.ce := hab
          have hgz := HGZ.out
          rw [s2, t2] at hgz
          have hgg := HGG.out
          rw [s2, t2] at hgg
          have hz1 : 1 ≤ z.ce := by have := hgz.1; omega
          have hz2 : z.ce ≤ 1073741824 := by
            rcases hgg with h | h
            · rw [h]; omega
            · rw [h]; omega
          have hnf := HNF.out (by omega)
          have hb0 : gb = true := by rw [HGB.out]; exact decide_eq_true (by omega)
          subst ho hb0
          have hle0 : a.ce ≤ z.ce := hgz.1
          have hle1 : b.ce ≤ z.ce := hgz.2
          subst s0 t0
          clear s1 s2 s5 s6 s7 t1 t2 t5 t6 t7 hgz hgg HGZ HOZ HGB HGG hab HNF
          have qz := HTG.out
          have qa := HAG.out
          have z2 := fun o => (qz.alloc o).cell (i := 2) rfl
          have a0 := fun o => (qa.alloc o).cell (i := 0) rfl
          have a1 := fun o => (qa.alloc o).cell (i := 1) rfl
          have a2 := fun o => (qa.alloc o).cell (i := 2) rfl
          have q0 := Lw0.out wg HG.out
          have q1 := Lw1.out wg HG.out
          have p0 := fun o => (q0.alloc o).cell (i := 0) rfl
          have p1 := fun o => (q0.alloc o).cell (i := 1) rfl
          have p2 := fun o => (q0.alloc o).cell (i := 2) rfl
          have p3 := fun o => (q0.alloc o).cell (i := 3) rfl
          have r0 := fun o => (q1.alloc o).cell (i := 0) rfl
          have r1 := fun o => (q1.alloc o).cell (i := 1) rfl
          clear q0 q1
          clear qz qa
          go_wp2_with fail
          rw [← hwh]
          clear hwh z2 a0 a1 a2 p0 p1 p2 p3 r0 r1
          refine (HFI.out z.ce hz1 hz2 _ (below_then Bw.out HH.out)).mono ?_
          rintro e wi ⟨to, tc, uo, uc, rfl, _, hi⟩
          obtain ⟨f1, f2, f3⟩ := hnf
          obtain ⟨t, ht⟩ : ∃ t, t = fZ y0 y1 kd z.ce := ⟨_, rfl⟩
          rw [f1, f3, ← ht]
          rw [← ht] at f2
          have f4 : (t.ce != z.ce) = false := by rw [f2]; simp
          have HI : Hid (Below w1.heap.size w1 wi) := below_then HH.out hi
          have qz := HTH.out.below hi
          have qa := HAH.out.below hi
          have qb := HBH.out.below hi
          clear f1 f2 f3 ht hi
          have z2 := fun o => (qz.alloc o).cell (i := 2) rfl
          have a2 := fun o => (qa.alloc o).cell (i := 2) rfl
          have b2 := fun o => (qb.alloc o).cell (i := 2) rfl
          clear qz qa qb
          go_wp2_with fail
          go_ret
          exact ⟨rfl, below_then Bw.out (b_alloc HI.out _)⟩

        · skip
          have ho : on = 1 := by rw [HOZ.out, s1, t1]; exact if_pos (by omega)
          have hd : ¬ a.ce ≤ b.ce := hab
          have hgz := HGZ.out
          rw [s2, t2] at hgz
          have hgg := HGG.out
          rw [s2, t2] at hgg
          have hz1 : 1 ≤ z.ce := by have := hgz.1; omega
          have hz2 : z.ce ≤ 1073741824 := by
            rcases hgg with h | h
            · rw [h]; omega
            · rw [h]; omega
          have hnf := HNF.out (by omega)
          have hb0 : gb = true := by rw [HGB.out]; exact decide_eq_true (by omega)
          subst ho hb0
          have hle0 : a.ce ≤ z.ce := hgz.1
          have hle1 : b.ce ≤ z.ce := hgz.2
          subst s0 t0
          clear s1 s2 s5 s6 s7 t1 t2 t5 t6 t7 hgz hgg HGZ HOZ HGB HGG hab HNF
          have qz := HTG.out
          have qa := HAG.out
          have z2 := fun o => (qz.alloc o).cell (i := 2) rfl
          have a0 := fun o => (qa.alloc o).cell (i := 0) rfl
          have a1 := fun o => (qa.alloc o).cell (i := 1) rfl
          have a2 := fun o => (qa.alloc o).cell (i := 2) rfl
          have q0 := Lw0.out wg HG.out
          have q1 := Lw1.out wg HG.out
          have p0 := fun o => (q0.alloc o).cell (i := 0) rfl
          have p1 := fun o => (q0.alloc o).cell (i := 1) rfl
          have p2 := fun o => (q0.alloc o).cell (i := 2) rfl
          have p3 := fun o => (q0.alloc o).cell (i := 3) rfl
          have r0 := fun o => (q1.alloc o).cell (i := 0) rfl
          have r1 := fun o => (q1.alloc o).cell (i := 1) rfl
          clear q0 q1
          clear qz qa
          go_wp2_with fail
          rw [← hwh]
          clear hwh z2 a0 a1 a2 p0 p1 p2 p3 r0 r1
          refine (HFI.out z.ce hz1 hz2 _ (below_then Bw.out HH.out)).mono ?_
          rintro e wi ⟨to, tc, uo, uc, rfl, _, hi⟩
          obtain ⟨f1, f2, f3⟩ := hnf
          obtain ⟨t, ht⟩ : ∃ t, t = fZ y0 y1 kd z.ce := ⟨_, rfl⟩
          rw [f1, f3, ← ht]
          rw [← ht] at f2
          have f4 : (t.ce != z.ce) = false := by rw [f2]; simp
          have HI : Hid (Below w1.heap.size w1 wi) := below_then HH.out hi
          have qz := HTH.out.below hi
          have qa := HAH.out.below hi
          have qb := HBH.out.below hi
          clear f1 f2 f3 ht hi
          have z2 := fun o => (qz.alloc o).cell (i := 2) rfl
          have a2 := fun o => (qa.alloc o).cell (i := 2) rfl
          have b2 := fun o => (qb.alloc o).cell (i := 2) rfl
          clear qz qa qb
          go_wp2_with fail
          go_ret
          exact ⟨rfl, below_then Bw.out (b_alloc HI.out _)⟩
  · have hqn : (E != 0) = true := by simpa using eC
    have hz : y0 = zSl ∧ y1 = zSl := by rw [← hy0, ← hy1]; unfold he; rw [if_neg eC, if_neg eC]; exact ⟨rfl, rfl⟩
    obtain ⟨rfl, rfl⟩ := hz
    rw [(gin_z kd).1, (gin_z kd).2.1, (gin_z kd).2.2] at HNE
    rw [oin_z] at HOL
    clear h hE hF hy0 hy1 h0 h1 eC
    obtain ⟨z, hz⟩ : ∃ z, z = zSl := ⟨_, rfl⟩
    rw [← hz] at HNE
    clear hz
    go_enter Try.func5, Try.ntmps5
    go_wp2_with fail
    rw [← hw0, ← hw1]
    clear hw0 bw0 zw0 hw1 bw1 zw1
    refine (awake_any _).mono ?_
    rintro e wa ⟨rfl, ha⟩
    have HA : Hid (Below w1.heap.size w1 wa) := ha
    clear ha
    have q0 := Lw0.out wa HA.out
    have q1 := Lw1.out wa HA.out
    have p0 := q0.cell (i := 0) rfl
    have p1 := q0.cell (i := 1) rfl
    have p2 := q0.cell (i := 2) rfl
    have p3 := q0.cell (i := 3) rfl
    have r0 := q1.cell (i := 0) rfl
    have r1 := q1.cell (i := 1) rfl
    clear q0 q1
    go_wp2_with fail
    refine (HNE.out _ (below_then Bw.out HA.out)).mono ?_
    rintro e wb ⟨zo, zc, yo, yc, rfl, _, hb⟩
    have HB : Hid (Below w1.heap.size w1 wb) := below_then HA.out hb
    clear hb HA HNE p0 p1 p2 p3 r0 r1
    obtain ⟨wc, hwc⟩ : ∃ wc, wc = wb.alloc (.cells #[.int .u8 ((z.kd.toNat : Nat) : Int), .int .i64 z.ix, .int .i64 z.ce, .int .i64 z.st, .slice zo z.vn zc, .slice yo z.dn yc] 31) := ⟨_, rfl⟩
    have HC : Hid (Below w1.heap.size w1 wc) := by show Below _ _ _; rw [hwc]; exact b_alloc HB.out _
    have HTZ : Hid (At w1 wc wb.heap.size #[.int .u8 ((z.kd.toNat : Nat) : Int), .int .i64 z.ix, .int .i64 z.ce, .int .i64 z.st, .slice zo z.vn zc, .slice yo z.dn yc] 31) := at_made HB.out hwc
    have q0 := Lw0.out wb HB.out
    have q1 := Lw1.out wb HB.out
    have p0 := fun o => (q0.alloc o).cell (i := 0) rfl
    have p1 := fun o => (q0.alloc o).cell (i := 1) rfl
    have p2 := fun o => (q0.alloc o).cell (i := 2) rfl
    have p3 := fun o => (q0.alloc o).cell (i := 3) rfl
    have r0 := fun o => (q1.alloc o).cell (i := 0) rfl
    have r1 := fun o => (q1.alloc o).cell (i := 1) rfl
    clear q0 q1
    go_wp2_with fail
    rw [← hwc]
    clear hwc
    refine (HOL.out _ (below_then Bw.out HC.out)).mono ?_
    rintro e wd ⟨rfl, hd⟩
    have HD : Hid (Below w1.heap.size w1 wd) := below_then HC.out hd
    have HTD : Hid (At w1 wd wb.heap.size #[.int .u8 ((z.kd.toNat : Nat) : Int), .int .i64 z.ix, .int .i64 z.ce, .int .i64 z.st, .slice zo z.vn zc, .slice yo z.dn yc] 31) := HTZ.out.below hd
    clear hd HC HTZ HOL p0 p1 p2 p3 r0 r1
    go_wp2_with fail
    go_ret
    exact ⟨rfl, below_then Bw.out HD.out⟩
end Go.Proofs.Ytmdeadakbohpeaa
