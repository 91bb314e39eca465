/- CellSlots' walk. -/
import Derived.Test.YtmdeadakbohpeaaCeH
import Derived.Test.YtmdeadakbohpeaaCeR
import Derived.Test.YtmdeadakbohpeaaCeS
import Derived.Test.YtmdeadakbohpeaaCeT
import Derived.Test.YtmdeadakbohpeaaSlV
namespace Go.Proofs.Ytmdeadakbohpeaa
open Go.RowKit

theorem Bec.onlyn {X : Nat → Prop} {w w' : World} {ao : Option Addr} {n cap : Nat} {F : Nat → UInt8} (h : Bec w ao n cap F) (ho : Only X w w') (hx : 0 < n → ∀ a, ao = some a → ¬ X a.block) : Bec w' ao n cap F :=
  ⟨fun hn => by obtain ⟨b, off, rfl, hc⟩ := h.rd hn; exact ⟨b, off, rfl, fun i hi => ho.cell (hc i hi) (hx hn ⟨b, off, none⟩ rfl)⟩, h.nil, h.room⟩
theorem he_small {k r c q : Int} {N W : Nat} {x : Int} (h : Par k r c q N W x) {E ix : Int} (hE : E = 0 → x = 0) {n : Nat} {F : Nat → UInt8} {y : Sl} (hy : he E N c ix n F = y) : y.vn ≤ 1000 := by
  rw [← hy]
  unfold he
  by_cases e : E = 0
  · rw [if_pos e]
    unfold ofI
    have hN := h.few
    by_cases f : (slQ (isS N c n F) N c F).ix = ix
    · rw [if_pos f]; exact (slQ_small hN (h.cell (hE e)).2).1
    · rw [if_neg f]; decide
  · rw [if_neg e]; decide
theorem fZ_small {y0 y1 : Sl} {kd : UInt8} {v : Int} (h0 : y0.vn ≤ 1000) (h1 : y1.vn ≤ 1000) : (fZ y0 y1 kd v).vn ≤ 1000 := by
  unfold fZ
  split
  · exact h0
  · split
    · exact h1
    · decide
theorem ofK_small {y : Sl} {kd : UInt8} (h : y.vn ≤ 1000) : (ofK kd y).vn ≤ 1000 := by unfold ofK; split; exact h; decide
theorem gZ_small {y0 y1 : Sl} {kd : UInt8} (h0 : y0.vn ≤ 1000) (h1 : y1.vn ≤ 1000) : (gZ y0 y1 kd).vn ≤ 1000 := by
  unfold gZ
  split
  · exact ofK_small h1
  · exact ofK_small h0
theorem he_dn {k r c q : Int} {N W : Nat} {x : Int} (h : Par k r c q N W x) {E ix : Int} (hE : E = 0 → x = 0) {n : Nat} {F : Nat → UInt8} {y : Sl} (hy : he E N c ix n F = y) : y.dn ≤ 1000 := by
  rw [← hy]
  unfold he
  by_cases e : E = 0
  · rw [if_pos e]
    unfold ofI
    have hN := h.few
    by_cases f : (slQ (isS N c n F) N c F).ix = ix
    · rw [if_pos f]; exact (slQ_small hN (h.cell (hE e)).2).2
    · rw [if_neg f]; decide
  · rw [if_neg e]; decide
theorem fZ_dn {y0 y1 : Sl} {kd : UInt8} {v : Int} (h0 : y0.dn ≤ 1000) (h1 : y1.dn ≤ 1000) : (fZ y0 y1 kd v).dn ≤ 1000 := by
  unfold fZ
  split
  · exact h0
  · split
    · exact h1
    · decide

set_option maxHeartbeats 32000000 in
set_option maxRecDepth 100000 in
theorem CSlots_any (k r c q : Int) (w : World) (a0 : Option Addr) (n0 c0 : Nat) (F0 : Nat → UInt8) (a1 : Option Addr) (n1 c1 : Nat) (F1 : Nat → UInt8) (h0 : Bec w a0 n0 c0 F0) (h1 : Bec w a1 n1 c1 F1) (l0 : n0 ≤ 9223372036854775807) (l1 : n1 ≤ 9223372036854775807) (kd : UInt8) (ix vr : Int) :
    Calls Try.prog 3 #[.agg #[.int .i64 k, .int .i64 r, .int .i64 c, .int .i64 q], .agg #[.slice a0 n0 c0, .slice a1 n1 c1], .int .u8 ((kd.toNat : Nat) : Int), .int .i64 ix, .int .i64 vr] w fun e w' => e = .returned (.bool true) ∧ Below w.heap.size w w' := by
  obtain ⟨w0, hw0⟩ : ∃ w0, w0 = w.alloc (.cells #[.int .i64 k, .int .i64 r, .int .i64 c, .int .i64 q] 23) := ⟨_, rfl⟩
  have bw0 : Below w.heap.size w w0 := by rw [hw0]; exact below_alloc _ _
  have zw0 : w0.heap.size = w.heap.size + 1 := by rw [hw0]; simp
  obtain ⟨w1, hw1⟩ : ∃ w1, w1 = w0.alloc (.cells #[.slice a0 n0 c0, .slice a1 n1 c1] 26) := ⟨_, rfl⟩
  have bw1 : Below w0.heap.size w0 w1 := by rw [hw1]; exact below_alloc _ _
  have zw1 : w1.heap.size = w.heap.size + 1 + 1 := by rw [hw1]; simp [zw0]
  have Bw : Hid (Below w.heap.size w w1) := (below_then bw0 bw1)
  have Lw0 : Hid (∀ v, Below w1.heap.size w1 v → At w v (w.heap.size) #[.int .i64 k, .int .i64 r, .int .i64 c, .int .i64 q] 23) := fun v hv => by exact (at_made (Below.refl _ _) hw0).below (below_then bw1 hv)
  have Lw1 : Hid (∀ v, Below w1.heap.size w1 v → At w v (w.heap.size + 1) #[.slice a0 n0 c0, .slice a1 n1 c1] 26) := fun v hv => by rw [← zw0]; exact (at_made bw0 hw1).below (below_then (Below.refl _ _) hv)
  obtain ⟨N, W, x, h⟩ := par_any k r c q
  obtain ⟨C, hC⟩ : ∃ C, erC x N c n0 n1 ((kd.toNat : Nat) : Int) ix = C := ⟨_, rfl⟩
  obtain ⟨E, hE⟩ : ∃ E, erF (erC x N c n0 n1 ((kd.toNat : Nat) : Int) ix) vr = E := ⟨_, rfl⟩
  obtain ⟨G, hG⟩ : ∃ G, erO (erC x N c n0 n1 ((kd.toNat : Nat) : Int) ix) vr = G := ⟨_, rfl⟩
  have hCx : C = 0 → x = 0 := fun e => erQ_zero (erT_zero (erC_zero (hC.trans e)).1).1
  have hEx : E = 0 → x = 0 := fun e => hCx (by
    rw [← hE, hC] at e; unfold erF at e
    by_cases q0 : C = 0
    · exact q0
    · rw [if_neg q0] at e; exact e)
  obtain ⟨y0, hy0⟩ : ∃ y0, he E N c ix n0 F0 = y0 := ⟨_, rfl⟩
  obtain ⟨y1, hy1⟩ : ∃ y1, he E N c ix n1 F1 = y1 := ⟨_, rfl⟩
  obtain ⟨u0, hu0⟩ : ∃ u0, he C N c ix n0 F0 = u0 := ⟨_, rfl⟩
  obtain ⟨u1, hu1⟩ : ∃ u1, he C N c ix n1 F1 = u1 := ⟨_, rfl⟩
  obtain ⟨g0, hg0⟩ : ∃ g0, he G N c ix n0 F0 = g0 := ⟨_, rfl⟩
  obtain ⟨g1, hg1⟩ : ∃ g1, he G N c ix n1 F1 = g1 := ⟨_, rfl⟩
  obtain ⟨z, hz⟩ : ∃ z, fZ y0 y1 kd vr = z := ⟨_, rfl⟩
  obtain ⟨n, hn⟩ : ∃ n, fN y0 y1 kd vr = n := ⟨_, rfl⟩
  obtain ⟨i, hi⟩ : ∃ i, fB y0 y1 kd vr = i := ⟨_, rfl⟩
  obtain ⟨t, ht⟩ : ∃ t, gZ u0 u1 kd = t := ⟨_, rfl⟩
  obtain ⟨m, hm⟩ : ∃ m, gN u0 u1 kd = m := ⟨_, rfl⟩
  obtain ⟨j, hj⟩ : ∃ j, gB u0 u1 kd = j := ⟨_, rfl⟩
  obtain ⟨p, hp⟩ : ∃ p, oN g0 g1 kd vr = p := ⟨_, rfl⟩
  have zv : z.vn ≤ 1000 := by rw [← hz]; exact fZ_small (he_small h hEx hy0) (he_small h hEx hy1)
  have zd : z.dn ≤ 1000 := by rw [← hz]; exact fZ_dn (he_dn h hEx hy0) (he_dn h hEx hy1)
  have tv : t.vn ≤ 1000 := by rw [← ht]; exact gZ_small (he_small h hCx hu0) (he_small h hCx hu1)
  have HF : Hid (∀ v (b0 : Option Addr) (d0 : Nat) (b1 : Option Addr) (d1 : Nat), Bec v b0 n0 d0 F0 → Bec v b1 n1 d1 F1 → Calls Try.prog 8 #[.agg #[.int .i64 k, .int .i64 r, .int .i64 c, .int .i64 q], .agg #[.slice b0 n0 d0, .slice b1 n1 d1], .int .u8 ((kd.toNat : Nat) : Int), .int .i64 ix, .int .i64 vr] v (fun e w' => ∃ ao ca bo cb, e = .returned (.tuple #[.int .i64 (n : Int), .agg #[.int .u8 ((z.kd.toNat : Nat) : Int), .int .i64 z.ix, .int .i64 z.ce, .int .i64 z.st, .slice ao z.vn ca, .slice bo z.dn cb], .bool i, .int .i64 E]) ∧ Got v.heap.size w' z ao ca bo cb ∧ Below v.heap.size v w')) := fun v b0 d0 b1 d1 k0 k1 => by
    have := Find_any h v b0 n0 d0 F0 b1 n1 d1 F1 k0 k1 kd ix vr E hE y0 y1 hy0 hy1
    rw [hn, hz, hi] at this; exact this
  have HRF : Hid (∀ v, Bec v a0 n0 c0 F0 → Bec v a1 n1 c1 F1 → Calls Try.prog 9 #[.agg #[.int .i64 k, .int .i64 r, .int .i64 c, .int .i64 q], .agg #[.slice a0 n0 c0, .slice a1 n1 c1], .int .u8 ((kd.toNat : Nat) : Int), .int .i64 ix, .int .i64 vr] v (fun e w' => ∃ ao ca bo cb, e = .returned (.tuple #[.int .i64 (n : Int), .agg #[.int .u8 ((z.kd.toNat : Nat) : Int), .int .i64 z.ix, .int .i64 z.ce, .int .i64 z.st, .slice ao z.vn ca, .slice bo z.dn cb], .bool i, .int .i64 E]) ∧ Got v.heap.size w' z ao ca bo cb ∧ Below v.heap.size v w')) := fun v k0 k1 => by
    have := RFind_any h v a0 n0 c0 F0 a1 n1 c1 F1 k0 k1 l0 l1 kd ix vr E hE y0 y1 hy0 hy1
    rw [hn, hz, hi] at this; exact this
  have HNW : Hid (∀ v (b0 : Option Addr) (d0 : Nat) (b1 : Option Addr) (d1 : Nat), Bec v b0 n0 d0 F0 → Bec v b1 n1 d1 F1 → Calls Try.prog 11 #[.agg #[.int .i64 k, .int .i64 r, .int .i64 c, .int .i64 q], .agg #[.slice b0 n0 d0, .slice b1 n1 d1], .int .u8 ((kd.toNat : Nat) : Int), .int .i64 ix] v (fun e w' => ∃ ao ca bo cb, e = .returned (.tuple #[.int .i64 (m : Int), .agg #[.int .u8 ((t.kd.toNat : Nat) : Int), .int .i64 t.ix, .int .i64 t.ce, .int .i64 t.st, .slice ao t.vn ca, .slice bo t.dn cb], .bool j, .int .i64 C]) ∧ Got v.heap.size w' t ao ca bo cb ∧ Below v.heap.size v w')) := fun v b0 d0 b1 d1 k0 k1 => by
    have := Newest_any h v b0 n0 d0 F0 b1 n1 d1 F1 k0 k1 kd ix C hC u0 u1 hu0 hu1
    rw [hm, ht, hj] at this; exact this
  have HRN : Hid (∀ v, Bec v a0 n0 c0 F0 → Bec v a1 n1 c1 F1 → Calls Try.prog 12 #[.agg #[.int .i64 k, .int .i64 r, .int .i64 c, .int .i64 q], .agg #[.slice a0 n0 c0, .slice a1 n1 c1], .int .u8 ((kd.toNat : Nat) : Int), .int .i64 ix] v (fun e w' => ∃ ao ca bo cb, e = .returned (.tuple #[.int .i64 (m : Int), .agg #[.int .u8 ((t.kd.toNat : Nat) : Int), .int .i64 t.ix, .int .i64 t.ce, .int .i64 t.st, .slice ao t.vn ca, .slice bo t.dn cb], .bool j, .int .i64 C]) ∧ Got v.heap.size w' t ao ca bo cb ∧ Below v.heap.size v w')) := fun v k0 k1 => by
    have := RNewest_any h v a0 n0 c0 F0 a1 n1 c1 F1 k0 k1 l0 l1 kd ix C hC u0 u1 hu0 hu1
    rw [hm, ht, hj] at this; exact this
  have HOL : Hid (∀ v (b0 : Option Addr) (d0 : Nat) (b1 : Option Addr) (d1 : Nat), Bec v b0 n0 d0 F0 → Bec v b1 n1 d1 F1 → Calls Try.prog 13 #[.agg #[.int .i64 k, .int .i64 r, .int .i64 c, .int .i64 q], .agg #[.slice b0 n0 d0, .slice b1 n1 d1], .int .u8 ((kd.toNat : Nat) : Int), .int .i64 ix, .int .i64 vr] v fun e w' => e = .returned (.tuple #[.int .i64 (p : Int), .int .i64 G]) ∧ Below v.heap.size v w') := fun v b0 d0 b1 d1 k0 k1 => by
    have := Older_any h v b0 n0 d0 F0 b1 n1 d1 F1 k0 k1 kd ix vr G hG g0 g1 hg0 hg1
    rw [hp] at this; exact this
  have HRO : Hid (∀ v, Bec v a0 n0 c0 F0 → Bec v a1 n1 c1 F1 → Calls Try.prog 14 #[.agg #[.int .i64 k, .int .i64 r, .int .i64 c, .int .i64 q], .agg #[.slice a0 n0 c0, .slice a1 n1 c1], .int .u8 ((kd.toNat : Nat) : Int), .int .i64 ix, .int .i64 vr] v fun e w' => e = .returned (.tuple #[.int .i64 (p : Int), .int .i64 G]) ∧ Below v.heap.size v w') := fun v k0 k1 => by
    have := ROlder_any h v a0 n0 c0 F0 a1 n1 c1 F1 k0 k1 l0 l1 kd ix vr G hG g0 g1 hg0 hg1
    rw [hp] at this; exact this
  have HSZ : Hid (∀ v ao ca bo cb ao' ca' bo' cb', Has v z ao ca bo cb → Has v z ao' ca' bo' cb' → Calls Try.prog 10 #[.agg #[.int .u8 ((z.kd.toNat : Nat) : Int), .int .i64 z.ix, .int .i64 z.ce, .int .i64 z.st, .slice ao z.vn ca, .slice bo z.dn cb], .agg #[.int .u8 ((z.kd.toNat : Nat) : Int), .int .i64 z.ix, .int .i64 z.ce, .int .i64 z.st, .slice ao' z.vn ca', .slice bo' z.dn cb']] v fun e w' => e = .returned (.bool true) ∧ Below v.heap.size v w') := fun v ao ca bo cb ao' ca' bo' cb' h1 h2 => RSame_any v z z ao ca bo cb ao' ca' bo' cb' h1 h2 (by omega) true (sameS_refl z)
  have HST : Hid (∀ v ao ca bo cb ao' ca' bo' cb', Has v t ao ca bo cb → Has v t ao' ca' bo' cb' → Calls Try.prog 10 #[.agg #[.int .u8 ((t.kd.toNat : Nat) : Int), .int .i64 t.ix, .int .i64 t.ce, .int .i64 t.st, .slice ao t.vn ca, .slice bo t.dn cb], .agg #[.int .u8 ((t.kd.toNat : Nat) : Int), .int .i64 t.ix, .int .i64 t.ce, .int .i64 t.st, .slice ao' t.vn ca', .slice bo' t.dn cb']] v fun e w' => e = .returned (.bool true) ∧ Below v.heap.size v w') := fun v ao ca bo cb ao' ca' bo' cb' h1 h2 => RSame_any v t t ao ca bo cb ao' ca' bo' cb' h1 h2 (by omega) true (sameS_refl t)
  have HH0 : Hid (Bec w a0 n0 c0 F0) := h0
  have HH1 : Hid (Bec w a1 n1 c1 F1) := h1
  have HS1 : Hid (w1.heap.size = w.heap.size + 1 + 1) := zw1
  clear h hE hG hC hCx hEx hy0 hy1 hu0 hu1 hg0 hg1 hz hn hi ht hm hj hp h0 h1 l0 l1
  go_enter Try.func3, Try.ntmps3
  go_wp2_with fail
  rw [← hw0, ← hw1]
  clear hw0 bw0 zw0 hw1 bw1 zw1
  refine (awake_any _).mono ?_
  rintro e wa ⟨rfl, ha⟩
  have HA : Hid (Below w1.heap.size w1 wa) := ha
  clear ha
  have q1 := Lw1.out wa HA.out
  have r0 := q1.cell (i := 0) rfl
  have r1 := q1.cell (i := 1) rfl
  clear q1
  go_wp2_with fail
  refine (twin_any _ a0 n0 c0 F0 a1 n1 c1 F1 (HH0.out.below (below_then Bw.out HA.out)) (HH1.out.below (below_then Bw.out HA.out))).mono ?_
  rintro e wb ⟨b0, d0, b1, d1, rfl, k0, k1, hb⟩
  have HK0 : Hid (Bec wb b0 n0 d0 F0) := k0
  have HK1 : Hid (Bec wb b1 n1 d1 F1) := k1
  have HB : Hid (Below w1.heap.size w1 wb) := below_then HA.out hb
  clear k0 k1 hb HA r0 r1
  obtain ⟨wc, hwc⟩ : ∃ wc, wc = wb.alloc (.cells #[.slice b0 n0 d0, .slice b1 n1 d1] 26) := ⟨_, rfl⟩
  have hbc : Below wb.heap.size wb wc := by rw [hwc]; exact below_alloc _ _
  have HC : Hid (Below w1.heap.size w1 wc) := below_then HB.out hbc
  have HIN : Hid (At w1 wc wb.heap.size #[.slice b0 n0 d0, .slice b1 n1 d1] 26) := at_made HB.out hwc
  have HM0 : Hid (Bec wc b0 n0 d0 F0) := HK0.out.below hbc
  have HM1 : Hid (Bec wc b1 n1 d1 F1) := HK1.out.below hbc
  have HLC : Hid (wb.heap.size < wc.heap.size) := by show _ < _; rw [hwc]; simp
  have q0 := Lw0.out wb HB.out
  have p0 := fun o => (q0.alloc o).cell (i := 0) rfl
  have p1 := fun o => (q0.alloc o).cell (i := 1) rfl
  have p2 := fun o => (q0.alloc o).cell (i := 2) rfl
  have p3 := fun o => (q0.alloc o).cell (i := 3) rfl
  clear q0 hbc
  go_wp2_with fail
  rw [← hwc]
  clear hwc p0 p1 p2 p3
  refine (HF.out _ b0 d0 b1 d1 HM0.out HM1.out).mono ?_
  rintro e wd ⟨fo, fa, go, gb, rfl, hg, hd⟩
  have HGD : Hid (Got wc.heap.size wd z fo fa go gb) := hg
  have HCD : Hid (Below wc.heap.size wc wd) := hd
  clear hg hd
  obtain ⟨we, hwe⟩ : ∃ we, we = wd.alloc (.cells #[.int .u8 ((z.kd.toNat : Nat) : Int), .int .i64 z.ix, .int .i64 z.ce, .int .i64 z.st, .slice fo z.vn fa, .slice go z.dn gb] 31) := ⟨_, rfl⟩
  have hal : Below wd.heap.size wd we := by rw [hwe]; exact below_alloc _ _
  have HCwe : Hid (Below wc.heap.size wc we) := below_then HCD.out hal
  have HZF : Hid (At wc we wd.heap.size #[.int .u8 ((z.kd.toNat : Nat) : Int), .int .i64 z.ix, .int .i64 z.ce, .int .i64 z.st, .slice fo z.vn fa, .slice go z.dn gb] 31) := at_made HCD.out hwe
  have HLwe : Hid (wd.heap.size < we.heap.size) := by show _ < _; rw [hwe]; simp
  have HGE : Hid (Got wc.heap.size we z fo fa go gb) := HGD.out.below hal
  have q0 := Lw0.out wd (below_then HC.out HCD.out)
  have q1 := Lw1.out wd (below_then HC.out HCD.out)
  have p0 := fun o => (q0.alloc o).cell (i := 0) rfl
  have p1 := fun o => (q0.alloc o).cell (i := 1) rfl
  have p2 := fun o => (q0.alloc o).cell (i := 2) rfl
  have p3 := fun o => (q0.alloc o).cell (i := 3) rfl
  have r0 := fun o => (q1.alloc o).cell (i := 0) rfl
  have r1 := fun o => (q1.alloc o).cell (i := 1) rfl
  clear q0 q1 hal
  go_wp2_with fail
  rw [← hwe]
  clear hwe p0 p1 p2 p3 r0 r1
  have HWE : Hid (Below w.heap.size w we) := below_then Bw.out (below_then HC.out HCwe.out)
  refine (HRF.out _ (HH0.out.below HWE.out) (HH1.out.below HWE.out)).mono ?_
  rintro e wf ⟨ro, ra, so, sb, rfl, hg, hf⟩
  have HGF : Hid (Got we.heap.size wf z ro ra so sb) := hg
  have HEF : Hid (Below we.heap.size we wf) := hf
  have HCF : Hid (Below wc.heap.size wc wf) := below_then HCwe.out hf
  clear hg hf
  obtain ⟨wg, hwg⟩ : ∃ wg, wg = wf.alloc (.cells #[.int .u8 ((z.kd.toNat : Nat) : Int), .int .i64 z.ix, .int .i64 z.ce, .int .i64 z.st, .slice ro z.vn ra, .slice so z.dn sb] 31) := ⟨_, rfl⟩
  have hal : Below wf.heap.size wf wg := by rw [hwg]; exact below_alloc _ _
  have HCwg : Hid (Below wc.heap.size wc wg) := below_then HCF.out hal
  have HZR : Hid (At wc wg wf.heap.size #[.int .u8 ((z.kd.toNat : Nat) : Int), .int .i64 z.ix, .int .i64 z.ce, .int .i64 z.st, .slice ro z.vn ra, .slice so z.dn sb] 31) := at_made HCF.out hwg
  have HLwg : Hid (wf.heap.size < wg.heap.size) := by show _ < _; rw [hwg]; simp
  have HG1 : Hid (Got wc.heap.size wg z fo fa go gb) := HGE.out.below (below_then HEF.out hal)
  have HG2 : Hid (Got we.heap.size wg z ro ra so sb) := HGF.out.below hal
  have HZG : Hid (At wc wg wd.heap.size #[.int .u8 ((z.kd.toNat : Nat) : Int), .int .i64 z.ix, .int .i64 z.ce, .int .i64 z.st, .slice fo z.vn fa, .slice go z.dn gb] 31) := HZF.out.below (below_then HEF.out hal)
  have HFG : Hid (Below wf.heap.size wf wg) := hal
  have q2 := HZF.out.below HEF.out
  have s0 := fun o => (q2.alloc o).cell (i := 0) rfl
  have s1 := fun o => (q2.alloc o).cell (i := 1) rfl
  have s2 := fun o => (q2.alloc o).cell (i := 2) rfl
  have s3 := fun o => (q2.alloc o).cell (i := 3) rfl
  have s4 := fun o => (q2.alloc o).cell (i := 4) rfl
  have s5 := fun o => (q2.alloc o).cell (i := 5) rfl
  clear q2 hal
  go_wp2_with fail
  rw [← hwg]
  clear hwg s0 s1 s2 s3 s4 s5
  refine (HSZ.out _ fo fa go gb ro ra so sb HG1.out.has HG2.out.has).mono ?_
  rintro e wh ⟨rfl, hh⟩
  have HGH : Hid (Below wg.heap.size wg wh) := hh
  have HCH : Hid (Below wc.heap.size wc wh) := below_then HCwg.out hh
  have HFH : Hid (Below wf.heap.size wf wh) := below_then HFG.out hh
  clear hh HG1 HG2
  have q0 := Lw0.out wh (below_then HC.out HCH.out)
  have q1 := HIN.out.below HCH.out
  have p0 := q0.cell (i := 0) rfl
  have p1 := q0.cell (i := 1) rfl
  have p2 := q0.cell (i := 2) rfl
  have p3 := q0.cell (i := 3) rfl
  have r0 := q1.cell (i := 0) rfl
  have r1 := q1.cell (i := 1) rfl
  clear q0 q1
  go_wp2_with fail
  refine (HNW.out _ b0 d0 b1 d1 (HM0.out.below HCH.out) (HM1.out.below HCH.out)).mono ?_
  rintro e wi ⟨vo, va, xo, xb, rfl, hg, hi⟩
  have HGI : Hid (Got wh.heap.size wi t vo va xo xb) := hg
  have HHI : Hid (Below wh.heap.size wh wi) := hi
  have HCI : Hid (Below wc.heap.size wc wi) := below_then HCH.out hi
  clear hg hi p0 p1 p2 p3 r0 r1
  obtain ⟨wj, hwj⟩ : ∃ wj, wj = wi.alloc (.cells #[.int .u8 ((t.kd.toNat : Nat) : Int), .int .i64 t.ix, .int .i64 t.ce, .int .i64 t.st, .slice vo t.vn va, .slice xo t.dn xb] 31) := ⟨_, rfl⟩
  have hal : Below wi.heap.size wi wj := by rw [hwj]; exact below_alloc _ _
  have HCwj : Hid (Below wc.heap.size wc wj) := below_then HCI.out hal
  have HTV : Hid (At wc wj wi.heap.size #[.int .u8 ((t.kd.toNat : Nat) : Int), .int .i64 t.ix, .int .i64 t.ce, .int .i64 t.st, .slice vo t.vn va, .slice xo t.dn xb] 31) := at_made HCI.out hwj
  have HLwj : Hid (wi.heap.size < wj.heap.size) := by show _ < _; rw [hwj]; simp
  have HGJ : Hid (Got wh.heap.size wj t vo va xo xb) := HGI.out.below hal
  have HHJ : Hid (Below wh.heap.size wh wj) := below_then HHI.out hal
  have q0 := Lw0.out wi (below_then HC.out HCI.out)
  have q1 := Lw1.out wi (below_then HC.out HCI.out)
  have p0 := fun o => (q0.alloc o).cell (i := 0) rfl
  have p1 := fun o => (q0.alloc o).cell (i := 1) rfl
  have p2 := fun o => (q0.alloc o).cell (i := 2) rfl
  have p3 := fun o => (q0.alloc o).cell (i := 3) rfl
  have r0 := fun o => (q1.alloc o).cell (i := 0) rfl
  have r1 := fun o => (q1.alloc o).cell (i := 1) rfl
  clear q0 q1 hal
  go_wp2_with fail
  rw [← hwj]
  clear hwj p0 p1 p2 p3 r0 r1
  have HWJ : Hid (Below w.heap.size w wj) := below_then Bw.out (below_then HC.out HCwj.out)
  refine (HRN.out _ (HH0.out.below HWJ.out) (HH1.out.below HWJ.out)).mono ?_
  rintro e wk ⟨lo, la, mo, mb, rfl, hg, hk⟩
  have HGK : Hid (Got wj.heap.size wk t lo la mo mb) := hg
  have HJK : Hid (Below wj.heap.size wj wk) := hk
  have HCK : Hid (Below wc.heap.size wc wk) := below_then HCwj.out hk
  clear hg hk
  obtain ⟨wl, hwl⟩ : ∃ wl, wl = wk.alloc (.cells #[.int .u8 ((t.kd.toNat : Nat) : Int), .int .i64 t.ix, .int .i64 t.ce, .int .i64 t.st, .slice lo t.vn la, .slice mo t.dn mb] 31) := ⟨_, rfl⟩
  have hal : Below wk.heap.size wk wl := by rw [hwl]; exact below_alloc _ _
  have HCwl : Hid (Below wc.heap.size wc wl) := below_then HCK.out hal
  have HTW : Hid (At wc wl wk.heap.size #[.int .u8 ((t.kd.toNat : Nat) : Int), .int .i64 t.ix, .int .i64 t.ce, .int .i64 t.st, .slice lo t.vn la, .slice mo t.dn mb] 31) := at_made HCK.out hwl
  have HLwl : Hid (wk.heap.size < wl.heap.size) := by show _ < _; rw [hwl]; simp
  have HG3 : Hid (Got wh.heap.size wl t vo va xo xb) := HGJ.out.below (below_then HJK.out hal)
  have HG4 : Hid (Got wj.heap.size wl t lo la mo mb) := HGK.out.below hal
  have HJL : Hid (Below wj.heap.size wj wl) := below_then HJK.out hal
  have q2 := HTV.out.below HJK.out
  have s0 := fun o => (q2.alloc o).cell (i := 0) rfl
  have s1 := fun o => (q2.alloc o).cell (i := 1) rfl
  have s2 := fun o => (q2.alloc o).cell (i := 2) rfl
  have s3 := fun o => (q2.alloc o).cell (i := 3) rfl
  have s4 := fun o => (q2.alloc o).cell (i := 4) rfl
  have s5 := fun o => (q2.alloc o).cell (i := 5) rfl
  clear q2 hal
  go_wp2_with fail
  rw [← hwl]
  clear hwl s0 s1 s2 s3 s4 s5
  refine (HST.out _ vo va xo xb lo la mo mb HG3.out.has HG4.out.has).mono ?_
  rintro e wm ⟨rfl, hm⟩
  have HJM : Hid (Below wj.heap.size wj wm) := below_then HJL.out hm
  have HCM : Hid (Below wc.heap.size wc wm) := below_then HCwl.out hm
  clear hm HG3 HG4
  have q0 := Lw0.out wm (below_then HC.out HCM.out)
  have q1 := HIN.out.below HCM.out
  have p0 := q0.cell (i := 0) rfl
  have p1 := q0.cell (i := 1) rfl
  have p2 := q0.cell (i := 2) rfl
  have p3 := q0.cell (i := 3) rfl
  have r0 := q1.cell (i := 0) rfl
  have r1 := q1.cell (i := 1) rfl
  clear q0 q1
  go_wp2_with fail
  refine (HOL.out _ b0 d0 b1 d1 (HM0.out.below HCM.out) (HM1.out.below HCM.out)).mono ?_
  rintro e wn ⟨rfl, hn⟩
  have HJN : Hid (Below wj.heap.size wj wn) := below_then HJM.out hn
  have HCN : Hid (Below wc.heap.size wc wn) := below_then HCM.out hn
  clear hn p0 p1 p2 p3 r0 r1
  have q0 := Lw0.out wn (below_then HC.out HCN.out)
  have q1 := Lw1.out wn (below_then HC.out HCN.out)
  have p0 := q0.cell (i := 0) rfl
  have p1 := q0.cell (i := 1) rfl
  have p2 := q0.cell (i := 2) rfl
  have p3 := q0.cell (i := 3) rfl
  have r0 := q1.cell (i := 0) rfl
  have r1 := q1.cell (i := 1) rfl
  clear q0 q1
  have HWN : Hid (Below w.heap.size w wn) := below_then Bw.out (below_then HC.out HCN.out)
  go_wp2_with fail
  refine (HRO.out _ (HH0.out.below HWN.out) (HH1.out.below HWN.out)).mono ?_
  rintro e wo ⟨rfl, ho⟩
  have HJO : Hid (Below wj.heap.size wj wo) := below_then HJN.out ho
  have HCO : Hid (Below wc.heap.size wc wo) := below_then HCN.out ho
  clear ho p0 p1 p2 p3 r0 r1 HOL HRO HNW HRN HST HRF
  have HGO : Hid (Got wc.heap.size wo z fo fa go gb) := HGE.out.below (below_then HEF.out (below_then HFG.out (below_then HGH.out (below_then HHJ.out HJO.out))))
  have HTO : Hid (Got wh.heap.size wo t vo va xo xb) := HGJ.out.below HJO.out
  have HFO : Hid (Below wf.heap.size wf wo) := below_then HFH.out (below_then HHJ.out HJO.out)
  have HXD : Hid (∀ b, go = some ⟨b, 0, none⟩ → wc.heap.size ≤ b ∧ b < wd.heap.size) := fun b e => World.ownsRow.lt HGD.out.bec b (by rw [e]; rfl)
  have HXV : Hid (∀ b, vo = some ⟨b, 0, none⟩ → wh.heap.size ≤ b ∧ b < wi.heap.size) := fun b e => World.ownsRow.lt HGI.out.vec b (by rw [e]; rfl)
  have HNX : Hid (∀ b, (b < wc.heap.size ∨ (wd.heap.size ≤ b ∧ b < wh.heap.size) ∨ wi.heap.size ≤ b) → ¬ (go = some ⟨b, 0, none⟩ ∨ vo = some ⟨b, 0, none⟩)) := fun b hb e => by
    have l1 := HCH.out.size
    have l2 := HCD.out.size
    have l3 := HLwe.out
    have l4 := HEF.out.size
    have l5 := HFH.out.size
    have l6 := HHI.out.size
    rcases e with e | e
    · have := HXD.out b e; omega
    · have := HXV.out b e; omega
  have s5 := (HZG.out.below (below_then HGH.out (below_then HHJ.out HJO.out))).cell (i := 5) rfl
  have s4 := (HTV.out.below HJO.out).cell (i := 4) rfl
  go_wp2_with fail
  go_loopw [33] (fun y wr => ∃ j : Nat, j ≤ z.dn ∧ y = .int .i64 (j : Int) ∧ (∃ G, Hid (OwU wc.heap.size wr go z.dn gb G)) ∧ Hid (Own wh.heap.size wr vo t.vn va t.V) ∧ Hid (Only (fun b => go = some ⟨b, 0, none⟩ ∨ vo = some ⟨b, 0, none⟩) wo wr)) (fun y _ => z.dn - (intOf y).toNat)
  case atStart => exact ⟨0, Nat.zero_le _, rfl, ⟨z.D, HGO.out.bec⟩, HTO.out.vec, Only.refl _ _⟩
  case round =>
    obtain ⟨j', hj', rfl, ⟨G', hG⟩, hV, hO⟩ := hrel
    have x5 := hO.out.cell s5 (HNX.out _ (.inr (.inl ⟨Nat.le_refl _, by show wd.heap.size < _; have := HLwe.out; have := HEF.out.size; have := HFH.out.size; omega⟩)))
    have x4 := hO.out.cell s4 (HNX.out _ (.inr (.inr (Nat.le_refl _))))
    by_cases hlt : j' < z.dn
    · obtain ⟨g, hyg, _, _⟩ := hG.out.at_ (by omega)
      subst hyg
      have ck := hG.out.cell hlt
      have fk := hG.out.free j'
      have i1 : (0 : Int) ≤ (j' : Int) := by omega
      have i2 : (j' : Int) < (z.dn : Int) := by omega
      have HS : Hid (OwU wc.heap.size (wr.setCell ⟨g, j', none⟩ (.int .u8 99)) (some ⟨g, 0, none⟩) z.dn gb (put j' 99 G')) := hG.out.set j' 99
      have HVS : Hid (Own wh.heap.size (wr.setCell ⟨g, j', none⟩ (.int .u8 99)) vo t.vn va t.V) := own_keep hV.out hG.out j' _
      have HSO : Hid (Only (fun b => some (⟨g, 0, none⟩ : Addr) = some ⟨b, 0, none⟩ ∨ vo = some ⟨b, 0, none⟩) wo (wr.setCell ⟨g, j', none⟩ (.int .u8 99))) := hO.out.setCell (p := ⟨g, j', none⟩) (.inl rfl) _
      go_wp2
      go_roundw
      case rel => exact ⟨j' + 1, by omega, by go_num, ⟨_, HS⟩, HVS, HSO⟩
      case measure => simp [intOf]; omega
    · have HV2 : Hid (Own wh.heap.size wr vo t.vn va t.V) := hV
      have HO2 : Hid (Only (fun b => go = some ⟨b, 0, none⟩ ∨ vo = some ⟨b, 0, none⟩) wo wr) := hO
      clear hG hV hO
      obtain ⟨wm', rfl⟩ : ∃ y, y = wr := ⟨wr, rfl⟩
      go_wp2_with fail
      go_loopw [34] (fun y wr => ∃ j : Nat, j ≤ t.vn ∧ y = .int .i64 (j : Int) ∧ (∃ G, Hid (Own wh.heap.size wr vo t.vn va G)) ∧ Hid (Only (fun b => go = some ⟨b, 0, none⟩ ∨ vo = some ⟨b, 0, none⟩) wo wr)) (fun y _ => t.vn - (intOf y).toNat)
      case atStart => exact ⟨0, Nat.zero_le _, rfl, ⟨t.V, HV2⟩, HO2⟩
      case round =>
        obtain ⟨j2, hj2, rfl, ⟨G2, hG⟩, hO⟩ := hrel
        have x4 := hO.out.cell s4 (HNX.out _ (.inr (.inr (Nat.le_refl _))))
        by_cases hlt : j2 < t.vn
        · obtain ⟨g, hyg, _, _⟩ := hG.out.at_ (by omega)
          subst hyg
          have ck := hG.out.cell hlt
          have fk := hG.out.free j2
          have i1 : (0 : Int) ≤ (j2 : Int) := by omega
          have i2 : (j2 : Int) < (t.vn : Int) := by omega
          have HS : Hid (Own wh.heap.size (wr.setCell ⟨g, j2, none⟩ (.int .i64 (-9))) (some ⟨g, 0, none⟩) t.vn va (put j2 (-9) G2)) := hG.out.set j2 (-9)
          have HSO : Hid (Only (fun b => go = some ⟨b, 0, none⟩ ∨ some (⟨g, 0, none⟩ : Addr) = some ⟨b, 0, none⟩) wo (wr.setCell ⟨g, j2, none⟩ (.int .i64 (-9)))) := hO.out.setCell (p := ⟨g, j2, none⟩) (.inr rfl) _
          go_wp2
          go_roundw
          case rel => exact ⟨j2 + 1, by omega, by go_num, ⟨_, HS⟩, HSO⟩
          case measure => simp [intOf]; omega
        · have l1 := HLC.out
          have l2 := HCD.out.size
          have l3 := HLwe.out
          have l4 := HEF.out.size
          have l5 := HFH.out.size
          have l6 := HHI.out.size
          have l7 := HB.out.size
          have l8 := HS1.out
          have l9 := HLwg.out
          have l10 := HGH.out.size
          have HR0 : Hid (Bec wr b0 n0 d0 F0) := (HM0.out.below HCO.out).onlyn hO.out fun hn a ha => HNX.out _ (.inl (by have := HK0.out.blk hn ha; omega))
          have HR1 : Hid (Bec wr b1 n1 d1 F1) := (HM1.out.below HCO.out).onlyn hO.out fun hn a ha => HNX.out _ (.inl (by have := HK1.out.blk hn ha; omega))
          have HWO : Hid (Below w.heap.size w wo) := below_then Bw.out (below_then HC.out HCO.out)
          have HA0 : Hid (Bec wr a0 n0 c0 F0) := (HH0.out.below HWO.out).onlyn hO.out fun hn a ha => HNX.out _ (.inl (by have := HH0.out.blk hn ha; omega))
          have HA1 : Hid (Bec wr a1 n1 c1 F1) := (HH1.out.below HWO.out).onlyn hO.out fun hn a ha => HNX.out _ (.inl (by have := HH1.out.blk hn ha; omega))
          have HP : Hid (At w wr w.heap.size #[.int .i64 k, .int .i64 r, .int .i64 c, .int .i64 q] 23) := (Lw0.out wo (below_then HC.out HCO.out)).only hO.out (HNX.out _ (.inl (by omega)))
          have HQ : Hid (At w wr (w.heap.size + 1) #[.slice a0 n0 c0, .slice a1 n1 c1] 26) := (Lw1.out wo (below_then HC.out HCO.out)).only hO.out (HNX.out _ (.inl (by omega)))
          have HI : Hid (At w1 wr wb.heap.size #[.slice b0 n0 d0, .slice b1 n1 d1] 26) := (HIN.out.below HCO.out).only hO.out (HNX.out _ (.inl (by omega)))
          have HZ2 : Hid (At wc wr wf.heap.size #[.int .u8 ((z.kd.toNat : Nat) : Int), .int .i64 z.ix, .int .i64 z.ce, .int .i64 z.st, .slice ro z.vn ra, .slice so z.dn sb] 31) := (HZR.out.below (below_then HGH.out (below_then HHJ.out HJO.out))).only hO.out (HNX.out _ (.inr (.inl ⟨by omega, by omega⟩)))
          have HGR : Hid (Got we.heap.size wr z ro ra so sb) := ⟨HGF.out.vec.stay fun g hg hl => (hO.out.block g (Nat.lt_of_lt_of_le hl HFO.out.size) (HNX.out _ (.inr (.inl ⟨by omega, by omega⟩)))).trans (HFO.out.block g hl), HGF.out.bec.stay fun g hg hl => (hO.out.block g (Nat.lt_of_lt_of_le hl HFO.out.size) (HNX.out _ (.inr (.inl ⟨by omega, by omega⟩)))).trans (HFO.out.block g hl)⟩
          have HRW : Hid (Below w.heap.size w wr) := HWO.out.trans (hO.out.below (fun b hb => by
            rcases hb with e | e
            · have := HXD.out b e; omega
            · have := HXV.out b e; omega) HWO.out.size)
          clear hG hO l1 l2 l3 l4 l5 l6 l7 l8 l9 l10
          have q0 := HP.out
          have q1 := HI.out
          have p0 := q0.cell (i := 0) rfl
          have p1 := q0.cell (i := 1) rfl
          have p2 := q0.cell (i := 2) rfl
          have p3 := q0.cell (i := 3) rfl
          have r0 := q1.cell (i := 0) rfl
          have r1 := q1.cell (i := 1) rfl
          clear q0 q1
          go_wp2_with fail
          refine (HF.out _ b0 d0 b1 d1 HR0.out HR1.out).mono ?_
          rintro e ws ⟨uo, ua, ko, kb, rfl, hg, hs⟩
          obtain ⟨wt, hwt⟩ : ∃ wt, wt = ws.alloc (.cells #[.int .u8 ((z.kd.toNat : Nat) : Int), .int .i64 z.ix, .int .i64 z.ce, .int .i64 z.st, .slice uo z.vn ua, .slice ko z.dn kb] 31) := ⟨_, rfl⟩
          have hal : Below ws.heap.size ws wt := by rw [hwt]; exact below_alloc _ _
          have HRT : Hid (Below wr.heap.size wr wt) := below_then hs hal
          have HU : Hid (Has wt z uo ua ko kb) := hg.has.below hal
          have HTU : Hid (At wr wt ws.heap.size #[.int .u8 ((z.kd.toNat : Nat) : Int), .int .i64 z.ix, .int .i64 z.ce, .int .i64 z.st, .slice uo z.vn ua, .slice ko z.dn kb] 31) := at_made hs hwt
          have q1 := HI.out.below hs
          have q2 := HQ.out.below hs
          clear p0 p1 p2 p3 r0 r1
          have r0 := fun o => (q1.alloc o).cell (i := 0) rfl
          have r1 := fun o => (q1.alloc o).cell (i := 1) rfl
          have p0 := fun o => (q2.alloc o).cell (i := 0) rfl
          have p1 := fun o => (q2.alloc o).cell (i := 1) rfl
          clear q1 q2 hg hs hal
          go_wp2_with fail
          rw [← hwt]
          clear hwt r0 r1 p0 p1
          refine (same_any _ b0 n0 d0 F0 b1 n1 d1 F1 a0 c0 a1 c1 (HR0.out.below HRT.out) (HR1.out.below HRT.out) (HA0.out.below HRT.out) (HA1.out.below HRT.out)).mono ?_
          rintro e wu ⟨rfl, hu⟩
          have HRU : Hid (Below wr.heap.size wr wu) := below_then HRT.out hu
          have HU2 : Hid (Has wu z uo ua ko kb) := HU.out.below hu
          have q1 := HTU.out.below hu
          have q2 := HZ2.out.below HRU.out
          have r0 := q1.cell (i := 0) rfl
          have r1 := q1.cell (i := 1) rfl
          have r2 := q1.cell (i := 2) rfl
          have r3 := q1.cell (i := 3) rfl
          have r4 := q1.cell (i := 4) rfl
          have r5 := q1.cell (i := 5) rfl
          have p0 := q2.cell (i := 0) rfl
          have p1 := q2.cell (i := 1) rfl
          have p2 := q2.cell (i := 2) rfl
          have p3 := q2.cell (i := 3) rfl
          have p4 := q2.cell (i := 4) rfl
          have p5 := q2.cell (i := 5) rfl
          clear q1 q2 hu HU HTU
          go_wp2_with fail
          refine (HSZ.out _ uo ua ko kb ro ra so sb HU2.out (HGR.out.has.below HRU.out)).mono ?_
          rintro e wv ⟨rfl, hv⟩
          go_wp2_with fail
          go_ret
          exact ⟨rfl, below_then (below_then HRW.out HRU.out) hv⟩
end Go.Proofs.Ytmdeadakbohpeaa
