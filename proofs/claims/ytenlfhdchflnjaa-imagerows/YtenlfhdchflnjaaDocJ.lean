/- The walk of ImageWrites. -/
import Derived.Test.YtenlfhdchflnjaaDocI
import Derived.Test.YtenlfhdchflnjaaDocE
import Derived.Test.YtenlfhdchflnjaaDocG
import Derived.Test.YtenlfhdchflnjaaImgP
namespace Go.Proofs.Ytenlfhdchflnjaa
open Go.RowKit
theorem im_lt {B : Nat} {w : World} {lo : Option Addr} {n : Nat} {A : Nat → Option Addr} {C : Nat → Nat} {F : Nat → List UInt8} (h : Im B w lo n A C F) : ∀ i a, i < n → A i = some a → a.block < w.heap.size := fun i a hi ha => by
  rcases h with ⟨e, _⟩ | ⟨l, _, _, h⟩
  · omega
  · exact ((h i hi).at_ ha).2
theorem aft_small {k r c q : Int} {n : Nat} {F : Nat → List UInt8} {D : Nat → Pt} {ln : Nat} {m x k' r' c' q' : Int} {n' : Nat} {F' : Nat → List UInt8} (h : Aft k r c q n F D ln m x k' r' c' q' n' F') : n' ≤ 1000000 ∧ ∀ i, i < n' → (F' i).length ≤ 140 := by
  obtain ⟨y, N, Q, S, hck, hc⟩ := h
  rcases hc with ⟨rfl, h1, h2, h3, h4, rfl, rfl, rfl, rfl, rfl, rfl, rfl⟩ | ⟨⟨rfl, rfl, rfl, rfl, rfl, rfl⟩, hc⟩
  · obtain ⟨hp, hn, hf⟩ := hck.ok rfl
    have hb := hp.bounds
    have hf2 := aft_fit (D := D) hf m.toNat (fun i hi => h2 i (by omega))
    exact ⟨by omega, fun i hi => by rcases hf2 i hi with h | h <;> omega⟩
  · exact ⟨by decide, fun i hi => absurd hi (Nat.not_lt_zero i)⟩
theorem wip_small {k r c q : Int} {n : Nat} {F : Nat → List UInt8} {d x k' r' c' q' : Int} {n' : Nat} {F' : Nat → List UInt8} (h : Wip k r c q n F d x k' r' c' q' n' F') : n' ≤ 1000000 ∧ ∀ i, i < n' → (F' i).length ≤ 140 := by
  obtain ⟨y, N, Q, S, hck, hc⟩ := h
  rcases hc with ⟨rfl, h1, h2, rfl, rfl, rfl, rfl, rfl, rfl, rfl⟩ | ⟨⟨rfl, rfl, rfl, rfl, rfl, rfl⟩, hc⟩
  · obtain ⟨hp, hn, hf⟩ := hck.ok rfl
    have hb := hp.bounds
    refine ⟨by omega, fun i hi => ?_⟩
    unfold wpF
    split
    · simp
    · rcases hf i hi with h | h <;> omega
  · exact ⟨by decide, fun i hi => absurd hi (Nat.not_lt_zero i)⟩
section
variable {k r c q : Int} {n : Nat} {F : Nat → List UInt8} {D : Nat → Pt} {ln : Nat}
set_option maxHeartbeats 8000000 in
set_option maxRecDepth 100000 in
theorem Writes_go (nn dr : Int) (hn : n ≤ 2000) (hhv : Hvy D ln false) (lo : Option Addr) (cl : Nat) (A : Nat → Option Addr) (C : Nat → Nat) (po : Option Addr) (pc : Nat) (B : Nat → Option Addr) (K : Nat → Nat) (w : World) (hl : Lst w lo n A C F) (hp : Pts w (fun b => b < w.heap.size) po ln D B K) (hF : ∀ i, i < n → (F i).length ≤ 140737488355328) (h0 : 0 < ln) :
    Calls Try.prog 4 #[.agg #[.int .i64 k, .int .i64 r, .int .i64 c, .int .i64 q, .slice lo n cl], .slice po ln pc, .int .i64 nn, .int .i64 dr] w fun e w' => e = .returned (.bool true) ∧ Below w.heap.size w w' := by
  obtain ⟨yy, hyy⟩ : ∃ yy, yy = D 0 := ⟨_, rfl⟩
  have HYY : Hid (yy = D 0) := hyy
  clear hyy
  obtain ⟨xa, ka, ra, ca, qa, na, Fa, hafa⟩ := aft_ex k r c q n F (fun _ => yy) 1 1
  obtain ⟨xb, kb, rb, cb, qb, nb, Fb, hafb⟩ := aft_ex k r c q n F D ln nn
  obtain ⟨xc, kc, rc, cc, qc, nc, Fc, hwi⟩ := wip_ex k r c q n F dr
  obtain ⟨ey, N', Q', S', hck⟩ := ck_ex k r c q n F
  have HNA : Hid (na ≤ 1000000 ∧ ∀ i, i < na → (Fa i).length ≤ 140) := aft_small hafa
  have HNB : Hid (nb ≤ 1000000 ∧ ∀ i, i < nb → (Fb i).length ≤ 140) := aft_small hafb
  have HNC : Hid (nc ≤ 1000000 ∧ ∀ i, i < nc → (Fc i).length ≤ 140) := wip_small hwi
  have HAFA : Hid (Aft k r c q n F (fun _ => yy) 1 1 xa ka ra ca qa na Fa) := hafa
  have HAFB : Hid (Aft k r c q n F D ln nn xb kb rb cb qb nb Fb) := hafb
  have HWI : Hid (Wip k r c q n F dr xc kc rc cc qc nc Fc) := hwi
  have HCK : Hid (Ck k r c q n F ey N' Q' S') := hck
  clear hafa hafb hwi hck
  have bb_w : Hid (Below w.heap.size w w) := Below.refl _ _
  have HL : Hid (Lst w lo n A C F) := hl
  have HP : Hid (Pts w (fun b => b < w.heap.size) po ln D B K) := hp
  have HF : Hid (∀ i, i < n → (F i).length ≤ 140737488355328) := hF
  have HHV : Hid (Hvy D ln false) := hhv
  have hln : ln ≤ 200 := by rcases hhv with ⟨e, _⟩ | ⟨_, e, _⟩; cases e; exact e
  have HYL : Hid (∀ i, i < ln → (D i).b.length ≤ 5000) := by rcases hhv with ⟨e, _⟩ | ⟨_, _, e⟩; cases e; exact e
  clear hl hp hF hhv
  go_enter Try.func4, Try.ntmps4
  go_wp2_with fail
  obtain ⟨w0, hw_w0⟩ : ∃ w0, w0 = w.alloc (.cells #[.int .i64 k, .int .i64 r, .int .i64 c, .int .i64 q, .slice lo n cl] 27) := ⟨_, rfl⟩
  rw [← hw_w0]
  have hs_w0 : Hid (w0.heap.size = w.heap.size + 1) := by rw [hw_w0]; show _ = _; simp
  have hst_w0 : Hid (Below w.heap.size w w0) := by rw [hw_w0]; exact below_alloc _ _
  replace bb_w : Hid (Below w.heap.size w w0) := below_then bb_w.out hst_w0.out
  have hz_w0 : w.heap.size < w0.heap.size := by rw [hw_w0]; simp
  have bb_w0 : Hid (Below w0.heap.size w0 w0) := Below.refl _ _
  have ch_m : Hid (∀ v, Below w0.heap.size w0 v → v.cell? ⟨w.heap.size, 0, none⟩ = some (.int .i64 k) ∧ v.cell? ⟨w.heap.size, 1, none⟩ = some (.int .i64 r) ∧ v.cell? ⟨w.heap.size, 2, none⟩ = some (.int .i64 c) ∧ v.cell? ⟨w.heap.size, 3, none⟩ = some (.int .i64 q) ∧ v.cell? ⟨w.heap.size, 4, none⟩ = some (.slice lo n cl)) := fun v hv => ⟨blk_held hw_w0 hv 0 rfl, blk_held hw_w0 hv 1 rfl, blk_held hw_w0 hv 2 rfl, blk_held hw_w0 hv 3 rfl, blk_held hw_w0 hv 4 rfl⟩
  clear hw_w0
  refine (alive_any w0).mono ?_
  rintro e wa ⟨rfl, ha⟩
  have hst_wa : Hid (Below w0.heap.size w0 wa) := ha
  replace bb_w : Hid (Below w.heap.size w wa) := below_then bb_w.out hst_wa.out
  replace bb_w0 : Hid (Below w0.heap.size w0 wa) := below_then bb_w0.out hst_wa.out
  clear ha
  obtain ⟨rd_m0, rd_m1, rd_m2, rd_m3, rd_m4⟩ := ch_m.out wa bb_w0.out
  have ra_m0 := fun o => held rd_m0 (below_alloc wa o)
  have ra_m1 := fun o => held rd_m1 (below_alloc wa o)
  have ra_m2 := fun o => held rd_m2 (below_alloc wa o)
  have ra_m3 := fun o => held rd_m3 (below_alloc wa o)
  have ra_m4 := fun o => held rd_m4 (below_alloc wa o)
  have HMU := much_any k r c q lo n cl wa false (by simp; omega)
  have HHE : Hid (∀ v, Below wa.heap.size wa v → Calls Try.prog 19 #[.slice po ln pc] v fun e w' => e = .returned (.bool false) ∧ w' = v) := fun v hv => heavy_any HHV.out po pc B K v (HP.out.below (below_then bb_w.out hv))
  go_wp2_with (first
    | (go_at_call 18; refine HMU.mono ?_; rintro e wb ⟨rfl, hb⟩; have HB : Hid (Below wa.heap.size wa wb) := hb; obtain ⟨u0, u1, u2, u3, u4⟩ := ch_m.out wb (below_then bb_w0.out hb); clear hb)
    | (go_at_call 19; refine (HHE.out wb HB.out).mono ?_; rintro e w' ⟨rfl, hw'⟩; obtain rfl := hw'.symm))
  clear rd_m0 rd_m1 rd_m2 rd_m3 rd_m4 ra_m0 ra_m1 ra_m2 ra_m3 ra_m4
  clear HMU HHE u0 u1 u2 u3 u4
  have hst_wb : Hid (Below wa.heap.size wa wb) := HB.out
  replace bb_w : Hid (Below w.heap.size w wb) := below_then bb_w.out hst_wb.out
  replace bb_w0 : Hid (Below w0.heap.size w0 wb) := below_then bb_w0.out hst_wb.out
  refine (Twin_any k r c q wb lo n cl A C F (HL.out.below bb_w.out) (by omega) HF.out).mono ?_
  rintro e wc ⟨lox, clx, Ax, Cx, rfl, hox, hsx, hc⟩
  have HXL : Hid (Lst wc lox n Ax Cx F) := own_lst hox hsx
  have hst_wc : Hid (Below wb.heap.size wb wc) := hc
  replace bb_w : Hid (Below w.heap.size w wc) := below_then bb_w.out hst_wc.out
  replace bb_w0 : Hid (Below w0.heap.size w0 wc) := below_then bb_w0.out hst_wc.out
  have bb_wc : Hid (Below wc.heap.size wc wc) := Below.refl _ _
  clear hc hox hsx
  go_wp2_with fail
  obtain ⟨wd, hw_wd⟩ : ∃ wd, wd = wc.alloc (.cells #[.int .i64 k, .int .i64 r, .int .i64 c, .int .i64 q, .slice lox n clx] 27) := ⟨_, rfl⟩
  rw [← hw_wd]
  have hs_wd : Hid (wd.heap.size = wc.heap.size + 1) := by rw [hw_wd]; show _ = _; simp
  have hst_wd : Hid (Below wc.heap.size wc wd) := by rw [hw_wd]; exact below_alloc _ _
  replace bb_w : Hid (Below w.heap.size w wd) := below_then bb_w.out hst_wd.out
  replace bb_w0 : Hid (Below w0.heap.size w0 wd) := below_then bb_w0.out hst_wd.out
  replace bb_wc : Hid (Below wc.heap.size wc wd) := below_then bb_wc.out hst_wd.out
  have hz_wd : wc.heap.size < wd.heap.size := by rw [hw_wd]; simp
  have bb_wd : Hid (Below wd.heap.size wd wd) := Below.refl _ _
  have ch_x : Hid (∀ v, Below wd.heap.size wd v → v.cell? ⟨wc.heap.size, 0, none⟩ = some (.int .i64 k) ∧ v.cell? ⟨wc.heap.size, 1, none⟩ = some (.int .i64 r) ∧ v.cell? ⟨wc.heap.size, 2, none⟩ = some (.int .i64 c) ∧ v.cell? ⟨wc.heap.size, 3, none⟩ = some (.int .i64 q) ∧ v.cell? ⟨wc.heap.size, 4, none⟩ = some (.slice lox n clx)) := fun v hv => ⟨blk_held hw_wd hv 0 rfl, blk_held hw_wd hv 1 rfl, blk_held hw_wd hv 2 rfl, blk_held hw_wd hv 3 rfl, blk_held hw_wd hv 4 rfl⟩
  clear hw_wd
  refine (TwinPuts_any po ln pc D B K wd (HP.out.below bb_w.out) (by omega) (fun i hi => by have := HYL.out i hi; omega)).mono ?_
  rintro e we ⟨poy, pcy, By, Ky, rfl, hpy, he⟩
  have HPY : Hid (Pus false we wd.heap.size poy ln pcy D By Ky) := hpy
  have hst_we : Hid (Below wd.heap.size wd we) := he
  replace bb_w : Hid (Below w.heap.size w we) := below_then bb_w.out hst_we.out
  replace bb_w0 : Hid (Below w0.heap.size w0 we) := below_then bb_w0.out hst_we.out
  replace bb_wc : Hid (Below wc.heap.size wc we) := below_then bb_wc.out hst_we.out
  replace bb_wd : Hid (Below wd.heap.size wd we) := below_then bb_wd.out hst_we.out
  have bb_we : Hid (Below we.heap.size we we) := Below.refl _ _
  clear he hpy
  obtain ⟨bl1, of1, rfl, hcl⟩ := (HP.out.below bb_w.out).at_ h0
  obtain ⟨gy, rfl, _, _, _, hcy⟩ := pus_at HPY.out h0
  have l4 := hcl 0 h0
  have y4 := hcy 0 h0
  obtain ⟨x0, x1, x2, x3⟩ := l4
  obtain ⟨y0, y1, y2, y3⟩ := y4
  simp only [Nat.zero_mul, Nat.add_zero, Nat.zero_add] at x0 x1 x2 x3 y0 y1 y2 y3
  rw [← HYY.out] at x0 x1 x2 x3 y0 y1 y2 y3
  obtain ⟨yl, hyl⟩ : ∃ yl, yl = yy.b.length := ⟨_, rfl⟩
  have HYL0 : Hid (yl = yy.b.length) := hyl
  rw [← hyl] at x3 y3
  clear hyl
  have ax0 := fun o o2 => held x0 (below_then (below_alloc we o) (below_alloc (we.alloc o) o2))
  have ax1 := fun o o2 => held x1 (below_then (below_alloc we o) (below_alloc (we.alloc o) o2))
  have ax2 := fun o o2 => held x2 (below_then (below_alloc we o) (below_alloc (we.alloc o) o2))
  have ax3 := fun o o2 => held x3 (below_then (below_alloc we o) (below_alloc (we.alloc o) o2))
  have ay0 := fun o o2 => held y0 (below_then (below_alloc we o) (below_alloc (we.alloc o) o2))
  have ay1 := fun o o2 => held y1 (below_then (below_alloc we o) (below_alloc (we.alloc o) o2))
  have ay2 := fun o o2 => held y2 (below_then (below_alloc we o) (below_alloc (we.alloc o) o2))
  have ay3 := fun o o2 => held y3 (below_then (below_alloc we o) (below_alloc (we.alloc o) o2))
  clear hcl hcy
  obtain ⟨rd_x0, rd_x1, rd_x2, rd_x3, rd_x4⟩ := ch_x.out we bb_wd.out
  have ra_x0 := fun o => held rd_x0 (below_alloc we o)
  have ra_x1 := fun o => held rd_x1 (below_alloc we o)
  have ra_x2 := fun o => held rd_x2 (below_alloc we o)
  have ra_x3 := fun o => held rd_x3 (below_alloc we o)
  have ra_x4 := fun o => held rd_x4 (below_alloc we o)
  have rb_x0 := fun o o2 => held rd_x0 (below_then (below_alloc we o) (below_alloc (we.alloc o) o2))
  have rb_x1 := fun o o2 => held rd_x1 (below_then (below_alloc we o) (below_alloc (we.alloc o) o2))
  have rb_x2 := fun o o2 => held rd_x2 (below_then (below_alloc we o) (below_alloc (we.alloc o) o2))
  have rb_x3 := fun o o2 => held rd_x3 (below_then (below_alloc we o) (below_alloc (we.alloc o) o2))
  have rb_x4 := fun o o2 => held rd_x4 (below_then (below_alloc we o) (below_alloc (we.alloc o) o2))
  have zgy : gy < we.heap.size := World.block_lt_of_cell? we _ y0
  have zwc : wc.heap.size < we.heap.size := World.block_lt_of_cell? we _ rd_x0
  have g1 : ∀ (v : World) i u o, (v.setCell ⟨we.heap.size, i, none⟩ u).cell? ⟨gy, o, none⟩ = v.cell? ⟨gy, o, none⟩ := fun v i u o => World.cell?_of_block (Below.heap_setCell _ _ _ _ (by show gy ≠ we.heap.size; omega))
  have g2 : ∀ (v : World) i u o, (v.setCell ⟨we.heap.size, i, none⟩ u).cell? ⟨wc.heap.size, o, none⟩ = v.cell? ⟨wc.heap.size, o, none⟩ := fun v i u o => World.cell?_of_block (Below.heap_setCell _ _ _ _ (by show wc.heap.size ≠ we.heap.size; omega))
  have g3 : ∀ (v : World) i u o, (v.setCell ⟨we.heap.size + 1, i, none⟩ u).cell? ⟨wc.heap.size, o, none⟩ = v.cell? ⟨wc.heap.size, o, none⟩ := fun v i u o => World.cell?_of_block (Below.heap_setCell _ _ _ _ (by show wc.heap.size ≠ we.heap.size + 1; omega))
  have tz : (0 : Int) < (ln : Int) := by omega
  go_wp2_with fail
  clear g1 g2 g3 tz zgy zwc ax0 ax1 ax2 ax3 ay0 ay1 ay2 ay3 x0 x1 x2 x3 y0 y1 y2 y3 rd_x0 rd_x1 rd_x2 rd_x3 rd_x4 ra_x0 ra_x1 ra_x2 ra_x3 ra_x4 rb_x0 rb_x1 rb_x2 rb_x3 rb_x4
  obtain ⟨wf, hw_wf⟩ : ∃ wf, wf = we.alloc (.cells #[.int .i64 yy.d, .int .i64 yy.r, .int .i64 yy.s, .slice (B 0) yl (K 0)] 35) := ⟨_, rfl⟩
  rw [← hw_wf]
  have hs_wf : Hid (wf.heap.size = we.heap.size + 1) := by rw [hw_wf]; show _ = _; simp
  have hst_wf : Hid (Below we.heap.size we wf) := by rw [hw_wf]; exact below_alloc _ _
  replace bb_w : Hid (Below w.heap.size w wf) := below_then bb_w.out hst_wf.out
  replace bb_w0 : Hid (Below w0.heap.size w0 wf) := below_then bb_w0.out hst_wf.out
  replace bb_wc : Hid (Below wc.heap.size wc wf) := below_then bb_wc.out hst_wf.out
  replace bb_wd : Hid (Below wd.heap.size wd wf) := below_then bb_wd.out hst_wf.out
  replace bb_we : Hid (Below we.heap.size we wf) := below_then bb_we.out hst_wf.out
  have hz_wf : we.heap.size < wf.heap.size := by rw [hw_wf]; simp
  have bb_wf : Hid (Below wf.heap.size wf wf) := Below.refl _ _
  have ch_put : Hid (∀ v, Below wf.heap.size wf v → v.cell? ⟨we.heap.size, 0, none⟩ = some (.int .i64 yy.d) ∧ v.cell? ⟨we.heap.size, 1, none⟩ = some (.int .i64 yy.r) ∧ v.cell? ⟨we.heap.size, 2, none⟩ = some (.int .i64 yy.s) ∧ v.cell? ⟨we.heap.size, 3, none⟩ = some (.slice (B 0) yl (K 0))) := fun v hv => ⟨blk_held hw_wf hv 0 rfl, blk_held hw_wf hv 1 rfl, blk_held hw_wf hv 2 rfl, blk_held hw_wf hv 3 rfl⟩
  clear hw_wf
  obtain ⟨wg, hw_wg⟩ : ∃ wg, wg = wf.alloc (.cells #[.int .i64 yy.d, .int .i64 yy.r, .int .i64 yy.s, .slice (By 0) yl (Ky 0)] 35) := ⟨_, rfl⟩
  rw [← hw_wg]
  have hs_wg : Hid (wg.heap.size = wf.heap.size + 1) := by rw [hw_wg]; show _ = _; simp
  have hst_wg : Hid (Below wf.heap.size wf wg) := by rw [hw_wg]; exact below_alloc _ _
  replace bb_w : Hid (Below w.heap.size w wg) := below_then bb_w.out hst_wg.out
  replace bb_w0 : Hid (Below w0.heap.size w0 wg) := below_then bb_w0.out hst_wg.out
  replace bb_wc : Hid (Below wc.heap.size wc wg) := below_then bb_wc.out hst_wg.out
  replace bb_wd : Hid (Below wd.heap.size wd wg) := below_then bb_wd.out hst_wg.out
  replace bb_we : Hid (Below we.heap.size we wg) := below_then bb_we.out hst_wg.out
  replace bb_wf : Hid (Below wf.heap.size wf wg) := below_then bb_wf.out hst_wg.out
  clear hw_wg
  have bb_wg : Hid (Below wg.heap.size wg wg) := Below.refl _ _
  have HPU : Calls Try.prog 22 #[.agg #[.int .i64 k, .int .i64 r, .int .i64 c, .int .i64 q, .slice lox n clx], .agg #[.int .i64 yy.d, .int .i64 yy.r, .int .i64 yy.s, .slice (By 0) yl (Ky 0)]] wg fun e w' => ∃ lo' A' C', e = .returned (.tuple #[.agg #[.int .i64 ka, .int .i64 ra, .int .i64 ca, .int .i64 qa, .slice lo' na na], .int .i64 xa]) ∧ Im wg.heap.size w' lo' na A' C' Fa ∧ Below wg.heap.size wg w' := by rw [HYL0.out]; exact Put_any (y := yy) HAFA.out lox clx Ax Cx (By 0) (Ky 0) wg (HXL.out.below bb_wc.out) (by rw [HYY.out]; exact ((pus_pts HPY.out).below bb_we.out).rd 0 h0) (by rw [HYY.out]; exact ((pus_pts HPY.out).below bb_we.out).nil 0 h0)
  refine HPU.mono ?_
  rintro e wh ⟨loa, Aa, Ca, rfl, hia, hh⟩
  have HIA : Hid (Im wg.heap.size wh loa na Aa Ca Fa) := hia
  have hst_wh : Hid (Below wg.heap.size wg wh) := hh
  replace bb_w : Hid (Below w.heap.size w wh) := below_then bb_w.out hst_wh.out
  replace bb_w0 : Hid (Below w0.heap.size w0 wh) := below_then bb_w0.out hst_wh.out
  replace bb_wc : Hid (Below wc.heap.size wc wh) := below_then bb_wc.out hst_wh.out
  replace bb_wd : Hid (Below wd.heap.size wd wh) := below_then bb_wd.out hst_wh.out
  replace bb_we : Hid (Below we.heap.size we wh) := below_then bb_we.out hst_wh.out
  replace bb_wf : Hid (Below wf.heap.size wf wh) := below_then bb_wf.out hst_wh.out
  replace bb_wg : Hid (Below wg.heap.size wg wh) := below_then bb_wg.out hst_wh.out
  have bb_wh : Hid (Below wh.heap.size wh wh) := Below.refl _ _
  clear hh HPU hia
  obtain ⟨rd_x0, rd_x1, rd_x2, rd_x3, rd_x4⟩ := ch_x.out wh bb_wd.out
  have ra_x0 := fun o => held rd_x0 (below_alloc wh o)
  have ra_x1 := fun o => held rd_x1 (below_alloc wh o)
  have ra_x2 := fun o => held rd_x2 (below_alloc wh o)
  have ra_x3 := fun o => held rd_x3 (below_alloc wh o)
  have ra_x4 := fun o => held rd_x4 (below_alloc wh o)
  go_wp2_with fail
  clear rd_x0 rd_x1 rd_x2 rd_x3 rd_x4 ra_x0 ra_x1 ra_x2 ra_x3 ra_x4
  obtain ⟨wi, hw_wi⟩ : ∃ wi, wi = wh.alloc (.cells #[.int .i64 ka, .int .i64 ra, .int .i64 ca, .int .i64 qa, .slice loa na na] 27) := ⟨_, rfl⟩
  rw [← hw_wi]
  have hs_wi : Hid (wi.heap.size = wh.heap.size + 1) := by rw [hw_wi]; show _ = _; simp
  have hst_wi : Hid (Below wh.heap.size wh wi) := by rw [hw_wi]; exact below_alloc _ _
  replace bb_w : Hid (Below w.heap.size w wi) := below_then bb_w.out hst_wi.out
  replace bb_w0 : Hid (Below w0.heap.size w0 wi) := below_then bb_w0.out hst_wi.out
  replace bb_wc : Hid (Below wc.heap.size wc wi) := below_then bb_wc.out hst_wi.out
  replace bb_wd : Hid (Below wd.heap.size wd wi) := below_then bb_wd.out hst_wi.out
  replace bb_we : Hid (Below we.heap.size we wi) := below_then bb_we.out hst_wi.out
  replace bb_wf : Hid (Below wf.heap.size wf wi) := below_then bb_wf.out hst_wi.out
  replace bb_wg : Hid (Below wg.heap.size wg wi) := below_then bb_wg.out hst_wi.out
  replace bb_wh : Hid (Below wh.heap.size wh wi) := below_then bb_wh.out hst_wi.out
  have hz_wi : wh.heap.size < wi.heap.size := by rw [hw_wi]; simp
  have bb_wi : Hid (Below wi.heap.size wi wi) := Below.refl _ _
  have ch_a : Hid (∀ v, Below wi.heap.size wi v → v.cell? ⟨wh.heap.size, 0, none⟩ = some (.int .i64 ka) ∧ v.cell? ⟨wh.heap.size, 1, none⟩ = some (.int .i64 ra) ∧ v.cell? ⟨wh.heap.size, 2, none⟩ = some (.int .i64 ca) ∧ v.cell? ⟨wh.heap.size, 3, none⟩ = some (.int .i64 qa) ∧ v.cell? ⟨wh.heap.size, 4, none⟩ = some (.slice loa na na)) := fun v hv => ⟨blk_held hw_wi hv 0 rfl, blk_held hw_wi hv 1 rfl, blk_held hw_wi hv 2 rfl, blk_held hw_wi hv 3 rfl, blk_held hw_wi hv 4 rfl⟩
  clear hw_wi
  refine (After_any HAFB.out lox clx Ax Cx (some ⟨gy, 0, none⟩) pcy By Ky wi (HXL.out.below bb_wc.out) ((pus_pts HPY.out).below bb_we.out) (pus_cap HPY.out)).mono ?_
  rintro e wj ⟨lob, Ab, Cb, rfl, hib, hj⟩
  have HIB : Hid (Im wi.heap.size wj lob nb Ab Cb Fb) := hib
  have hst_wj : Hid (Below wi.heap.size wi wj) := hj
  replace bb_w : Hid (Below w.heap.size w wj) := below_then bb_w.out hst_wj.out
  replace bb_w0 : Hid (Below w0.heap.size w0 wj) := below_then bb_w0.out hst_wj.out
  replace bb_wc : Hid (Below wc.heap.size wc wj) := below_then bb_wc.out hst_wj.out
  replace bb_wd : Hid (Below wd.heap.size wd wj) := below_then bb_wd.out hst_wj.out
  replace bb_we : Hid (Below we.heap.size we wj) := below_then bb_we.out hst_wj.out
  replace bb_wf : Hid (Below wf.heap.size wf wj) := below_then bb_wf.out hst_wj.out
  replace bb_wg : Hid (Below wg.heap.size wg wj) := below_then bb_wg.out hst_wj.out
  replace bb_wh : Hid (Below wh.heap.size wh wj) := below_then bb_wh.out hst_wj.out
  replace bb_wi : Hid (Below wi.heap.size wi wj) := below_then bb_wi.out hst_wj.out
  have bb_wj : Hid (Below wj.heap.size wj wj) := Below.refl _ _
  clear hj hib
  obtain ⟨rd_x0, rd_x1, rd_x2, rd_x3, rd_x4⟩ := ch_x.out wj bb_wd.out
  have ra_x0 := fun o => held rd_x0 (below_alloc wj o)
  have ra_x1 := fun o => held rd_x1 (below_alloc wj o)
  have ra_x2 := fun o => held rd_x2 (below_alloc wj o)
  have ra_x3 := fun o => held rd_x3 (below_alloc wj o)
  have ra_x4 := fun o => held rd_x4 (below_alloc wj o)
  go_wp2_with fail
  clear rd_x0 rd_x1 rd_x2 rd_x3 rd_x4 ra_x0 ra_x1 ra_x2 ra_x3 ra_x4
  obtain ⟨wk, hw_wk⟩ : ∃ wk, wk = wj.alloc (.cells #[.int .i64 kb, .int .i64 rb, .int .i64 cb, .int .i64 qb, .slice lob nb nb] 27) := ⟨_, rfl⟩
  rw [← hw_wk]
  have hs_wk : Hid (wk.heap.size = wj.heap.size + 1) := by rw [hw_wk]; show _ = _; simp
  have hst_wk : Hid (Below wj.heap.size wj wk) := by rw [hw_wk]; exact below_alloc _ _
  replace bb_w : Hid (Below w.heap.size w wk) := below_then bb_w.out hst_wk.out
  replace bb_w0 : Hid (Below w0.heap.size w0 wk) := below_then bb_w0.out hst_wk.out
  replace bb_wc : Hid (Below wc.heap.size wc wk) := below_then bb_wc.out hst_wk.out
  replace bb_wd : Hid (Below wd.heap.size wd wk) := below_then bb_wd.out hst_wk.out
  replace bb_we : Hid (Below we.heap.size we wk) := below_then bb_we.out hst_wk.out
  replace bb_wf : Hid (Below wf.heap.size wf wk) := below_then bb_wf.out hst_wk.out
  replace bb_wg : Hid (Below wg.heap.size wg wk) := below_then bb_wg.out hst_wk.out
  replace bb_wh : Hid (Below wh.heap.size wh wk) := below_then bb_wh.out hst_wk.out
  replace bb_wi : Hid (Below wi.heap.size wi wk) := below_then bb_wi.out hst_wk.out
  replace bb_wj : Hid (Below wj.heap.size wj wk) := below_then bb_wj.out hst_wk.out
  have hz_wk : wj.heap.size < wk.heap.size := by rw [hw_wk]; simp
  have bb_wk : Hid (Below wk.heap.size wk wk) := Below.refl _ _
  have ch_b : Hid (∀ v, Below wk.heap.size wk v → v.cell? ⟨wj.heap.size, 0, none⟩ = some (.int .i64 kb) ∧ v.cell? ⟨wj.heap.size, 1, none⟩ = some (.int .i64 rb) ∧ v.cell? ⟨wj.heap.size, 2, none⟩ = some (.int .i64 cb) ∧ v.cell? ⟨wj.heap.size, 3, none⟩ = some (.int .i64 qb) ∧ v.cell? ⟨wj.heap.size, 4, none⟩ = some (.slice lob nb nb)) := fun v hv => ⟨blk_held hw_wk hv 0 rfl, blk_held hw_wk hv 1 rfl, blk_held hw_wk hv 2 rfl, blk_held hw_wk hv 3 rfl, blk_held hw_wk hv 4 rfl⟩
  clear hw_wk
  refine (Wiped_any HWI.out lox clx Ax Cx wk (HXL.out.below bb_wc.out)).mono ?_
  rintro e wl ⟨loc, Ac, Cc, rfl, hic, hl⟩
  have HIC : Hid (Im wk.heap.size wl loc nc Ac Cc Fc) := hic
  have hst_wl : Hid (Below wk.heap.size wk wl) := hl
  replace bb_w : Hid (Below w.heap.size w wl) := below_then bb_w.out hst_wl.out
  replace bb_w0 : Hid (Below w0.heap.size w0 wl) := below_then bb_w0.out hst_wl.out
  replace bb_wc : Hid (Below wc.heap.size wc wl) := below_then bb_wc.out hst_wl.out
  replace bb_wd : Hid (Below wd.heap.size wd wl) := below_then bb_wd.out hst_wl.out
  replace bb_we : Hid (Below we.heap.size we wl) := below_then bb_we.out hst_wl.out
  replace bb_wf : Hid (Below wf.heap.size wf wl) := below_then bb_wf.out hst_wl.out
  replace bb_wg : Hid (Below wg.heap.size wg wl) := below_then bb_wg.out hst_wl.out
  replace bb_wh : Hid (Below wh.heap.size wh wl) := below_then bb_wh.out hst_wl.out
  replace bb_wi : Hid (Below wi.heap.size wi wl) := below_then bb_wi.out hst_wl.out
  replace bb_wj : Hid (Below wj.heap.size wj wl) := below_then bb_wj.out hst_wl.out
  replace bb_wk : Hid (Below wk.heap.size wk wl) := below_then bb_wk.out hst_wl.out
  have bb_wl : Hid (Below wl.heap.size wl wl) := Below.refl _ _
  clear hl hic
  obtain ⟨rd_m0, rd_m1, rd_m2, rd_m3, rd_m4⟩ := ch_m.out wl bb_w0.out
  have ra_m0 := fun o => held rd_m0 (below_alloc wl o)
  have ra_m1 := fun o => held rd_m1 (below_alloc wl o)
  have ra_m2 := fun o => held rd_m2 (below_alloc wl o)
  have ra_m3 := fun o => held rd_m3 (below_alloc wl o)
  have ra_m4 := fun o => held rd_m4 (below_alloc wl o)
  obtain ⟨rd_put0, rd_put1, rd_put2, rd_put3⟩ := ch_put.out wl bb_wf.out
  have ra_put0 := fun o => held rd_put0 (below_alloc wl o)
  have ra_put1 := fun o => held rd_put1 (below_alloc wl o)
  have ra_put2 := fun o => held rd_put2 (below_alloc wl o)
  have ra_put3 := fun o => held rd_put3 (below_alloc wl o)
  go_wp2_with fail
  clear rd_m0 rd_m1 rd_m2 rd_m3 rd_m4 ra_m0 ra_m1 ra_m2 ra_m3 ra_m4 rd_put0 rd_put1 rd_put2 rd_put3 ra_put0 ra_put1 ra_put2 ra_put3
  obtain ⟨wm, hw_wm⟩ : ∃ wm, wm = wl.alloc (.cells #[.int .i64 kc, .int .i64 rc, .int .i64 cc, .int .i64 qc, .slice loc nc nc] 27) := ⟨_, rfl⟩
  rw [← hw_wm]
  have hs_wm : Hid (wm.heap.size = wl.heap.size + 1) := by rw [hw_wm]; show _ = _; simp
  have hst_wm : Hid (Below wl.heap.size wl wm) := by rw [hw_wm]; exact below_alloc _ _
  replace bb_w : Hid (Below w.heap.size w wm) := below_then bb_w.out hst_wm.out
  replace bb_w0 : Hid (Below w0.heap.size w0 wm) := below_then bb_w0.out hst_wm.out
  replace bb_wc : Hid (Below wc.heap.size wc wm) := below_then bb_wc.out hst_wm.out
  replace bb_wd : Hid (Below wd.heap.size wd wm) := below_then bb_wd.out hst_wm.out
  replace bb_we : Hid (Below we.heap.size we wm) := below_then bb_we.out hst_wm.out
  replace bb_wf : Hid (Below wf.heap.size wf wm) := below_then bb_wf.out hst_wm.out
  replace bb_wg : Hid (Below wg.heap.size wg wm) := below_then bb_wg.out hst_wm.out
  replace bb_wh : Hid (Below wh.heap.size wh wm) := below_then bb_wh.out hst_wm.out
  replace bb_wi : Hid (Below wi.heap.size wi wm) := below_then bb_wi.out hst_wm.out
  replace bb_wj : Hid (Below wj.heap.size wj wm) := below_then bb_wj.out hst_wm.out
  replace bb_wk : Hid (Below wk.heap.size wk wm) := below_then bb_wk.out hst_wm.out
  replace bb_wl : Hid (Below wl.heap.size wl wm) := below_then bb_wl.out hst_wm.out
  have hz_wm : wl.heap.size < wm.heap.size := by rw [hw_wm]; simp
  have bb_wm : Hid (Below wm.heap.size wm wm) := Below.refl _ _
  have ch_c : Hid (∀ v, Below wm.heap.size wm v → v.cell? ⟨wl.heap.size, 0, none⟩ = some (.int .i64 kc) ∧ v.cell? ⟨wl.heap.size, 1, none⟩ = some (.int .i64 rc) ∧ v.cell? ⟨wl.heap.size, 2, none⟩ = some (.int .i64 cc) ∧ v.cell? ⟨wl.heap.size, 3, none⟩ = some (.int .i64 qc) ∧ v.cell? ⟨wl.heap.size, 4, none⟩ = some (.slice loc nc nc)) := fun v hv => ⟨blk_held hw_wm hv 0 rfl, blk_held hw_wm hv 1 rfl, blk_held hw_wm hv 2 rfl, blk_held hw_wm hv 3 rfl, blk_held hw_wm hv 4 rfl⟩
  clear hw_wm
  have HPU : Calls Try.prog 23 #[.agg #[.int .i64 k, .int .i64 r, .int .i64 c, .int .i64 q, .slice lo n cl], .agg #[.int .i64 yy.d, .int .i64 yy.r, .int .i64 yy.s, .slice (B 0) yl (K 0)]] wm fun e w' => ∃ lo' cl' A' C', e = .returned (.tuple #[.agg #[.int .i64 ka, .int .i64 ra, .int .i64 ca, .int .i64 qa, .slice lo' na cl'], .int .i64 xa]) ∧ Nl wm.heap.size w' lo' na A' C' Fa ∧ Below wm.heap.size wm w' := by rw [HYL0.out]; exact Put_doc (y := yy) HAFA.out lo cl A C (B 0) (K 0) wm (HL.out.below bb_w.out) (by rw [HYY.out]; exact (HP.out.below bb_w.out).rd 0 h0) (by rw [HYY.out]; exact (HP.out.below bb_w.out).nil 0 h0)
  refine HPU.mono ?_
  rintro e wn ⟨loa2, cla2, Aa2, Ca2, rfl, hia2, hn2⟩
  have HA2 : Hid (Lst wn loa2 na Aa2 Ca2 Fa) := hia2.1
  have hst_wn : Hid (Below wm.heap.size wm wn) := hn2
  replace bb_w : Hid (Below w.heap.size w wn) := below_then bb_w.out hst_wn.out
  replace bb_w0 : Hid (Below w0.heap.size w0 wn) := below_then bb_w0.out hst_wn.out
  replace bb_wc : Hid (Below wc.heap.size wc wn) := below_then bb_wc.out hst_wn.out
  replace bb_wd : Hid (Below wd.heap.size wd wn) := below_then bb_wd.out hst_wn.out
  replace bb_we : Hid (Below we.heap.size we wn) := below_then bb_we.out hst_wn.out
  replace bb_wf : Hid (Below wf.heap.size wf wn) := below_then bb_wf.out hst_wn.out
  replace bb_wg : Hid (Below wg.heap.size wg wn) := below_then bb_wg.out hst_wn.out
  replace bb_wh : Hid (Below wh.heap.size wh wn) := below_then bb_wh.out hst_wn.out
  replace bb_wi : Hid (Below wi.heap.size wi wn) := below_then bb_wi.out hst_wn.out
  replace bb_wj : Hid (Below wj.heap.size wj wn) := below_then bb_wj.out hst_wn.out
  replace bb_wk : Hid (Below wk.heap.size wk wn) := below_then bb_wk.out hst_wn.out
  replace bb_wl : Hid (Below wl.heap.size wl wn) := below_then bb_wl.out hst_wn.out
  replace bb_wm : Hid (Below wm.heap.size wm wn) := below_then bb_wm.out hst_wn.out
  have bb_wn : Hid (Below wn.heap.size wn wn) := Below.refl _ _
  clear hn2 HPU hia2
  obtain ⟨rd_m0, rd_m1, rd_m2, rd_m3, rd_m4⟩ := ch_m.out wn bb_w0.out
  have ra_m0 := fun o => held rd_m0 (below_alloc wn o)
  have ra_m1 := fun o => held rd_m1 (below_alloc wn o)
  have ra_m2 := fun o => held rd_m2 (below_alloc wn o)
  have ra_m3 := fun o => held rd_m3 (below_alloc wn o)
  have ra_m4 := fun o => held rd_m4 (below_alloc wn o)
  go_wp2_with fail
  clear rd_m0 rd_m1 rd_m2 rd_m3 rd_m4 ra_m0 ra_m1 ra_m2 ra_m3 ra_m4
  obtain ⟨wo, hw_wo⟩ : ∃ wo, wo = wn.alloc (.cells #[.int .i64 ka, .int .i64 ra, .int .i64 ca, .int .i64 qa, .slice loa2 na cla2] 27) := ⟨_, rfl⟩
  rw [← hw_wo]
  have hs_wo : Hid (wo.heap.size = wn.heap.size + 1) := by rw [hw_wo]; show _ = _; simp
  have hst_wo : Hid (Below wn.heap.size wn wo) := by rw [hw_wo]; exact below_alloc _ _
  replace bb_w : Hid (Below w.heap.size w wo) := below_then bb_w.out hst_wo.out
  replace bb_w0 : Hid (Below w0.heap.size w0 wo) := below_then bb_w0.out hst_wo.out
  replace bb_wc : Hid (Below wc.heap.size wc wo) := below_then bb_wc.out hst_wo.out
  replace bb_wd : Hid (Below wd.heap.size wd wo) := below_then bb_wd.out hst_wo.out
  replace bb_we : Hid (Below we.heap.size we wo) := below_then bb_we.out hst_wo.out
  replace bb_wf : Hid (Below wf.heap.size wf wo) := below_then bb_wf.out hst_wo.out
  replace bb_wg : Hid (Below wg.heap.size wg wo) := below_then bb_wg.out hst_wo.out
  replace bb_wh : Hid (Below wh.heap.size wh wo) := below_then bb_wh.out hst_wo.out
  replace bb_wi : Hid (Below wi.heap.size wi wo) := below_then bb_wi.out hst_wo.out
  replace bb_wj : Hid (Below wj.heap.size wj wo) := below_then bb_wj.out hst_wo.out
  replace bb_wk : Hid (Below wk.heap.size wk wo) := below_then bb_wk.out hst_wo.out
  replace bb_wl : Hid (Below wl.heap.size wl wo) := below_then bb_wl.out hst_wo.out
  replace bb_wm : Hid (Below wm.heap.size wm wo) := below_then bb_wm.out hst_wo.out
  replace bb_wn : Hid (Below wn.heap.size wn wo) := below_then bb_wn.out hst_wo.out
  have hz_wo : wn.heap.size < wo.heap.size := by rw [hw_wo]; simp
  have bb_wo : Hid (Below wo.heap.size wo wo) := Below.refl _ _
  have ch_a2 : Hid (∀ v, Below wo.heap.size wo v → v.cell? ⟨wn.heap.size, 0, none⟩ = some (.int .i64 ka) ∧ v.cell? ⟨wn.heap.size, 1, none⟩ = some (.int .i64 ra) ∧ v.cell? ⟨wn.heap.size, 2, none⟩ = some (.int .i64 ca) ∧ v.cell? ⟨wn.heap.size, 3, none⟩ = some (.int .i64 qa) ∧ v.cell? ⟨wn.heap.size, 4, none⟩ = some (.slice loa2 na cla2)) := fun v hv => ⟨blk_held hw_wo hv 0 rfl, blk_held hw_wo hv 1 rfl, blk_held hw_wo hv 2 rfl, blk_held hw_wo hv 3 rfl, blk_held hw_wo hv 4 rfl⟩
  clear hw_wo
  refine (After_doc HAFB.out lo cl A C (some ⟨bl1, of1, none⟩) pc B K wo (HL.out.below bb_w.out) (HP.out.below bb_w.out)).mono ?_
  rintro e wp ⟨lob2, clb2, Ab2, Cb2, rfl, hib2, hp2⟩
  have HB2 : Hid (Lst wp lob2 nb Ab2 Cb2 Fb) := hib2.1
  have hst_wp : Hid (Below wo.heap.size wo wp) := hp2
  replace bb_w : Hid (Below w.heap.size w wp) := below_then bb_w.out hst_wp.out
  replace bb_w0 : Hid (Below w0.heap.size w0 wp) := below_then bb_w0.out hst_wp.out
  replace bb_wc : Hid (Below wc.heap.size wc wp) := below_then bb_wc.out hst_wp.out
  replace bb_wd : Hid (Below wd.heap.size wd wp) := below_then bb_wd.out hst_wp.out
  replace bb_we : Hid (Below we.heap.size we wp) := below_then bb_we.out hst_wp.out
  replace bb_wf : Hid (Below wf.heap.size wf wp) := below_then bb_wf.out hst_wp.out
  replace bb_wg : Hid (Below wg.heap.size wg wp) := below_then bb_wg.out hst_wp.out
  replace bb_wh : Hid (Below wh.heap.size wh wp) := below_then bb_wh.out hst_wp.out
  replace bb_wi : Hid (Below wi.heap.size wi wp) := below_then bb_wi.out hst_wp.out
  replace bb_wj : Hid (Below wj.heap.size wj wp) := below_then bb_wj.out hst_wp.out
  replace bb_wk : Hid (Below wk.heap.size wk wp) := below_then bb_wk.out hst_wp.out
  replace bb_wl : Hid (Below wl.heap.size wl wp) := below_then bb_wl.out hst_wp.out
  replace bb_wm : Hid (Below wm.heap.size wm wp) := below_then bb_wm.out hst_wp.out
  replace bb_wn : Hid (Below wn.heap.size wn wp) := below_then bb_wn.out hst_wp.out
  replace bb_wo : Hid (Below wo.heap.size wo wp) := below_then bb_wo.out hst_wp.out
  have bb_wp : Hid (Below wp.heap.size wp wp) := Below.refl _ _
  clear hp2 hib2
  obtain ⟨rd_m0, rd_m1, rd_m2, rd_m3, rd_m4⟩ := ch_m.out wp bb_w0.out
  have ra_m0 := fun o => held rd_m0 (below_alloc wp o)
  have ra_m1 := fun o => held rd_m1 (below_alloc wp o)
  have ra_m2 := fun o => held rd_m2 (below_alloc wp o)
  have ra_m3 := fun o => held rd_m3 (below_alloc wp o)
  have ra_m4 := fun o => held rd_m4 (below_alloc wp o)
  go_wp2_with fail
  clear rd_m0 rd_m1 rd_m2 rd_m3 rd_m4 ra_m0 ra_m1 ra_m2 ra_m3 ra_m4
  obtain ⟨wq, hw_wq⟩ : ∃ wq, wq = wp.alloc (.cells #[.int .i64 kb, .int .i64 rb, .int .i64 cb, .int .i64 qb, .slice lob2 nb clb2] 27) := ⟨_, rfl⟩
  rw [← hw_wq]
  have hs_wq : Hid (wq.heap.size = wp.heap.size + 1) := by rw [hw_wq]; show _ = _; simp
  have hst_wq : Hid (Below wp.heap.size wp wq) := by rw [hw_wq]; exact below_alloc _ _
  replace bb_w : Hid (Below w.heap.size w wq) := below_then bb_w.out hst_wq.out
  replace bb_w0 : Hid (Below w0.heap.size w0 wq) := below_then bb_w0.out hst_wq.out
  replace bb_wc : Hid (Below wc.heap.size wc wq) := below_then bb_wc.out hst_wq.out
  replace bb_wd : Hid (Below wd.heap.size wd wq) := below_then bb_wd.out hst_wq.out
  replace bb_we : Hid (Below we.heap.size we wq) := below_then bb_we.out hst_wq.out
  replace bb_wf : Hid (Below wf.heap.size wf wq) := below_then bb_wf.out hst_wq.out
  replace bb_wg : Hid (Below wg.heap.size wg wq) := below_then bb_wg.out hst_wq.out
  replace bb_wh : Hid (Below wh.heap.size wh wq) := below_then bb_wh.out hst_wq.out
  replace bb_wi : Hid (Below wi.heap.size wi wq) := below_then bb_wi.out hst_wq.out
  replace bb_wj : Hid (Below wj.heap.size wj wq) := below_then bb_wj.out hst_wq.out
  replace bb_wk : Hid (Below wk.heap.size wk wq) := below_then bb_wk.out hst_wq.out
  replace bb_wl : Hid (Below wl.heap.size wl wq) := below_then bb_wl.out hst_wq.out
  replace bb_wm : Hid (Below wm.heap.size wm wq) := below_then bb_wm.out hst_wq.out
  replace bb_wn : Hid (Below wn.heap.size wn wq) := below_then bb_wn.out hst_wq.out
  replace bb_wo : Hid (Below wo.heap.size wo wq) := below_then bb_wo.out hst_wq.out
  replace bb_wp : Hid (Below wp.heap.size wp wq) := below_then bb_wp.out hst_wq.out
  have hz_wq : wp.heap.size < wq.heap.size := by rw [hw_wq]; simp
  have bb_wq : Hid (Below wq.heap.size wq wq) := Below.refl _ _
  have ch_b2 : Hid (∀ v, Below wq.heap.size wq v → v.cell? ⟨wp.heap.size, 0, none⟩ = some (.int .i64 kb) ∧ v.cell? ⟨wp.heap.size, 1, none⟩ = some (.int .i64 rb) ∧ v.cell? ⟨wp.heap.size, 2, none⟩ = some (.int .i64 cb) ∧ v.cell? ⟨wp.heap.size, 3, none⟩ = some (.int .i64 qb) ∧ v.cell? ⟨wp.heap.size, 4, none⟩ = some (.slice lob2 nb clb2)) := fun v hv => ⟨blk_held hw_wq hv 0 rfl, blk_held hw_wq hv 1 rfl, blk_held hw_wq hv 2 rfl, blk_held hw_wq hv 3 rfl, blk_held hw_wq hv 4 rfl⟩
  clear hw_wq
  refine (Wiped_doc HWI.out lo cl A C wq (HL.out.below bb_w.out)).mono ?_
  rintro e wr ⟨loc2, clc2, Ac2, Cc2, rfl, hic2, hr2⟩
  have HC2 : Hid (Lst wr loc2 nc Ac2 Cc2 Fc) := hic2.1
  have hst_wr : Hid (Below wq.heap.size wq wr) := hr2
  replace bb_w : Hid (Below w.heap.size w wr) := below_then bb_w.out hst_wr.out
  replace bb_w0 : Hid (Below w0.heap.size w0 wr) := below_then bb_w0.out hst_wr.out
  replace bb_wc : Hid (Below wc.heap.size wc wr) := below_then bb_wc.out hst_wr.out
  replace bb_wd : Hid (Below wd.heap.size wd wr) := below_then bb_wd.out hst_wr.out
  replace bb_we : Hid (Below we.heap.size we wr) := below_then bb_we.out hst_wr.out
  replace bb_wf : Hid (Below wf.heap.size wf wr) := below_then bb_wf.out hst_wr.out
  replace bb_wg : Hid (Below wg.heap.size wg wr) := below_then bb_wg.out hst_wr.out
  replace bb_wh : Hid (Below wh.heap.size wh wr) := below_then bb_wh.out hst_wr.out
  replace bb_wi : Hid (Below wi.heap.size wi wr) := below_then bb_wi.out hst_wr.out
  replace bb_wj : Hid (Below wj.heap.size wj wr) := below_then bb_wj.out hst_wr.out
  replace bb_wk : Hid (Below wk.heap.size wk wr) := below_then bb_wk.out hst_wr.out
  replace bb_wl : Hid (Below wl.heap.size wl wr) := below_then bb_wl.out hst_wr.out
  replace bb_wm : Hid (Below wm.heap.size wm wr) := below_then bb_wm.out hst_wr.out
  replace bb_wn : Hid (Below wn.heap.size wn wr) := below_then bb_wn.out hst_wr.out
  replace bb_wo : Hid (Below wo.heap.size wo wr) := below_then bb_wo.out hst_wr.out
  replace bb_wp : Hid (Below wp.heap.size wp wr) := below_then bb_wp.out hst_wr.out
  replace bb_wq : Hid (Below wq.heap.size wq wr) := below_then bb_wq.out hst_wr.out
  have bb_wr : Hid (Below wr.heap.size wr wr) := Below.refl _ _
  clear hr2 hic2
  go_wp2_with fail
  obtain ⟨ws, hw_ws⟩ : ∃ ws, ws = wr.alloc (.cells #[.int .i64 kc, .int .i64 rc, .int .i64 cc, .int .i64 qc, .slice loc2 nc clc2] 27) := ⟨_, rfl⟩
  rw [← hw_ws]
  have hs_ws : Hid (ws.heap.size = wr.heap.size + 1) := by rw [hw_ws]; show _ = _; simp
  have hst_ws : Hid (Below wr.heap.size wr ws) := by rw [hw_ws]; exact below_alloc _ _
  replace bb_w : Hid (Below w.heap.size w ws) := below_then bb_w.out hst_ws.out
  replace bb_w0 : Hid (Below w0.heap.size w0 ws) := below_then bb_w0.out hst_ws.out
  replace bb_wc : Hid (Below wc.heap.size wc ws) := below_then bb_wc.out hst_ws.out
  replace bb_wd : Hid (Below wd.heap.size wd ws) := below_then bb_wd.out hst_ws.out
  replace bb_we : Hid (Below we.heap.size we ws) := below_then bb_we.out hst_ws.out
  replace bb_wf : Hid (Below wf.heap.size wf ws) := below_then bb_wf.out hst_ws.out
  replace bb_wg : Hid (Below wg.heap.size wg ws) := below_then bb_wg.out hst_ws.out
  replace bb_wh : Hid (Below wh.heap.size wh ws) := below_then bb_wh.out hst_ws.out
  replace bb_wi : Hid (Below wi.heap.size wi ws) := below_then bb_wi.out hst_ws.out
  replace bb_wj : Hid (Below wj.heap.size wj ws) := below_then bb_wj.out hst_ws.out
  replace bb_wk : Hid (Below wk.heap.size wk ws) := below_then bb_wk.out hst_ws.out
  replace bb_wl : Hid (Below wl.heap.size wl ws) := below_then bb_wl.out hst_ws.out
  replace bb_wm : Hid (Below wm.heap.size wm ws) := below_then bb_wm.out hst_ws.out
  replace bb_wn : Hid (Below wn.heap.size wn ws) := below_then bb_wn.out hst_ws.out
  replace bb_wo : Hid (Below wo.heap.size wo ws) := below_then bb_wo.out hst_ws.out
  replace bb_wp : Hid (Below wp.heap.size wp ws) := below_then bb_wp.out hst_ws.out
  replace bb_wq : Hid (Below wq.heap.size wq ws) := below_then bb_wq.out hst_ws.out
  replace bb_wr : Hid (Below wr.heap.size wr ws) := below_then bb_wr.out hst_ws.out
  have hz_ws : wr.heap.size < ws.heap.size := by rw [hw_ws]; simp
  have bb_ws : Hid (Below ws.heap.size ws ws) := Below.refl _ _
  have ch_c2 : Hid (∀ v, Below ws.heap.size ws v → v.cell? ⟨wr.heap.size, 0, none⟩ = some (.int .i64 kc) ∧ v.cell? ⟨wr.heap.size, 1, none⟩ = some (.int .i64 rc) ∧ v.cell? ⟨wr.heap.size, 2, none⟩ = some (.int .i64 cc) ∧ v.cell? ⟨wr.heap.size, 3, none⟩ = some (.int .i64 qc) ∧ v.cell? ⟨wr.heap.size, 4, none⟩ = some (.slice loc2 nc clc2)) := fun v hv => ⟨blk_held hw_ws hv 0 rfl, blk_held hw_ws hv 1 rfl, blk_held hw_ws hv 2 rfl, blk_held hw_ws hv 3 rfl, blk_held hw_ws hv 4 rfl⟩
  clear hw_ws
  have bb_ws : Hid (Below ws.heap.size ws ws) := Below.refl _ _
  have HSA : Hid (∀ v, Below ws.heap.size ws v → Calls Try.prog 26 #[.agg #[.int .i64 ka, .int .i64 ra, .int .i64 ca, .int .i64 qa, .slice loa na na], .agg #[.int .i64 ka, .int .i64 ra, .int .i64 ca, .int .i64 qa, .slice loa2 na cla2]] v fun e w' => e = .returned (.bool true) ∧ Below v.heap.size v w') := fun v hv => Same_doc (sme_refl _ _ _ _ _ _) loa loa2 na cla2 Aa Aa2 Ca Ca2 v HNA.out.1 (HIA.out.lst.below (below_then bb_wh.out hv)) (HA2.out.below (below_then bb_wn.out hv))
  have HSB : Hid (∀ v, Below ws.heap.size ws v → Calls Try.prog 26 #[.agg #[.int .i64 kb, .int .i64 rb, .int .i64 cb, .int .i64 qb, .slice lob nb nb], .agg #[.int .i64 kb, .int .i64 rb, .int .i64 cb, .int .i64 qb, .slice lob2 nb clb2]] v fun e w' => e = .returned (.bool true) ∧ Below v.heap.size v w') := fun v hv => Same_doc (sme_refl _ _ _ _ _ _) lob lob2 nb clb2 Ab Ab2 Cb Cb2 v HNB.out.1 (HIB.out.lst.below (below_then bb_wj.out hv)) (HB2.out.below (below_then bb_wp.out hv))
  have HSC : Hid (∀ v, Below ws.heap.size ws v → Calls Try.prog 26 #[.agg #[.int .i64 kc, .int .i64 rc, .int .i64 cc, .int .i64 qc, .slice loc nc nc], .agg #[.int .i64 kc, .int .i64 rc, .int .i64 cc, .int .i64 qc, .slice loc2 nc clc2]] v fun e w' => e = .returned (.bool true) ∧ Below v.heap.size v w') := fun v hv => Same_doc (sme_refl _ _ _ _ _ _) loc loc2 nc clc2 Ac Ac2 Cc Cc2 v HNC.out.1 (HIC.out.lst.below (below_then bb_wl.out hv)) (HC2.out.below (below_then bb_wr.out hv))
  have HC1 : Hid (∀ v, Below ws.heap.size ws v → Calls Try.prog 17 #[.agg #[.int .i64 k, .int .i64 r, .int .i64 c, .int .i64 q, .slice lox n clx]] v fun e w' => e = .returned (.int .i64 ey) ∧ Below v.heap.size v w') := fun v hv => Check_img HCK.out lox clx Ax Cx v (HXL.out.below (below_then bb_wc.out hv))
  have HC3 : Hid (∀ v, Below ws.heap.size ws v → Calls Try.prog 27 #[.agg #[.int .i64 k, .int .i64 r, .int .i64 c, .int .i64 q, .slice lo n cl]] v fun e w' => e = .returned (.int .i64 ey) ∧ Below v.heap.size v w') := fun v hv => Check_doc HCK.out lo cl A C v (HL.out.below (below_then bb_w.out hv))
  have eyy : (ey == ey) = true := by simp
  refine wp_region_held_drew (S := (fun v => Below ws.heap.size ws v)) (by kernel_rfl) (below_drew _ _) (fun hHeld => ?_)
  refine wpAnyH_take (i := 0) (oi := _) (v := .agg #[.int .i64 ka, .int .i64 ra, .int .i64 ca, .int .i64 qa, .slice loa na na]) rfl (by kernel_rfl) (by kernel_rfl) (by kernel_rfl) (fun _ _ _ h => h) (Or.inl ⟨by rfl, ?_⟩) (by assumption) ?_
  · intro w' hSw
    try dsimp only at hSw
    obtain ⟨l0, l1, l2, l3, l4⟩ := ch_a.out w' (below_then bb_wi.out hSw)
    go_simp <;> first | with_reducible rfl | assumption
  simp only [Act.put]
  refine wpAnyH_take (i := 1) (oi := _) (v := .agg #[.int .i64 ka, .int .i64 ra, .int .i64 ca, .int .i64 qa, .slice loa2 na cla2]) rfl (by kernel_rfl) (by kernel_rfl) (by kernel_rfl) (fun _ _ _ h => h) (Or.inl ⟨by rfl, ?_⟩) (by assumption) ?_
  · intro w' hSw
    try dsimp only at hSw
    obtain ⟨l0, l1, l2, l3, l4⟩ := ch_a2.out w' (below_then bb_wo.out hSw)
    go_simp <;> first | with_reducible rfl | assumption
  simp only [Act.put]
  refine wpAnyH_ready (rs := [2]) (by kernel_rfl) (by simp) ?_
  refine AllReadyH.cons (o := _) rfl (fun K hK => ?_) AllReadyH.nil
  go_simp
  refine (HSA.out _ (below_drew _ _)).mono ?_
  rintro e t1 ⟨rfl, h1⟩
  have T1 : Hid (Below ws.heap.size ws t1) := of_drew h1
  clear h1
  refine hK.out _ _ T1.out (fun hHeld => ?_)
  clear hK K
  try simp only [Act.put]
  refine wpAnyH_take (i := 3) (oi := _) (v := .bool true) rfl (by kernel_rfl) (by kernel_rfl) (by kernel_rfl) (fun _ _ _ h => h) (Or.inl ⟨by rfl, ?_⟩) (by assumption) ?_
  · intro w' hSw
    try dsimp only at hSw
    go_simp <;> first | with_reducible rfl | assumption
  simp only [Act.put]
  refine wpAnyH_take (i := 4) (oi := _) (v := .agg #[.int .i64 kb, .int .i64 rb, .int .i64 cb, .int .i64 qb, .slice lob nb nb]) rfl (by kernel_rfl) (by kernel_rfl) (by kernel_rfl) (fun _ _ _ h => h) (Or.inl ⟨by rfl, ?_⟩) (by assumption) ?_
  · intro w' hSw
    try dsimp only at hSw
    obtain ⟨l0, l1, l2, l3, l4⟩ := ch_b.out w' (below_then bb_wk.out hSw)
    go_simp <;> first | with_reducible rfl | assumption
  simp only [Act.put]
  refine wpAnyH_take (i := 5) (oi := _) (v := .agg #[.int .i64 kb, .int .i64 rb, .int .i64 cb, .int .i64 qb, .slice lob2 nb clb2]) rfl (by kernel_rfl) (by kernel_rfl) (by kernel_rfl) (fun _ _ _ h => h) (Or.inl ⟨by rfl, ?_⟩) (by assumption) ?_
  · intro w' hSw
    try dsimp only at hSw
    obtain ⟨l0, l1, l2, l3, l4⟩ := ch_b2.out w' (below_then bb_wq.out hSw)
    go_simp <;> first | with_reducible rfl | assumption
  simp only [Act.put]
  refine wpAnyH_ready (rs := [6]) (by kernel_rfl) (by simp) ?_
  refine AllReadyH.cons (o := _) rfl (fun K hK => ?_) AllReadyH.nil
  go_simp
  refine (HSB.out t1 T1.out).mono ?_
  rintro e t2 ⟨rfl, h1⟩
  have T2 : Hid (Below ws.heap.size ws t2) := below_then T1.out h1
  clear h1
  refine hK.out _ _ T2.out (fun hHeld => ?_)
  clear hK K
  try simp only [Act.put]
  refine wpAnyH_take (i := 7) (oi := _) (v := .bool true) rfl (by kernel_rfl) (by kernel_rfl) (by kernel_rfl) (fun _ _ _ h => h) (Or.inl ⟨by rfl, ?_⟩) (by assumption) ?_
  · intro w' hSw
    try dsimp only at hSw
    go_simp <;> first | with_reducible rfl | assumption
  simp only [Act.put]
  refine wpAnyH_take (i := 8) (oi := { dst := some 95, op := Op.move (Operand.tmp 94), type := 4, pos := "law.go:67", after := #[{ on := 7, ground := Ground.data }, { on := 6, ground := Ground.chain }], guard := none }) (v := .bool true) rfl (by kernel_rfl) (by kernel_rfl) (by kernel_rfl) (fun _ _ _ h => h) (Or.inl ⟨by rfl, ?_⟩) (by assumption) ?_
  · intro w' hSw
    try dsimp only at hSw
    go_simp <;> first | with_reducible rfl | assumption
  simp only [Act.put]
  refine wpAnyH_take (i := 9) (oi := { dst := some 96, op := Op.load 27 (Operand.tmp 18), type := 27, pos := "law.go:67", after := #[{ on := 8, ground := Ground.guard }], guard := some (8, true) }) (v := .agg #[.int .i64 kc, .int .i64 rc, .int .i64 cc, .int .i64 qc, .slice loc nc nc]) rfl (by kernel_rfl) (by kernel_rfl) (by kernel_rfl) (fun _ _ _ h => h) (Or.inl ⟨by rfl, ?_⟩) (by assumption) ?_
  · intro w' hSw
    try dsimp only at hSw
    obtain ⟨l0, l1, l2, l3, l4⟩ := ch_c.out w' (below_then bb_wm.out hSw)
    go_simp <;> first | with_reducible rfl | assumption
  simp only [Act.put]
  refine wpAnyH_take (i := 10) (oi := { dst := some 97, op := Op.load 27 (Operand.tmp 24), type := 27, pos := "law.go:67", after := #[{ on := 8, ground := Ground.guard }], guard := some (8, true) }) (v := .agg #[.int .i64 kc, .int .i64 rc, .int .i64 cc, .int .i64 qc, .slice loc2 nc clc2]) rfl (by kernel_rfl) (by kernel_rfl) (by kernel_rfl) (fun _ _ _ h => h) (Or.inl ⟨by rfl, ?_⟩) (by assumption) ?_
  · intro w' hSw
    try dsimp only at hSw
    obtain ⟨l0, l1, l2, l3, l4⟩ := ch_c2.out w' (below_then bb_ws.out hSw)
    go_simp <;> first | with_reducible rfl | assumption
  simp only [Act.put]
  refine wpAnyH_ready (rs := [11]) (by kernel_rfl) (by simp) ?_
  refine AllReadyH.cons (o := { dst := some 98, op := Op.call { callee := Callee.value (Operand.func 26), args := #[Operand.tmp 96, Operand.tmp 97], argTypes := #[27, 27] }, type := 4, pos := "law.go:67", after := #[{ on := 9, ground := Ground.data }, { on := 10, ground := Ground.data }, { on := 8, ground := Ground.chain }, { on := 8, ground := Ground.guard }], guard := some (8, true) }) rfl (fun K hK => ?_) AllReadyH.nil
  go_simp
  refine (HSC.out t2 T2.out).mono ?_
  rintro e t3 ⟨rfl, h1⟩
  have T3 : Hid (Below ws.heap.size ws t3) := below_then T2.out h1
  clear h1
  refine hK.out _ _ T3.out (fun hHeld => ?_)
  clear hK K
  try simp only [Act.put]
  refine wpAnyH_take (i := 12) (oi := { dst := some 99, op := Op.pick (Operand.tmp 95) (Operand.tmp 98) (Operand.const (Value.bool false)), type := 4, pos := "law.go:67", after := #[{ on := 8, ground := Ground.data }, { on := 11, ground := Ground.data }], guard := none }) (v := .bool true) rfl (by kernel_rfl) (by kernel_rfl) (by kernel_rfl) (fun _ _ _ h => h) (Or.inl ⟨by rfl, ?_⟩) (by assumption) ?_
  · intro w' hSw
    try dsimp only at hSw
    go_simp <;> first | with_reducible rfl | assumption
  simp only [Act.put]
  refine wpAnyH_take (i := 13) (oi := { dst := some 100, op := Op.move (Operand.tmp 99), type := 4, pos := "law.go:67", after := #[{ on := 12, ground := Ground.data }, { on := 11, ground := Ground.chain }], guard := none }) (v := .bool true) rfl (by kernel_rfl) (by kernel_rfl) (by kernel_rfl) (fun _ _ _ h => h) (Or.inl ⟨by rfl, ?_⟩) (by assumption) ?_
  · intro w' hSw
    try dsimp only at hSw
    go_simp <;> first | with_reducible rfl | assumption
  simp only [Act.put]
  refine wpAnyH_take (i := 14) (oi := { dst := some 101, op := Op.load 27 (Operand.tmp 10), type := 27, pos := "law.go:67", after := #[{ on := 13, ground := Ground.guard }], guard := some (13, true) }) (v := .agg #[.int .i64 k, .int .i64 r, .int .i64 c, .int .i64 q, .slice lox n clx]) rfl (by kernel_rfl) (by kernel_rfl) (by kernel_rfl) (fun _ _ _ h => h) (Or.inl ⟨by rfl, ?_⟩) (by assumption) ?_
  · intro w' hSw
    try dsimp only at hSw
    obtain ⟨l0, l1, l2, l3, l4⟩ := ch_x.out w' (below_then bb_wd.out hSw)
    go_simp <;> first | with_reducible rfl | assumption
  simp only [Act.put]
  refine wpAnyH_take (i := 16) (oi := { dst := some 103, op := Op.load 27 (Operand.tmp 4), type := 27, pos := "law.go:67", after := #[{ on := 13, ground := Ground.guard }], guard := some (13, true) }) (v := .agg #[.int .i64 k, .int .i64 r, .int .i64 c, .int .i64 q, .slice lo n cl]) rfl (by kernel_rfl) (by kernel_rfl) (by kernel_rfl) (fun _ _ _ h => h) (Or.inl ⟨by rfl, ?_⟩) (by assumption) ?_
  · intro w' hSw
    try dsimp only at hSw
    obtain ⟨l0, l1, l2, l3, l4⟩ := ch_m.out w' (below_then bb_w0.out hSw)
    go_simp <;> first | with_reducible rfl | assumption
  simp only [Act.put]
  refine wpAnyH_ready (rs := [15]) (by kernel_rfl) (by simp) ?_
  refine AllReadyH.cons (o := { dst := some 102, op := Op.call { callee := Callee.value (Operand.func 17), args := #[Operand.tmp 101], argTypes := #[27] }, type := 28, pos := "law.go:67", after := #[{ on := 14, ground := Ground.data }, { on := 13, ground := Ground.chain }, { on := 13, ground := Ground.guard }], guard := some (13, true) }) rfl (fun K hK => ?_) AllReadyH.nil
  go_simp
  refine (HC1.out t3 T3.out).mono ?_
  rintro e t4 ⟨rfl, h1⟩
  have T4 : Hid (Below ws.heap.size ws t4) := below_then T3.out h1
  clear h1
  refine hK.out _ _ T4.out (fun hHeld => ?_)
  clear hK K
  try simp only [Act.put]
  refine wpAnyH_ready (rs := [17]) (by kernel_rfl) (by simp) ?_
  refine AllReadyH.cons (o := { dst := some 104, op := Op.call { callee := Callee.value (Operand.func 27), args := #[Operand.tmp 103], argTypes := #[27] }, type := 28, pos := "law.go:67", after := #[{ on := 16, ground := Ground.data }, { on := 15, ground := Ground.chain }, { on := 13, ground := Ground.guard }], guard := some (13, true) }) rfl (fun K hK => ?_) AllReadyH.nil
  go_simp
  refine (HC3.out t4 T4.out).mono ?_
  rintro e wt ⟨rfl, h1⟩
  have T5 : Hid (Below ws.heap.size ws wt) := below_then T4.out h1
  clear h1
  refine hK.out _ _ T5.out (fun hHeld => ?_)
  clear hK K
  try simp only [Act.put]
  refine wpAnyH_take (i := 18) (oi := { dst := some 105, op := Op.binOp BinOp.eql 28 (Operand.tmp 102) (Operand.tmp 104) 28, type := 4, pos := "law.go:67", after := #[{ on := 15, ground := Ground.data }, { on := 17, ground := Ground.data }, { on := 13, ground := Ground.guard }], guard := some (13, true) }) (v := .bool true) rfl (by kernel_rfl) (by kernel_rfl) (by kernel_rfl) (fun _ _ _ h => h) (Or.inl ⟨by rfl, ?_⟩) (by assumption) ?_
  · intro w' hSw
    try dsimp only at hSw
    go_simp <;> first | with_reducible rfl | assumption
  simp only [Act.put]
  refine wpAnyH_take (i := 19) (oi := { dst := some 106, op := Op.pick (Operand.tmp 100) (Operand.tmp 105) (Operand.const (Value.bool false)), type := 4, pos := "law.go:67", after := #[{ on := 13, ground := Ground.data }, { on := 18, ground := Ground.data }], guard := none }) (v := .bool true) rfl (by kernel_rfl) (by kernel_rfl) (by kernel_rfl) (fun _ _ _ h => h) (Or.inl ⟨by rfl, ?_⟩) (by assumption) ?_
  · intro w' hSw
    try dsimp only at hSw
    go_simp <;> first | with_reducible rfl | assumption
  simp only [Act.put]
  refine wpAnyH_take (i := 20) (oi := { dst := some 26, op := Op.assign (Operand.tmp 106), type := 4, pos := "law.go:67", after := #[{ on := 19, ground := Ground.data }, { on := 17, ground := Ground.chain }, { on := 0, ground := Ground.phase }, { on := 1, ground := Ground.phase }, { on := 2, ground := Ground.phase }, { on := 3, ground := Ground.phase }, { on := 4, ground := Ground.phase }, { on := 5, ground := Ground.phase }, { on := 6, ground := Ground.phase }, { on := 7, ground := Ground.phase }, { on := 8, ground := Ground.phase }, { on := 9, ground := Ground.phase }, { on := 10, ground := Ground.phase }, { on := 11, ground := Ground.phase }, { on := 12, ground := Ground.phase }, { on := 13, ground := Ground.phase }, { on := 14, ground := Ground.phase }, { on := 15, ground := Ground.phase }, { on := 16, ground := Ground.phase }, { on := 17, ground := Ground.phase }, { on := 18, ground := Ground.phase }, { on := 19, ground := Ground.phase }], guard := none }) (v := .bool true) rfl (by kernel_rfl) (by kernel_rfl) (by kernel_rfl) (fun _ _ _ h => h) (Or.inl ⟨by rfl, ?_⟩) (by assumption) ?_
  · intro w' hSw
    try dsimp only at hSw
    go_simp <;> first | with_reducible rfl | assumption
  simp only [Act.put]
  refine wpAnyH_done (by kernel_rfl) ?_ _
  clear T1 T2 T3 T4 HSA HSB HSC HC1 HC3 hHeld
  have hst_wt : Hid (Below ws.heap.size ws wt) := T5.out
  replace bb_w : Hid (Below w.heap.size w wt) := below_then bb_w.out hst_wt.out
  replace bb_w0 : Hid (Below w0.heap.size w0 wt) := below_then bb_w0.out hst_wt.out
  replace bb_wc : Hid (Below wc.heap.size wc wt) := below_then bb_wc.out hst_wt.out
  replace bb_wd : Hid (Below wd.heap.size wd wt) := below_then bb_wd.out hst_wt.out
  replace bb_we : Hid (Below we.heap.size we wt) := below_then bb_we.out hst_wt.out
  replace bb_wf : Hid (Below wf.heap.size wf wt) := below_then bb_wf.out hst_wt.out
  replace bb_wg : Hid (Below wg.heap.size wg wt) := below_then bb_wg.out hst_wt.out
  replace bb_wh : Hid (Below wh.heap.size wh wt) := below_then bb_wh.out hst_wt.out
  replace bb_wi : Hid (Below wi.heap.size wi wt) := below_then bb_wi.out hst_wt.out
  replace bb_wj : Hid (Below wj.heap.size wj wt) := below_then bb_wj.out hst_wt.out
  replace bb_wk : Hid (Below wk.heap.size wk wt) := below_then bb_wk.out hst_wt.out
  replace bb_wl : Hid (Below wl.heap.size wl wt) := below_then bb_wl.out hst_wt.out
  replace bb_wm : Hid (Below wm.heap.size wm wt) := below_then bb_wm.out hst_wt.out
  replace bb_wn : Hid (Below wn.heap.size wn wt) := below_then bb_wn.out hst_wt.out
  replace bb_wo : Hid (Below wo.heap.size wo wt) := below_then bb_wo.out hst_wt.out
  replace bb_wp : Hid (Below wp.heap.size wp wt) := below_then bb_wp.out hst_wt.out
  replace bb_wq : Hid (Below wq.heap.size wq wt) := below_then bb_wq.out hst_wt.out
  replace bb_wr : Hid (Below wr.heap.size wr wt) := below_then bb_wr.out hst_wt.out
  replace bb_ws : Hid (Below ws.heap.size ws wt) := below_then bb_ws.out hst_wt.out
  have z_w0 := hst_w0.out.size
  have z_wa := hst_wa.out.size
  have z_wb := hst_wb.out.size
  have z_wc := hst_wc.out.size
  have z_wd := hst_wd.out.size
  have z_we := hst_we.out.size
  have z_wf := hst_wf.out.size
  have z_wg := hst_wg.out.size
  have z_wh := hst_wh.out.size
  have z_wi := hst_wi.out.size
  have z_wj := hst_wj.out.size
  have z_wk := hst_wk.out.size
  have z_wl := hst_wl.out.size
  have z_wm := hst_wm.out.size
  have z_wn := hst_wn.out.size
  have z_wo := hst_wo.out.size
  have z_wp := hst_wp.out.size
  have z_wq := hst_wq.out.size
  have z_wr := hst_wr.out.size
  have z_ws := hst_ws.out.size
  have z_wt := hst_wt.out.size
  have q_wi := hs_wi.out
  have q_wk := hs_wk.out
  have q_wm := hs_wm.out
  obtain ⟨rd_a0, rd_a1, rd_a2, rd_a3, rd_a4⟩ := ch_a.out wt bb_wi.out
  go_wp2_with fail
  clear rd_a0 rd_a1 rd_a2 rd_a3 rd_a4
  refine (spoil_any ka ra ca qa wg.heap.size wh.heap.size loa na na Aa Ca Fa wt (HIA.out.below bb_wh.out) (fun i a hi ha => im_lt HIA.out i a hi ha) HNA.out.1 (fun i hi => by have := HNA.out.2 i hi; omega)).mono ?_
  rintro e v1 ⟨rfl, ho1⟩
  have HO1 : Hid (Only (fun b => wg.heap.size ≤ b ∧ b < wh.heap.size) wt v1) := ho1
  have z_v1 := ho1.size
  obtain ⟨l0, l1, l2, l3, l4⟩ := ch_b.out wt bb_wk.out
  have l0 := ho1.cell l0 (by show ¬ (wg.heap.size ≤ wj.heap.size ∧ wj.heap.size < wh.heap.size); omega)
  have l1 := ho1.cell l1 (by show ¬ (wg.heap.size ≤ wj.heap.size ∧ wj.heap.size < wh.heap.size); omega)
  have l2 := ho1.cell l2 (by show ¬ (wg.heap.size ≤ wj.heap.size ∧ wj.heap.size < wh.heap.size); omega)
  have l3 := ho1.cell l3 (by show ¬ (wg.heap.size ≤ wj.heap.size ∧ wj.heap.size < wh.heap.size); omega)
  have l4 := ho1.cell l4 (by show ¬ (wg.heap.size ≤ wj.heap.size ∧ wj.heap.size < wh.heap.size); omega)
  have HIB1 : Hid (Im wi.heap.size v1 lob nb Ab Cb Fb) := (HIB.out.below bb_wj.out).only ho1 (fun b h => by omega)
  clear ho1
  go_wp2_with fail
  clear l0 l1 l2 l3 l4
  refine (spoil_any kb rb cb qb wi.heap.size wj.heap.size lob nb nb Ab Cb Fb v1 HIB1.out (fun i a hi ha => im_lt HIB.out i a hi ha) HNB.out.1 (fun i hi => by have := HNB.out.2 i hi; omega)).mono ?_
  rintro e v2 ⟨rfl, ho2⟩
  have HO2 : Hid (Only (fun b => wi.heap.size ≤ b ∧ b < wj.heap.size) v1 v2) := ho2
  have z_v2 := ho2.size
  obtain ⟨l0, l1, l2, l3, l4⟩ := ch_c.out wt bb_wm.out
  have l0 := ho2.cell (HO1.out.cell l0 (by show ¬ (wg.heap.size ≤ wl.heap.size ∧ wl.heap.size < wh.heap.size); omega)) (by show ¬ (wi.heap.size ≤ wl.heap.size ∧ wl.heap.size < wj.heap.size); omega)
  have l1 := ho2.cell (HO1.out.cell l1 (by show ¬ (wg.heap.size ≤ wl.heap.size ∧ wl.heap.size < wh.heap.size); omega)) (by show ¬ (wi.heap.size ≤ wl.heap.size ∧ wl.heap.size < wj.heap.size); omega)
  have l2 := ho2.cell (HO1.out.cell l2 (by show ¬ (wg.heap.size ≤ wl.heap.size ∧ wl.heap.size < wh.heap.size); omega)) (by show ¬ (wi.heap.size ≤ wl.heap.size ∧ wl.heap.size < wj.heap.size); omega)
  have l3 := ho2.cell (HO1.out.cell l3 (by show ¬ (wg.heap.size ≤ wl.heap.size ∧ wl.heap.size < wh.heap.size); omega)) (by show ¬ (wi.heap.size ≤ wl.heap.size ∧ wl.heap.size < wj.heap.size); omega)
  have l4 := ho2.cell (HO1.out.cell l4 (by show ¬ (wg.heap.size ≤ wl.heap.size ∧ wl.heap.size < wh.heap.size); omega)) (by show ¬ (wi.heap.size ≤ wl.heap.size ∧ wl.heap.size < wj.heap.size); omega)
  have HIC2 : Hid (Im wk.heap.size v2 loc nc Ac Cc Fc) := ((HIC.out.below bb_wl.out).only HO1.out (fun b h => by omega)).only ho2 (fun b h => by omega)
  clear ho2
  go_wp2_with fail
  clear l0 l1 l2 l3 l4
  refine (spoil_any kc rc cc qc wk.heap.size wl.heap.size loc nc nc Ac Cc Fc v2 HIC2.out (fun i a hi ha => im_lt HIC.out i a hi ha) HNC.out.1 (fun i hi => by have := HNC.out.2 i hi; omega)).mono ?_
  rintro e v3 ⟨rfl, ho3⟩
  have HB3 : Hid (Below wg.heap.size wt v3) := ((HO1.out.below (fun i h => h.1) (by omega)).trans (HO2.out.below (fun i h => by omega) (by omega))).trans (ho3.below (fun i h => by omega) (by omega))
  clear ho3
  replace bb_w : Hid (Below w.heap.size w v3) := bb_w.out.trans (HB3.out.mono (by omega))
  replace bb_w0 : Hid (Below w0.heap.size w0 v3) := bb_w0.out.trans (HB3.out.mono (by omega))
  replace bb_wc : Hid (Below wc.heap.size wc v3) := bb_wc.out.trans (HB3.out.mono (by omega))
  replace bb_wd : Hid (Below wd.heap.size wd v3) := bb_wd.out.trans (HB3.out.mono (by omega))
  replace bb_we : Hid (Below we.heap.size we v3) := bb_we.out.trans (HB3.out.mono (by omega))
  obtain ⟨rd_x0, rd_x1, rd_x2, rd_x3, rd_x4⟩ := ch_x.out v3 bb_wd.out
  obtain ⟨rd_m0, rd_m1, rd_m2, rd_m3, rd_m4⟩ := ch_m.out v3 bb_w0.out
  have HSM : Hid (Calls Try.prog 26 #[.agg #[.int .i64 k, .int .i64 r, .int .i64 c, .int .i64 q, .slice lox n clx], .agg #[.int .i64 k, .int .i64 r, .int .i64 c, .int .i64 q, .slice lo n cl]] v3 fun e w' => e = .returned (.bool true) ∧ Below v3.heap.size v3 w') := Same_doc (sme_refl _ _ _ _ _ _) lox lo clx cl Ax A Cx C v3 (by omega) (HXL.out.below bb_wc.out) (HL.out.below bb_w.out)
  have HSP : Hid (∀ v, Below v3.heap.size v3 v → Calls Try.prog 29 #[.slice (some ⟨gy, 0, none⟩) ln pcy, .slice (some ⟨bl1, of1, none⟩) ln pc] v fun e w' => e = .returned (.bool true) ∧ Below v.heap.size v w') := fun v hv => SamePuts_doc (some ⟨gy, 0, none⟩) (some ⟨bl1, of1, none⟩) ln pcy pc D By B Ky K (by omega) v ((pus_pts HPY.out).below (below_then bb_we.out hv)) (HP.out.below (below_then bb_w.out hv))
  have e1 : (xa == xa) = true := by simp
  have e2 : (xb == xb) = true := by simp
  have e3 : (xc == xc) = true := by simp
  go_wp2_with (first
    | (go_at_call 26; refine HSM.out.mono ?_; rintro e s1 ⟨rfl, hs1⟩; have S1 : Hid (Below v3.heap.size v3 s1) := hs1; clear hs1)
    | (go_at_call 29; refine (HSP.out s1 S1.out).mono ?_; rintro e s2 ⟨rfl, hs2⟩; have S2 : Hid (Below v3.heap.size v3 s2) := below_then S1.out hs2; clear hs2))
  go_ret
  exact ⟨rfl, below_then bb_w.out S2.out⟩
end
end Go.Proofs.Ytenlfhdchflnjaa
