/- The document's disk in memory: made of an image; its wiped drives. -/
import Derived.Test.YtdicogmjjboilaaDskU
import Derived.Test.YtdicogmjjboilaaDskK
namespace Go.Proofs.Ytdicogmjjboilaa
open Go.RowKit

theorem twin_rsl {w' : World} {B n cl : Nat} {lo : Option Addr} {A : Nat → Option Addr} {C : Nat → Nat} {F : Nat → List UInt8} (ho : w'.ownsRow B 43 1 (.slice lo n cl) n (svs A C F n)) (hs : Sls w' B lo n A C F) (hn : 0 < n) : ∃ l, lo = some ⟨l, 0, none⟩ ∧ n ≤ cl ∧ RSl w' (fun b => B ≤ b ∧ b < w'.heap.size) l n A C F := by
  rcases ho.2 with ⟨e, _⟩ | ⟨g, cap, cur, e, hB, hb, hc, _⟩
  · cases e; omega
  · cases e
    refine ⟨g, rfl, hc, fun i hi => ?_, fun i _ => World.ownsRow.frozenAt ho i, fun i hi => (hs i hi).1, fun i a hi ha => ⟨⟨((hs i hi).2.1 a ha).1, ((hs i hi).2.1 a ha).2.1⟩, ((hs i hi).2.1 a ha).2.2 _ rfl⟩, fun i hi => (hs i hi).2.2.1, ⟨hB, (Array.getElem?_eq_some_iff.1 hb).1⟩⟩
    rw [World.ownsRow.cellAt ho i (by omega), svs_get _ _ _ _ _ hi]
theorem twin_lst {w' : World} {B n cl : Nat} {lo : Option Addr} {A : Nat → Option Addr} {C : Nat → Nat} {F : Nat → List UInt8} (ho : w'.ownsRow B 43 1 (.slice lo n cl) n (svs A C F n)) (hs : Sls w' B lo n A C F) : Lst w' lo n A C F := by
  by_cases hn : 0 < n
  · obtain ⟨l, rfl, _, h⟩ := twin_rsl ho hs hn
    exact h.lst
  · obtain rfl : n = 0 := by omega
    exact ⟨fun h => absurd h (Nat.lt_irrefl 0), fun i hi => absurd hi (Nat.not_lt_zero i), fun i hi => absurd hi (Nat.not_lt_zero i)⟩
def rkv (k r c q : Int) (sl : Value) (off : Bool) (cut : Int) (wp : Value) (wr : Int) : List Value := [.int .i64 k, .int .i64 r, .int .i64 c, .int .i64 q, sl, .bool off, .int .i64 cut, wp, .int .i64 wr]
def cv : Option Nat → Int
  | none => -1
  | some n => n
structure RkA (w : World) (Y : Nat → Prop) (g l cl wl : Nat) (k r c : Int) (N Q S : Nat) (A : Nat → Option Addr) (C : Nat → Nat) (st : St) : Prop where
  blk : Blk w g 79 (rkv k r c Q (.slice (some ⟨l, 0, none⟩) (N * Q * 2 : Nat) cl) st.off (cv st.cut) (.slice (some ⟨wl, 0, none⟩) N N) st.wr)
  sl : RSl w (fun b => Y b ∧ b ≠ g ∧ b ≠ wl) l (N * Q * 2) A C st.F
  row : w.rowIs wl 4 N (fun i => .bool (st.gone i))
  ngw : g ≠ wl
  ownw : Y wl
  own : Y g
  lt : ∀ b, Y b → b < w.heap.size
  fit : Fit (N * Q * 2) S st.F
  pm : Pm k r c Q N Q S
  cb : ∀ n : Nat, st.cut = some n → n ≤ 9223372036854775807
  cap : N * Q * 2 ≤ cl
/-- The document's disk at block g, in the blocks Y, that is st. -/
def Rk (w : World) (Y : Nat → Prop) (g : Nat) (k r c : Int) (N Q S : Nat) (st : St) : Prop := ∃ l cl wl A C, RkA w Y g l cl wl k r c N Q S A C st
section
variable {X Y : Nat → Prop} {w w' : World} {g l cl wl : Nat} {k r c : Int} {N Q S : Nat} {A : Nat → Option Addr} {C : Nat → Nat} {st st' : St}
theorem RkA.only (h : RkA w Y g l cl wl k r c N Q S A C st) (ho : Only X w w') (hx : ∀ b, Y b → ¬ X b) : RkA w' Y g l cl wl k r c N Q S A C st :=
  ⟨h.blk.only ho (hx _ h.own), h.sl.only ho (fun b hb => hx b hb.1), h.row.of_block (ho.block wl h.row.lt (hx _ h.ownw)), h.ngw, h.ownw, h.own, fun b hb => Nat.lt_of_lt_of_le (h.lt b hb) ho.size, h.fit, h.pm, h.cb, h.cap⟩
theorem RkA.ngl (h : RkA w Y g l cl wl k r c N Q S A C st) : g ≠ l := fun e => h.sl.own.2.1 e.symm
theorem RkA.nwl (h : RkA w Y g l cl wl k r c N Q S A C st) : wl ≠ l := fun e => h.sl.own.2.2 e.symm
/-- The block of the document's disk written over. -/
theorem RkA.reb (h : RkA w Y g l cl wl k r c N Q S A C st) (ho : Only (fun b => b = g) w w') (hb : Blk w' g 79 (rkv k r c Q (.slice (some ⟨l, 0, none⟩) (N * Q * 2 : Nat) cl) st'.off (cv st'.cut) (.slice (some ⟨wl, 0, none⟩) N N) st'.wr)) (hF : st'.F = st.F) (hG : st'.gone = st.gone) (hc : ∀ n : Nat, st'.cut = some n → n ≤ 9223372036854775807) : RkA w' Y g l cl wl k r c N Q S A C st' :=
  ⟨hb, by rw [hF]; exact h.sl.only ho (fun b hb => hb.2.1), by rw [hG]; exact h.row.of_block (ho.block wl h.row.lt (fun e => h.ngw e.symm)), h.ngw, h.ownw, h.own, fun b hb => Nat.lt_of_lt_of_le (h.lt b hb) ho.size, by rw [hF]; exact h.fit, h.pm, hc, h.cap⟩
end
section
variable {X Y : Nat → Prop} {w w' : World} {g : Nat} {k r c : Int} {N Q S : Nat} {st : St}
theorem Rk.only (h : Rk w Y g k r c N Q S st) (ho : Only X w w') (hx : ∀ b, Y b → ¬ X b) : Rk w' Y g k r c N Q S st := by
  obtain ⟨l, cl, wl, A, C, h⟩ := h
  exact ⟨l, cl, wl, A, C, h.only ho hx⟩
theorem Rk.below (h : Rk w Y g k r c N Q S st) (ho : Below w.heap.size w w') : Rk w' Y g k r c N Q S st := h.only (X := fun _ => False) (.of_below ho) (fun _ _ h => h)
theorem Rk.lt (h : Rk w Y g k r c N Q S st) : ∀ b, Y b → b < w.heap.size := by
  obtain ⟨l, cl, wl, A, C, h⟩ := h
  exact h.lt
theorem Rk.pm (h : Rk w Y g k r c N Q S st) : Pm k r c Q N Q S := by
  obtain ⟨l, cl, wl, A, C, h⟩ := h
  exact h.pm
end
theorem cells_rk {w : World} {g : Nat} {k r c q : Int} {sl : Value} {off : Bool} {cut : Int} {wp : Value} {wr : Int} (h : Blk w g 79 (rkv k r c q sl off cut wp wr)) :
    w.cell? ⟨g, 0, none⟩ = some (.int .i64 k) ∧ w.cell? ⟨g, 1, none⟩ = some (.int .i64 r) ∧ w.cell? ⟨g, 2, none⟩ = some (.int .i64 c) ∧ w.cell? ⟨g, 3, none⟩ = some (.int .i64 q) ∧ w.cell? ⟨g, 4, none⟩ = some sl ∧ w.cell? ⟨g, 5, none⟩ = some (.bool off) ∧ w.cell? ⟨g, 6, none⟩ = some (.int .i64 cut) ∧ w.cell? ⟨g, 7, none⟩ = some wp ∧ w.cell? ⟨g, 8, none⟩ = some (.int .i64 wr) :=
  ⟨h.cell rfl, h.cell rfl, h.cell rfl, h.cell rfl, h.cell rfl, h.cell rfl, h.cell rfl, h.cell rfl, h.cell rfl⟩
theorem info4 : (Try.prog.info? 4).map (fun i => (i.zero, i.size, i.bytes)) = some (some (.bool false), 1, 1) := by kernel_rfl
set_option maxHeartbeats 1000000 in
set_option maxRecDepth 100000 in
theorem ROf_any {k r c : Int} {N Q S : Nat} (hp : Pm k r c Q N Q S) (lo : Option Addr) (cl : Nat) (A : Nat → Option Addr) (C : Nat → Nat) (F : Nat → List UInt8) (hf : Fit (N * Q * 2) S F) (w : World) (hl : Lst w lo (N * Q * 2) A C F) :
    Calls Try.prog 14 #[.agg #[.int .i64 k, .int .i64 r, .int .i64 c, .int .i64 (Q : Int), .slice lo (N * Q * 2 : Nat) cl]] w fun e w' => ∃ g, e = .returned (.pointer (some ⟨g, 0, none⟩)) ∧ Rk w' (fun b => w.heap.size ≤ b ∧ b < w'.heap.size) g k r c N Q S (newSt F) ∧ Below w.heap.size w w' := by
  obtain ⟨hN1, hN2, hQ1, hQ2, _, hS2, hn1, hn2⟩ := hp.bounds
  obtain ⟨n, hn⟩ : ∃ n, n = N * Q * 2 := ⟨_, rfl⟩
  have HN : Hid (n = N * Q * 2) := hn
  have HF : Hid (Fit n S F) := by rw [hn]; exact hf
  rw [← hn] at hl hn1 hn2 ⊢
  obtain ⟨i0, hi, hz0, hz1, hz2⟩ := info_parts info4
  have hmk := fun w => run_make_row (P := Try.prog) 77 4 i0 (.bool false) Try.underlying77 hi hz0 hz1 (by rfl) .i64 .i64 N (by rw [hz2]; omega) (by omega) w
  obtain ⟨w0, hw0⟩ : ∃ w0, w0 = w.alloc (.cells #[.int .i64 k, .int .i64 r, .int .i64 c, .int .i64 (Q : Int), .slice lo n cl] 26) := ⟨_, rfl⟩
  have b0 : Below w.heap.size w w0 := by rw [hw0]; exact below_alloc _ _
  have z0 : w0.heap.size = w.heap.size + 1 := by rw [hw0]; simp
  have HT := Twin_any k r c Q w0.drew lo n cl A C F (hl.below b0.drew) (by omega) (fun i hi => by have := HF.out i hi; omega)
  have HNN := fun w => N_any (k := k) (r := r) c (Q : Int) hp.2.1 hN2 w
  obtain ⟨s0, s1, s2, s3, s4⟩ := img_held hw0 (Below.refl _ _)
  have SH : Hid (∀ v, Below w0.heap.size w0 v → v.cell? ⟨w.heap.size, 0, none⟩ = some (.int .i64 k) ∧ v.cell? ⟨w.heap.size, 1, none⟩ = some (.int .i64 r) ∧ v.cell? ⟨w.heap.size, 2, none⟩ = some (.int .i64 c) ∧ v.cell? ⟨w.heap.size, 3, none⟩ = some (.int .i64 (Q : Int)) ∧ v.cell? ⟨w.heap.size, 4, none⟩ = some (.slice lo n cl)) := fun v hv => img_held hw0 hv
  clear hl hf hn
  go_enter Try.func14, Try.ntmps14
  go_wp2_with fail
  rw [← hw0]
  clear hw0
  go_region_held3 (fun v => v.cell? ⟨w.heap.size, 0, none⟩ = some (.int .i64 k) ∧ v.cell? ⟨w.heap.size, 1, none⟩ = some (.int .i64 r) ∧ v.cell? ⟨w.heap.size, 2, none⟩ = some (.int .i64 c) ∧ v.cell? ⟨w.heap.size, 3, none⟩ = some (.int .i64 (Q : Int)) ∧ v.cell? ⟨w.heap.size, 4, none⟩ = some (.slice lo n cl)) (go_keep)
    (first
      | (go_at_call 11; refine HT.mono ?_; rintro e wa ⟨lo', cl', A', C', rfl, ho, hsl, ha⟩; obtain ⟨q0, q1, q2, q3, q4⟩ := SH.out _ (of_drew ha); have HO : Hid (wa.ownsRow (w0.drew.heap.size + 3) 43 1 (.slice lo' n cl') n (svs A' C' F n)) := ho; have HS : Hid (Sls wa (w0.drew.heap.size + 3) lo' n A' C' F) := hsl; have HB : Hid (Below w0.heap.size w0 wa) := of_drew ha; clear ho hsl ha)
      | (go_at_call 41; refine (HNN _).mono ?_; rintro e wb ⟨rfl, hb⟩; obtain ⟨p0, p1, p2, p3, p4⟩ := SH.out _ (below_then HB.out hb); have HB2 : Hid (Below wa.heap.size wa wb) := hb; have y0 := fun o => held p0 (below_alloc wb o); have y1 := fun o => held p1 (below_alloc wb o); have y2 := fun o => held p2 (below_alloc wb o); have y3 := fun o => held p3 (below_alloc wb o); have y4 := fun o => held p4 (below_alloc wb o); have x0 := fun o o' => held (y0 o) (below_alloc (wb.alloc o) o'); have x1 := fun o o' => held (y1 o) (below_alloc (wb.alloc o) o'); have x2 := fun o o' => held (y2 o) (below_alloc (wb.alloc o) o'); have x3 := fun o o' => held (y3 o) (below_alloc (wb.alloc o) o'); have x4 := fun o o' => held (y4 o) (below_alloc (wb.alloc o) o'); clear hb))
  all_goals go_wp2
  all_goals go_ret
  all_goals
    obtain ⟨l, rfl, hc, hr⟩ := twin_rsl HO.out HS.out (by omega)
    have e0 : w0.drew.heap.size = w0.heap.size := rfl
    rw [e0] at hr
    obtain ⟨wm, hwm⟩ : ∃ wm, wm = wb.alloc (.cells (madeCells #[.bool false] N) 4) := ⟨_, rfl⟩
    have bm : Below wb.heap.size wb wm := by rw [hwm]; exact below_alloc _ _
    have zm : wm.heap.size = wb.heap.size + 1 := by rw [hwm]; simp
    have hrow : wm.rowIs wb.heap.size 4 N (fun _ => .bool false) := by rw [hwm]; exact World.rowIs_made wb _ N 4
    have hB := below_then b0 (below_then HB.out (below_then HB2.out bm))
    have hza := HB.out.size
    have hzb := HB2.out.size
    rw [← hwm]
    have hN := HN.out
    subst hN
    refine ⟨wm.heap.size, by rw [zm]; rfl, ⟨l, cl', wb.heap.size, A', C', ?_⟩, hB.alloc hB.size _⟩
    refine ⟨blk_new wm 79 (rkv k r c Q _ false (-1) _ 0), ?_, hrow.alloc _, by omega, ⟨by omega, by simp; omega⟩, ⟨by omega, by simp⟩, fun b hb => hb.2, HF.out, hp, (fun m hm => by cases hm), hc⟩
    refine ((hr.only (X := fun _ => False) (.of_below (below_then HB2.out (below_then bm (below_alloc wm _)))) (fun _ _ h => h)).mono fun b hb => ⟨⟨by omega, by simp; omega⟩, by omega, by omega⟩)
set_option maxHeartbeats 400000 in
theorem Check06_any (k r c q : Int) (w : World) : Calls Try.prog 32 #[.agg #[.int .i64 k, .int .i64 r, .int .i64 c, .int .i64 q]] w fun e w' => e = .returned (.int .i64 (if may k r c q = true then 0 else 2)) ∧ Below w.heap.size w w' := by
  have HM := fun w => May_any k r c q w
  obtain ⟨w0, hw0⟩ : ∃ w0, w0 = w.alloc (.cells #[.int .i64 k, .int .i64 r, .int .i64 c, .int .i64 q] 23) := ⟨_, rfl⟩
  have b0 : Below w.heap.size w w0 := by rw [hw0]; exact below_alloc _ _
  cases hm : may k r c q
  · rw [hm] at HM
    go_enter Try.func32, Try.ntmps32
    go_wp2_with fail
    rw [← hw0]
    clear hw0
    refine (HM _).mono ?_
    rintro e wa ⟨rfl, ha⟩
    go_wp2_with fail
    go_ret
    exact ⟨rfl, below_then b0 ha⟩
  · rw [hm] at HM
    go_enter Try.func32, Try.ntmps32
    go_wp2_with fail
    rw [← hw0]
    clear hw0
    refine (HM _).mono ?_
    rintro e wa ⟨rfl, ha⟩
    go_wp2_with fail
    go_ret
    exact ⟨rfl, below_then b0 ha⟩
set_option maxHeartbeats 1000000 in
set_option maxRecDepth 100000 in
theorem Blank_any {k r c : Int} {N Q S : Nat} (hp : Pm k r c Q N Q S) (w : World) :
    Calls Try.prog 33 #[.agg #[.int .i64 k, .int .i64 r, .int .i64 c, .int .i64 (Q : Int)]] w fun e w' => ∃ l, e = .returned (.agg #[.int .i64 k, .int .i64 r, .int .i64 c, .int .i64 (Q : Int), .slice (some ⟨l, 0, none⟩) (N * Q * 2 : Nat) (N * Q * 2 : Nat)]) ∧ Lst w' (some ⟨l, 0, none⟩) (N * Q * 2) (fun _ => none) (fun _ => 0) (fun _ => []) ∧ Below w.heap.size w w' := by
  obtain ⟨hN1, hN2, hQ1, hQ2, _, hS2, hn1, hn2⟩ := hp.bounds
  have HNN := fun w => N_any (k := k) (r := r) c (Q : Int) hp.2.1 hN2 w
  obtain ⟨i0, hi, hz0, hz1, hz2⟩ := info_parts info43
  obtain ⟨p, hpp⟩ : ∃ p, p = N * Q := ⟨_, rfl⟩
  rw [← hpp] at hn1 hn2 ⊢
  have hv : Value.int .i64 (IntKind.i64.wrap ((N : Int) * (Q : Int))) = .int .i64 (p : Int) := by rw [show (N : Int) * (Q : Int) = ((p : Nat) : Int) by rw [hpp]; simp, show IntKind.i64.wrap (p : Int) = (p : Int) by rw [IntKind.wrap_i64]; omega]
  have hv2 : Value.int .i64 (IntKind.i64.wrap ((p : Int) * 2)) = .int .i64 ((p * 2 : Nat) : Int) := by rw [show IntKind.i64.wrap ((p : Int) * 2) = ((p * 2 : Nat) : Int) by rw [IntKind.wrap_i64]; omega]
  have hmk := fun w => run_make_row (P := Try.prog) 24 43 i0 (.slice none 0 0) Try.underlying24 hi hz0 hz1 (by rfl) .i64 .i64 (p * 2) (by rw [hz2]; omega) (by omega) w
  obtain ⟨n, hn⟩ : ∃ n, n = p * 2 := ⟨_, rfl⟩
  rw [← hn] at hv2 hmk ⊢
  obtain ⟨w0, hw0⟩ : ∃ w0, w0 = w.alloc (.cells #[.int .i64 k, .int .i64 r, .int .i64 c, .int .i64 (Q : Int)] 23) := ⟨_, rfl⟩
  obtain ⟨w1, hw1⟩ : ∃ w1, w1 = w0.alloc (.cells #[.int .i64 0, .int .i64 0, .int .i64 0, .int .i64 0, .slice none 0 0] 26) := ⟨_, rfl⟩
  have b0 : Below w.heap.size w w0 := by rw [hw0]; exact below_alloc _ _
  have b1 : Below w0.heap.size w0 w1 := by rw [hw1]; exact below_alloc _ _
  have z0 : w0.heap.size = w.heap.size + 1 := by rw [hw0]; simp
  have SH : Hid (∀ v, Below w1.heap.size w1 v → v.cell? ⟨w.heap.size, 0, none⟩ = some (.int .i64 k) ∧ v.cell? ⟨w.heap.size, 1, none⟩ = some (.int .i64 r) ∧ v.cell? ⟨w.heap.size, 2, none⟩ = some (.int .i64 c) ∧ v.cell? ⟨w.heap.size, 3, none⟩ = some (.int .i64 (Q : Int))) := fun v hv => par_held hw0 (below_then b1 hv)
  have SM : Hid (∀ v, Below w1.heap.size w1 v → (v.cell? ⟨w.heap.size + 1, 0, none⟩ = some (.int .i64 0) ∧ v.cell? ⟨w.heap.size + 1, 1, none⟩ = some (.int .i64 0) ∧ v.cell? ⟨w.heap.size + 1, 2, none⟩ = some (.int .i64 0) ∧ v.cell? ⟨w.heap.size + 1, 3, none⟩ = some (.int .i64 0) ∧ v.cell? ⟨w.heap.size + 1, 4, none⟩ = some (.slice none 0 0)) ∧ ∀ i, v.frozen? ⟨w.heap.size + 1, i, none⟩ = false) := fun v hv => by rw [← z0]; exact ⟨mea_held hw1 hv, blk_free hw1 hv⟩
  obtain ⟨s0, s1, s2, s3⟩ := SH.out w1 (Below.refl _ _)
  have hset : ∀ (v : World) i o u, (v.setCell ⟨w.heap.size + 1, i, none⟩ u).cell? ⟨w.heap.size, o, none⟩ = v.cell? ⟨w.heap.size, o, none⟩ := fun v i o u => World.cell?_of_block (Below.heap_setCell _ _ _ _ (by show w.heap.size ≠ w.heap.size + 1; omega))
  clear hpp hn
  go_enter Try.func33, Try.ntmps33
  go_wp2_with fail
  rw [← hw0, ← hw1]
  clear hw0 hw1
  go_region_held3 (fun v => v.cell? ⟨w.heap.size, 0, none⟩ = some (.int .i64 k) ∧ v.cell? ⟨w.heap.size, 1, none⟩ = some (.int .i64 r) ∧ v.cell? ⟨w.heap.size, 2, none⟩ = some (.int .i64 c) ∧ v.cell? ⟨w.heap.size, 3, none⟩ = some (.int .i64 (Q : Int))) (go_keep)
    ((go_at_call 41; refine (HNN _).mono ?_; rintro e wb ⟨rfl, hb⟩; obtain ⟨p0, p1, p2, p3⟩ := SH.out _ (of_drew hb); have HB : Hid (Below w1.heap.size w1 wb) := of_drew hb; have y0 := fun o => held p0 (below_alloc wb o); have y1 := fun o => held p1 (below_alloc wb o); have y2 := fun o => held p2 (below_alloc wb o); have y3 := fun o => held p3 (below_alloc wb o); obtain ⟨⟨m0, m1, m2, m3, m4⟩, m5⟩ := SM.out _ (of_drew hb); have n0 := fun o => held m0 (below_alloc wb o); have n1 := fun o => held m1 (below_alloc wb o); have n2 := fun o => held m2 (below_alloc wb o); have n3 := fun o => held m3 (below_alloc wb o); have n4 := fun o => held m4 (below_alloc wb o); have n5 : ∀ o i, (wb.alloc o).frozen? ⟨w.heap.size + 1, i, none⟩ = false := fun o i => (SM.out _ (below_then (of_drew hb) (below_alloc wb o))).2 i; clear hb))
  all_goals go_wp2_with fail
  all_goals
    refine bodyPost_ret (v := .agg #[.int .i64 k, .int .i64 r, .int .i64 c, .int .i64 (Q : Int), .slice (some ⟨wb.heap.size, 0, none⟩) n n]) (by simp [results, Try.results33, go_sem, n0, n1, n2, n3, n4]) rfl ?_
    refine ⟨wb.heap.size, rfl, ?_, ?_⟩
    · have h1 := lst_blank (World.rowIs_made wb (.slice none 0 0) n 43)
      have hz := (below_then b0 (below_then b1 HB.out)).size
      have hz1 := b1.size
      have hz2 := HB.out.size
      have HX : ∀ (v : World) a b c d e, Only (fun x => x = w.heap.size + 1) v (((((v.setCell ⟨w.heap.size + 1, 0, none⟩ a).setCell ⟨w.heap.size + 1, 1, none⟩ b).setCell ⟨w.heap.size + 1, 2, none⟩ c).setCell ⟨w.heap.size + 1, 3, none⟩ d).setCell ⟨w.heap.size + 1, 4, none⟩ e) := fun v a b c d e => only_set (only_set (only_set (only_set (only_set (Only.refl _ _) 0 _) 1 _) 2 _) 3 _) 4 _
      refine lst_blank ((World.rowIs_made wb (.slice none 0 0) n 43).of_block ((HX _ _ _ _ _ _).block wb.heap.size (by simp) (by have := (SM.out wb HB.out).1.1; have := World.block_lt_of_cell? wb _ this; simp only at this; omega)))
    · have hB := below_then b0 (below_then b1 (below_then HB.out (below_alloc wb (.cells (madeCells #[.slice none 0 0] n) 43))))
      exact ((((hB.setCell (Nat.le_succ _) _).setCell (Nat.le_succ _) _).setCell (Nat.le_succ _) _).setCell (Nat.le_succ _) _).setCell (Nat.le_succ _) _
end Go.Proofs.Ytdicogmjjboilaa
