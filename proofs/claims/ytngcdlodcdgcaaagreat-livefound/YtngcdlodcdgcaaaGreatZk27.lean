import Derived.Test.YtngcdlodcdgcaaaGreatZk26
namespace Go.Proofs.YtngcdlodcdgcaaaGreat
open Go.RowKit
theorem at_made {a v v' : World} {cs : Array Value} {t : TypeId} (h : Below a.heap.size a v) (e : v' = v.alloc (.cells cs t)) : At a v' v.heap.size cs t := by rw [e]; exact at_new h _ _
theorem only_lo (v : World) (g : Nat) (u0 u1 u2 u3 u4 u5 : Value) : Only (fun x => x = g) v ((((((v.setCell ⟨g, 0, none⟩ (u0)).setCell ⟨g, 1, none⟩ (u1)).setCell ⟨g, 2, none⟩ (u2)).setCell ⟨g, 3, none⟩ (u3)).setCell ⟨g, 4, none⟩ (u4)).setCell ⟨g, 5, none⟩ (u5)) := by
  have h0 : Only (fun x => x = g) v (v.setCell ⟨g, 0, none⟩ u0) := Only.setCell (X := fun x => x = g) (p := ⟨g, 0, none⟩) (Only.refl _ _) rfl _
  have h1 := Only.setCell (X := fun x => x = g) (p := ⟨g, 1, none⟩) h0 rfl u1
  have h2 := Only.setCell (X := fun x => x = g) (p := ⟨g, 2, none⟩) h1 rfl u2
  have h3 := Only.setCell (X := fun x => x = g) (p := ⟨g, 3, none⟩) h2 rfl u3
  have h4 := Only.setCell (X := fun x => x = g) (p := ⟨g, 4, none⟩) h3 rfl u4
  have h5 := Only.setCell (X := fun x => x = g) (p := ⟨g, 5, none⟩) h4 rfl u5
  exact h5
theorem only_hi (v : World) (g : Nat) (u0 u1 u2 u3 u4 u5 : Value) : Only (fun x => x = g) v ((((((v.setCell ⟨g, 6, none⟩ (u0)).setCell ⟨g, 7, none⟩ (u1)).setCell ⟨g, 8, none⟩ (u2)).setCell ⟨g, 9, none⟩ (u3)).setCell ⟨g, 10, none⟩ (u4)).setCell ⟨g, 11, none⟩ (u5)) := by
  have h0 : Only (fun x => x = g) v (v.setCell ⟨g, 6, none⟩ u0) := Only.setCell (X := fun x => x = g) (p := ⟨g, 6, none⟩) (Only.refl _ _) rfl _
  have h1 := Only.setCell (X := fun x => x = g) (p := ⟨g, 7, none⟩) h0 rfl u1
  have h2 := Only.setCell (X := fun x => x = g) (p := ⟨g, 8, none⟩) h1 rfl u2
  have h3 := Only.setCell (X := fun x => x = g) (p := ⟨g, 9, none⟩) h2 rfl u3
  have h4 := Only.setCell (X := fun x => x = g) (p := ⟨g, 10, none⟩) h3 rfl u4
  have h5 := Only.setCell (X := fun x => x = g) (p := ⟨g, 11, none⟩) h4 rfl u5
  exact h5
theorem only_all (v : World) (g : Nat) (u0 u1 u2 u3 u4 u5 u6 u7 u8 u9 u10 u11 : Value) : Only (fun x => x = g) v ((((((((((((v.setCell ⟨g, 0, none⟩ (u0)).setCell ⟨g, 1, none⟩ (u1)).setCell ⟨g, 2, none⟩ (u2)).setCell ⟨g, 3, none⟩ (u3)).setCell ⟨g, 4, none⟩ (u4)).setCell ⟨g, 5, none⟩ (u5)).setCell ⟨g, 6, none⟩ (u6)).setCell ⟨g, 7, none⟩ (u7)).setCell ⟨g, 8, none⟩ (u8)).setCell ⟨g, 9, none⟩ (u9)).setCell ⟨g, 10, none⟩ (u10)).setCell ⟨g, 11, none⟩ (u11)) := by
  have h0 : Only (fun x => x = g) v (v.setCell ⟨g, 0, none⟩ u0) := Only.setCell (X := fun x => x = g) (p := ⟨g, 0, none⟩) (Only.refl _ _) rfl _
  have h1 := Only.setCell (X := fun x => x = g) (p := ⟨g, 1, none⟩) h0 rfl u1
  have h2 := Only.setCell (X := fun x => x = g) (p := ⟨g, 2, none⟩) h1 rfl u2
  have h3 := Only.setCell (X := fun x => x = g) (p := ⟨g, 3, none⟩) h2 rfl u3
  have h4 := Only.setCell (X := fun x => x = g) (p := ⟨g, 4, none⟩) h3 rfl u4
  have h5 := Only.setCell (X := fun x => x = g) (p := ⟨g, 5, none⟩) h4 rfl u5
  have h6 := Only.setCell (X := fun x => x = g) (p := ⟨g, 6, none⟩) h5 rfl u6
  have h7 := Only.setCell (X := fun x => x = g) (p := ⟨g, 7, none⟩) h6 rfl u7
  have h8 := Only.setCell (X := fun x => x = g) (p := ⟨g, 8, none⟩) h7 rfl u8
  have h9 := Only.setCell (X := fun x => x = g) (p := ⟨g, 9, none⟩) h8 rfl u9
  have h10 := Only.setCell (X := fun x => x = g) (p := ⟨g, 10, none⟩) h9 rfl u10
  have h11 := Only.setCell (X := fun x => x = g) (p := ⟨g, 11, none⟩) h10 rfl u11
  exact h11
theorem at_lo {a v : World} {g : Nat} {t : TypeId} {x0 x1 x2 x3 x4 x5 x6 x7 x8 x9 x10 x11 : Value} (h : At a v g #[x0, x1, x2, x3, x4, x5, x6, x7, x8, x9, x10, x11] t) (u0 u1 u2 u3 u4 u5 : Value) : At a ((((((v.setCell ⟨g, 0, none⟩ u0).setCell ⟨g, 1, none⟩ u1).setCell ⟨g, 2, none⟩ u2).setCell ⟨g, 3, none⟩ u3).setCell ⟨g, 4, none⟩ u4).setCell ⟨g, 5, none⟩ u5) g #[u0, u1, u2, u3, u4, u5, x6, x7, x8, x9, x10, x11] t := ((((((h.set 0 u0).set 1 u1).set 2 u2).set 3 u3).set 4 u4).set 5 u5)
theorem at_hi {a v : World} {g : Nat} {t : TypeId} {x0 x1 x2 x3 x4 x5 x6 x7 x8 x9 x10 x11 : Value} (h : At a v g #[x0, x1, x2, x3, x4, x5, x6, x7, x8, x9, x10, x11] t) (u0 u1 u2 u3 u4 u5 : Value) : At a ((((((v.setCell ⟨g, 6, none⟩ u0).setCell ⟨g, 7, none⟩ u1).setCell ⟨g, 8, none⟩ u2).setCell ⟨g, 9, none⟩ u3).setCell ⟨g, 10, none⟩ u4).setCell ⟨g, 11, none⟩ u5) g #[x0, x1, x2, x3, x4, x5, u0, u1, u2, u3, u4, u5] t := ((((((h.set 6 u0).set 7 u1).set 8 u2).set 9 u3).set 10 u4).set 11 u5)
theorem at_all {a v : World} {g : Nat} {t : TypeId} {x0 x1 x2 x3 x4 x5 x6 x7 x8 x9 x10 x11 : Value} (h : At a v g #[x0, x1, x2, x3, x4, x5, x6, x7, x8, x9, x10, x11] t) (u0 u1 u2 u3 u4 u5 u6 u7 u8 u9 u10 u11 : Value) : At a ((((((((((((v.setCell ⟨g, 0, none⟩ (u0)).setCell ⟨g, 1, none⟩ (u1)).setCell ⟨g, 2, none⟩ (u2)).setCell ⟨g, 3, none⟩ (u3)).setCell ⟨g, 4, none⟩ (u4)).setCell ⟨g, 5, none⟩ (u5)).setCell ⟨g, 6, none⟩ (u6)).setCell ⟨g, 7, none⟩ (u7)).setCell ⟨g, 8, none⟩ (u8)).setCell ⟨g, 9, none⟩ (u9)).setCell ⟨g, 10, none⟩ (u10)).setCell ⟨g, 11, none⟩ (u11)) g #[u0, u1, u2, u3, u4, u5, u6, u7, u8, u9, u10, u11] t := at_hi (at_lo h u0 u1 u2 u3 u4 u5) u6 u7 u8 u9 u10 u11
theorem Got.stay {B : Nat} {v v' : World} {g : Nat} {s : Sl} {ao : Option Addr} {ca : Nat} {bo : Option Addr} {cb : Nat} (h : Got B v s ao ca bo cb) (ho : Only (fun x => x = g) v v') (hg : g < B) : Got B v' s ao ca bo cb :=
  ⟨h.vec.stay fun k hk hl => ho.block k hl (by omega), h.bec.stay fun k hk hl => ho.block k hl (by omega)⟩
def erT (x : Int) (N : Nat) (c : Int) (n0 n1 : Nat) : Int := if erQ x N c n0 = 0 then erQ x N c n1 else erQ x N c n0
def rd2 (E : Int) (N : Nat) (c : Int) (n : Nat) (F : Nat -> UInt8) : Sl := if E = 0 then slQ (isS N c n F) N c F else zSl
def AnsT (w : World) (E : Int) (s t : Sl) (e : Ending) (w' : World) : Prop :=
  ∃ ao ca bo cb ao' ca' bo' cb', e = .returned (.tuple #[bov s ao ca bo cb t ao' ca' bo' cb', .int .i64 E]) /\ Got w.heap.size w' s ao ca bo cb /\ Got w.heap.size w' t ao' ca' bo' cb' /\ Below w.heap.size w w'
theorem idp0 (w : World) (x0 x1 : Value) : (Instr.index 127 (.agg #[x0, x1]) (.int .i64 0)).run Tryz.prog w = .ok x0 w := by kernel_rfl
theorem idp1 (w : World) (x0 x1 : Value) : (Instr.index 127 (.agg #[x0, x1]) (.int .i64 1)).run Tryz.prog w = .ok x1 w := by kernel_rfl
theorem erQ_zero {x : Int} {N : Nat} {c : Int} {n : Nat} (h : erQ x N c n = 0) : x = 0 := by
  unfold erQ at h
  by_cases e : x = 0
  · exact e
  · rw [if_neg e] at h; exact h
theorem erT_zero {x : Int} {N : Nat} {c : Int} {n m : Nat} (h : erT x N c n m = 0) : erQ x N c n = 0 /\ erQ x N c m = 0 := by
  unfold erT at h
  by_cases e : erQ x N c n = 0
  · rw [if_pos e] at h; exact ⟨e, h⟩
  · rw [if_neg e] at h; exact absurd h e
theorem At.lt {a v : World} {g : Nat} {cs : Array Value} {t : TypeId} (h : At a v g cs t) : g < v.heap.size := (Array.getElem?_eq_some_iff.1 h.2).1
set_option maxHeartbeats 8000000 in
set_option maxRecDepth 100000 in
theorem read2_any {k r c q : Int} {N W : Nat} {x : Int} (h : Par k r c q N W x) (w : World) (a0 : Option Addr) (n0 c0 : Nat) (F0 : Nat -> UInt8) (a1 : Option Addr) (n1 c1 : Nat) (F1 : Nat -> UInt8) (h0 : Bec w a0 n0 c0 F0) (h1 : Bec w a1 n1 c1 F1) (E : Int) (hE : erT x N c n0 n1 = E) (z0 z1 : Sl) (hz0 : rd2 E N c n0 F0 = z0) (hz1 : rd2 E N c n1 F1 = z1) :
    Calls Tryz.prog 167 #[.agg #[.int .i64 k, .int .i64 r, .int .i64 c, .int .i64 q], .agg #[.slice a0 n0 c0, .slice a1 n1 c1]] w (AnsT w E z0 z1) := by
  obtain ⟨w0, hw0⟩ : ∃ w0, w0 = w.alloc (.cells #[.int .i64 k, .int .i64 r, .int .i64 c, .int .i64 q] 23) := ⟨_, rfl⟩
  have bw0 : Below w.heap.size w w0 := by rw [hw0]; exact below_alloc _ _
  have zw0 : w0.heap.size = w.heap.size + 1 := by rw [hw0]; simp
  obtain ⟨w1, hw1⟩ : ∃ w1, w1 = w0.alloc (.cells #[.slice a0 n0 c0, .slice a1 n1 c1] 127) := ⟨_, rfl⟩
  have bw1 : Below w0.heap.size w0 w1 := by rw [hw1]; exact below_alloc _ _
  have zw1 : w1.heap.size = w.heap.size + 1 + 1 := by rw [hw1]; simp [zw0]
  obtain ⟨w2, hw2⟩ : ∃ w2, w2 = w1.alloc (.cells #[.int .u8 0, .int .i64 0, .int .i64 0, .int .i64 0, .slice none 0 0, .slice none 0 0, .int .u8 0, .int .i64 0, .int .i64 0, .int .i64 0, .slice none 0 0, .slice none 0 0] 240) := ⟨_, rfl⟩
  have bw2 : Below w1.heap.size w1 w2 := by rw [hw2]; exact below_alloc _ _
  have zw2 : w2.heap.size = w.heap.size + 1 + 1 + 1 := by rw [hw2]; simp [zw1]
  obtain ⟨w3, hw3⟩ : ∃ w3, w3 = w2.alloc (.cells #[.int .u8 0, .int .i64 0, .int .i64 0, .int .i64 0, .slice none 0 0, .slice none 0 0, .int .u8 0, .int .i64 0, .int .i64 0, .int .i64 0, .slice none 0 0, .slice none 0 0] 240) := ⟨_, rfl⟩
  have bw3 : Below w2.heap.size w2 w3 := by rw [hw3]; exact below_alloc _ _
  have zw3 : w3.heap.size = w.heap.size + 1 + 1 + 1 + 1 := by rw [hw3]; simp [zw2]
  have Bw : Hid (Below w.heap.size w w3) := (below_then (below_then (below_then bw0 bw1) bw2) bw3)
  have Lw0 : Hid (∀ v, Below w3.heap.size w3 v -> At w v (w.heap.size) #[.int .i64 k, .int .i64 r, .int .i64 c, .int .i64 q] 23) := fun v hv => by exact (at_made (Below.refl _ _) hw0).below (below_then (below_then (below_then bw1 bw2) bw3) hv)
  have Lw1 : Hid (∀ v, Below w3.heap.size w3 v -> At w v (w.heap.size + 1) #[.slice a0 n0 c0, .slice a1 n1 c1] 127) := fun v hv => by rw [<- zw0]; exact (at_made bw0 hw1).below (below_then (below_then bw2 bw3) hv)
  have Lw2 : Hid (∀ v, Below w3.heap.size w3 v -> At w v (w.heap.size + 1 + 1) #[.int .u8 0, .int .i64 0, .int .i64 0, .int .i64 0, .slice none 0 0, .slice none 0 0, .int .u8 0, .int .i64 0, .int .i64 0, .int .i64 0, .slice none 0 0, .slice none 0 0] 240) := fun v hv => by rw [<- zw1]; exact (at_made (below_then bw0 bw1) hw2).below (below_then bw3 hv)
  have Lw3 : Hid (∀ v, Below w3.heap.size w3 v -> At w v (w.heap.size + 1 + 1 + 1) #[.int .u8 0, .int .i64 0, .int .i64 0, .int .i64 0, .slice none 0 0, .slice none 0 0, .int .u8 0, .int .i64 0, .int .i64 0, .int .i64 0, .slice none 0 0, .slice none 0 0] 240) := fun v hv => by rw [<- zw2]; exact (at_made (below_then (below_then bw0 bw1) bw2) hw3).below (below_then (Below.refl _ _) hv)
  obtain ⟨E0, hE0⟩ : ∃ E0, erQ x N c n0 = E0 := ⟨_, rfl⟩
  obtain ⟨E1, hE1⟩ : ∃ E1, erQ x N c n1 = E1 := ⟨_, rfl⟩
  obtain ⟨i0, hi0⟩ : ∃ i0, isQ x N c n0 F0 = i0 := ⟨_, rfl⟩
  obtain ⟨i1, hi1⟩ : ∃ i1, isQ x N c n1 F1 = i1 := ⟨_, rfl⟩
  obtain ⟨y0, hy0⟩ : ∃ y0, slQ i0 N c F0 = y0 := ⟨_, rfl⟩
  obtain ⟨y1, hy1⟩ : ∃ y1, slQ i1 N c F1 = y1 := ⟨_, rfl⟩
  have HP0 : Hid (∀ v, Below w.heap.size w v -> Calls Tryz.prog 36 #[.agg #[.int .i64 k, .int .i64 r, .int .i64 c, .int .i64 q], .slice a0 n0 c0] v (AnsP v E0 i0 y0)) := fun v hv => Parse_any h v a0 n0 c0 F0 (h0.below hv) E0 hE0 i0 hi0 y0 hy0
  have HP1 : Hid (∀ v, Below w.heap.size w v -> Calls Tryz.prog 36 #[.agg #[.int .i64 k, .int .i64 r, .int .i64 c, .int .i64 q], .slice a1 n1 c1] v (AnsP v E1 i1 y1)) := fun v hv => Parse_any h v a1 n1 c1 F1 (h1.below hv) E1 hE1 i1 hi1 y1 hy1
  have HZ0 : Hid (E = 0 -> y0 = z0) := fun e => Eq.symm <| by
    have hx : x = 0 := erQ_zero (erT_zero (hE.trans e)).1
    rw [<- hz0, <- hy0, <- hi0]; unfold rd2 isQ; rw [if_pos e, decide_eq_true hx, Bool.true_and]
  have HZ1 : Hid (E = 0 -> y1 = z1) := fun e => Eq.symm <| by
    have hx : x = 0 := erQ_zero (erT_zero (hE.trans e)).1
    rw [<- hz1, <- hy1, <- hi1]; unfold rd2 isQ; rw [if_pos e, decide_eq_true hx, Bool.true_and]
  have HZ2 : Hid (¬ E = 0 -> z0 = zSl /\ z1 = zSl) := fun e => by
    rw [<- hz0, <- hz1]; unfold rd2; rw [if_neg e, if_neg e]; exact ⟨rfl, rfl⟩
  have HEE : E = if E0 = 0 then E1 else E0 := by rw [<- hE, <- hE0, <- hE1]; rfl
  have HS3 : Hid (w3.heap.size = w.heap.size + 1 + 1 + 1 + 1) := zw3
  clear hE hz0 hz1 hE0 hE1 hi0 hi1 hy0 hy1 h h0 h1
  unfold AnsP slv at HP0 HP1
  unfold AnsT bov
  by_cases e0 : E0 = 0
  · subst e0
    rw [if_pos rfl] at HEE
    subst HEE
    by_cases e1 : E = 0
    · subst e1
      go_enter Tryz.func167, Tryz.ntmps167
      go_wp2_with fail
      refine wp_loop_rounds 3 ?_
      rw [rounds_succ]
      go_wp2_with fail
      rw [idp0]
      go_wp2_with fail
      rw [<- hw0, <- hw1, <- hw2, <- hw3]
      clear hw0 bw0 zw0 hw1 bw1 zw1 hw2 bw2 zw2 hw3 bw3 zw3
      refine (HP0.out _ Bw.out).mono ?_
      rintro e wa ⟨ao, ca, bo, cb, rfl, hga, ha⟩
      have HGA : Hid (Got w3.heap.size wa y0 ao ca bo cb) := hga
      have HA : Hid (Below w3.heap.size w3 wa) := ha
      clear hga ha
      have q3 := Lw3.out wa HA.out
      have s0 := fun o => (q3.alloc o).cell (i := 0) rfl
      have s1 := fun o => (q3.alloc o).cell (i := 1) rfl
      have s2 := fun o => (q3.alloc o).cell (i := 2) rfl
      have s3 := fun o => (q3.alloc o).cell (i := 3) rfl
      have s4 := fun o => (q3.alloc o).cell (i := 4) rfl
      have s5 := fun o => (q3.alloc o).cell (i := 5) rfl
      have s6 := fun o => (q3.alloc o).cell (i := 6) rfl
      have s7 := fun o => (q3.alloc o).cell (i := 7) rfl
      have s8 := fun o => (q3.alloc o).cell (i := 8) rfl
      have s9 := fun o => (q3.alloc o).cell (i := 9) rfl
      have s10 := fun o => (q3.alloc o).cell (i := 10) rfl
      have s11 := fun o => (q3.alloc o).cell (i := 11) rfl
      have sf := fun o => (q3.alloc o).free
      clear q3
      go_wp2_with fail
      obtain ⟨wb, hwb⟩ : ∃ wb, wb = (((((((wa.alloc (.cells #[.int .u8 ((y0.kd.toNat : Nat) : Int), .int .i64 y0.ix, .int .i64 y0.ce, .int .i64 y0.st, .slice ao y0.vn ca, .slice bo y0.dn cb] 83)).setCell ⟨w.heap.size + 1 + 1 + 1, 0, none⟩ (.int .u8 ((y0.kd.toNat : Nat) : Int))).setCell ⟨w.heap.size + 1 + 1 + 1, 1, none⟩ (.int .i64 y0.ix)).setCell ⟨w.heap.size + 1 + 1 + 1, 2, none⟩ (.int .i64 y0.ce)).setCell ⟨w.heap.size + 1 + 1 + 1, 3, none⟩ (.int .i64 y0.st)).setCell ⟨w.heap.size + 1 + 1 + 1, 4, none⟩ (.slice ao y0.vn ca)).setCell ⟨w.heap.size + 1 + 1 + 1, 5, none⟩ (.slice bo y0.dn cb)) := ⟨_, rfl⟩
      have HO : Hid (Only (fun x => x = w.heap.size + 1 + 1 + 1) wa wb) := by show Only _ _ _; rw [hwb]; exact ((Only.refl _ _).alloc _).trans (only_lo (wa.alloc (.cells #[.int .u8 ((y0.kd.toNat : Nat) : Int), .int .i64 y0.ix, .int .i64 y0.ce, .int .i64 y0.st, .slice ao y0.vn ca, .slice bo y0.dn cb] 83)) (w.heap.size + 1 + 1 + 1) (.int .u8 ((y0.kd.toNat : Nat) : Int)) (.int .i64 y0.ix) (.int .i64 y0.ce) (.int .i64 y0.st) (.slice ao y0.vn ca) (.slice bo y0.dn cb))
      have HB3 : Hid (At w wb (w.heap.size + 1 + 1 + 1) #[.int .u8 ((y0.kd.toNat : Nat) : Int), .int .i64 y0.ix, .int .i64 y0.ce, .int .i64 y0.st, .slice ao y0.vn ca, .slice bo y0.dn cb, .int .u8 0, .int .i64 0, .int .i64 0, .int .i64 0, .slice none 0 0, .slice none 0 0] 240) := by show At _ _ _ _ _; rw [hwb]; exact at_lo ((Lw3.out wa HA.out).alloc _) _ _ _ _ _ _
      have HB2 : Hid (At w wb (w.heap.size + 1 + 1) #[.int .u8 0, .int .i64 0, .int .i64 0, .int .i64 0, .slice none 0 0, .slice none 0 0, .int .u8 0, .int .i64 0, .int .i64 0, .int .i64 0, .slice none 0 0, .slice none 0 0] 240) := (Lw2.out wa HA.out).only HO.out (by omega)
      have HB0 : Hid (At w wb (w.heap.size) #[.int .i64 k, .int .i64 r, .int .i64 c, .int .i64 q] 23) := (Lw0.out wa HA.out).only HO.out (by omega)
      have HGB : Hid (Got w3.heap.size wb y0 ao ca bo cb) := HGA.out.stay HO.out (by have := HS3.out; omega)
      have HB : Hid (Below w.heap.size w wb) := (below_then Bw.out HA.out).trans (HO.out.below (fun i hi => by omega) (below_then Bw.out HA.out).size)
      rw [<- hwb]
      clear hwb s0 s1 s2 s3 s4 s5 s6 s7 s8 s9 s10 s11 sf HGA HO HA
      have q0 := HB0.out
      have p0 := q0.cell (i := 0) rfl
      have p1 := q0.cell (i := 1) rfl
      have p2 := q0.cell (i := 2) rfl
      have p3 := q0.cell (i := 3) rfl
      have pf := q0.free
      clear q0
      rw [rounds_succ]
      go_wp2_with fail
      rw [idp1]
      go_wp2_with fail
      refine (HP1.out _ HB.out).mono ?_
      rintro e wc ⟨ao', ca', bo', cb', rfl, hgc, hc⟩
      have HGC : Hid (Got wb.heap.size wc y1 ao' ca' bo' cb') := hgc
      have HC : Hid (Below wb.heap.size wb wc) := hc
      clear hgc hc p0 p1 p2 p3 pf
      have q3 := HB3.out.below HC.out
      have s0 := fun o => (q3.alloc o).cell (i := 0) rfl
      have s1 := fun o => (q3.alloc o).cell (i := 1) rfl
      have s2 := fun o => (q3.alloc o).cell (i := 2) rfl
      have s3 := fun o => (q3.alloc o).cell (i := 3) rfl
      have s4 := fun o => (q3.alloc o).cell (i := 4) rfl
      have s5 := fun o => (q3.alloc o).cell (i := 5) rfl
      have s6 := fun o => (q3.alloc o).cell (i := 6) rfl
      have s7 := fun o => (q3.alloc o).cell (i := 7) rfl
      have s8 := fun o => (q3.alloc o).cell (i := 8) rfl
      have s9 := fun o => (q3.alloc o).cell (i := 9) rfl
      have s10 := fun o => (q3.alloc o).cell (i := 10) rfl
      have s11 := fun o => (q3.alloc o).cell (i := 11) rfl
      have sf := fun o => (q3.alloc o).free
      clear q3
      go_wp2_with fail
      obtain ⟨wd, hwd⟩ : ∃ wd, wd = (((((((wc.alloc (.cells #[.int .u8 ((y1.kd.toNat : Nat) : Int), .int .i64 y1.ix, .int .i64 y1.ce, .int .i64 y1.st, .slice ao' y1.vn ca', .slice bo' y1.dn cb'] 83)).setCell ⟨w.heap.size + 1 + 1 + 1, 6, none⟩ (.int .u8 ((y1.kd.toNat : Nat) : Int))).setCell ⟨w.heap.size + 1 + 1 + 1, 7, none⟩ (.int .i64 y1.ix)).setCell ⟨w.heap.size + 1 + 1 + 1, 8, none⟩ (.int .i64 y1.ce)).setCell ⟨w.heap.size + 1 + 1 + 1, 9, none⟩ (.int .i64 y1.st)).setCell ⟨w.heap.size + 1 + 1 + 1, 10, none⟩ (.slice ao' y1.vn ca')).setCell ⟨w.heap.size + 1 + 1 + 1, 11, none⟩ (.slice bo' y1.dn cb')) := ⟨_, rfl⟩
      have HO : Hid (Only (fun x => x = w.heap.size + 1 + 1 + 1) wc wd) := by show Only _ _ _; rw [hwd]; exact ((Only.refl _ _).alloc _).trans (only_hi (wc.alloc (.cells #[.int .u8 ((y1.kd.toNat : Nat) : Int), .int .i64 y1.ix, .int .i64 y1.ce, .int .i64 y1.st, .slice ao' y1.vn ca', .slice bo' y1.dn cb'] 83)) (w.heap.size + 1 + 1 + 1) (.int .u8 ((y1.kd.toNat : Nat) : Int)) (.int .i64 y1.ix) (.int .i64 y1.ce) (.int .i64 y1.st) (.slice ao' y1.vn ca') (.slice bo' y1.dn cb'))
      have HD3 : Hid (At w wd (w.heap.size + 1 + 1 + 1) #[.int .u8 ((y0.kd.toNat : Nat) : Int), .int .i64 y0.ix, .int .i64 y0.ce, .int .i64 y0.st, .slice ao y0.vn ca, .slice bo y0.dn cb, .int .u8 ((y1.kd.toNat : Nat) : Int), .int .i64 y1.ix, .int .i64 y1.ce, .int .i64 y1.st, .slice ao' y1.vn ca', .slice bo' y1.dn cb'] 240) := by show At _ _ _ _ _; rw [hwd]; exact at_hi ((HB3.out.below HC.out).alloc _) _ _ _ _ _ _
      have HD2 : Hid (At w wd (w.heap.size + 1 + 1) #[.int .u8 0, .int .i64 0, .int .i64 0, .int .i64 0, .slice none 0 0, .slice none 0 0, .int .u8 0, .int .i64 0, .int .i64 0, .int .i64 0, .slice none 0 0, .slice none 0 0] 240) := (HB2.out.below HC.out).only HO.out (by omega)
      have HGD : Hid (Got w3.heap.size wd y0 ao ca bo cb) := (HGB.out.below HC.out).stay HO.out (by have := HS3.out; omega)
      have HGE : Hid (Got w3.heap.size wd y1 ao' ca' bo' cb') := (HGC.out.mono (by have := HB.out.size; have := HB3.out.lt; have := HS3.out; omega)).stay HO.out (by have := HS3.out; omega)
      have HD : Hid (Below w.heap.size w wd) := (below_then HB.out HC.out).trans (HO.out.below (fun i hi => by omega) (below_then HB.out HC.out).size)
      rw [<- hwd]
      clear hwd s0 s1 s2 s3 s4 s5 s6 s7 s8 s9 s10 s11 sf HGB HGC HO HB HC HB3 HB2 HB0
      have q3 := HD3.out
      have s0 := q3.cell (i := 0) rfl
      have s1 := q3.cell (i := 1) rfl
      have s2 := q3.cell (i := 2) rfl
      have s3 := q3.cell (i := 3) rfl
      have s4 := q3.cell (i := 4) rfl
      have s5 := q3.cell (i := 5) rfl
      have s6 := q3.cell (i := 6) rfl
      have s7 := q3.cell (i := 7) rfl
      have s8 := q3.cell (i := 8) rfl
      have s9 := q3.cell (i := 9) rfl
      have s10 := q3.cell (i := 10) rfl
      have s11 := q3.cell (i := 11) rfl
      have q2 := HD2.out
      have r0 := q2.cell (i := 0) rfl
      have r1 := q2.cell (i := 1) rfl
      have r2 := q2.cell (i := 2) rfl
      have r3 := q2.cell (i := 3) rfl
      have r4 := q2.cell (i := 4) rfl
      have r5 := q2.cell (i := 5) rfl
      have r6 := q2.cell (i := 6) rfl
      have r7 := q2.cell (i := 7) rfl
      have r8 := q2.cell (i := 8) rfl
      have r9 := q2.cell (i := 9) rfl
      have r10 := q2.cell (i := 10) rfl
      have r11 := q2.cell (i := 11) rfl
      have rf := q2.free
      clear q2 q3
      rw [rounds_succ]
      go_wp2_with fail
      refine bodyPost_ret (v := .tuple #[.agg #[.int .u8 ((y0.kd.toNat : Nat) : Int), .int .i64 y0.ix, .int .i64 y0.ce, .int .i64 y0.st, .slice ao y0.vn ca, .slice bo y0.dn cb, .int .u8 ((y1.kd.toNat : Nat) : Int), .int .i64 y1.ix, .int .i64 y1.ce, .int .i64 y1.st, .slice ao' y1.vn ca', .slice bo' y1.dn cb'], .int .i64 0]) (by simp [results, Tryz.results167, go_sem, r0, r1, r2, r3, r4, r5, r6, r7, r8, r9, r10, r11]) rfl ?_
      obtain rfl := HZ0.out (by trivial)
      obtain rfl := HZ1.out (by trivial)
      have ho := only_all wd (w.heap.size + 1 + 1) (.int .u8 ((y0.kd.toNat : Nat) : Int)) (.int .i64 y0.ix) (.int .i64 y0.ce) (.int .i64 y0.st) (.slice ao y0.vn ca) (.slice bo y0.dn cb) (.int .u8 ((y1.kd.toNat : Nat) : Int)) (.int .i64 y1.ix) (.int .i64 y1.ce) (.int .i64 y1.st) (.slice ao' y1.vn ca') (.slice bo' y1.dn cb')
      exact ⟨ao, ca, bo, cb, ao', ca', bo', cb', rfl, (HGD.out.stay ho (by have := HS3.out; omega)).mono (by have := HS3.out; omega), (HGE.out.stay ho (by have := HS3.out; omega)).mono (by have := HS3.out; omega), HD.out.trans (ho.below (fun i hi => by omega) HD.out.size)⟩
    · skip
      go_enter Tryz.func167, Tryz.ntmps167
      go_wp2_with fail
      refine wp_loop_rounds 3 ?_
      rw [rounds_succ]
      go_wp2_with fail
      rw [idp0]
      go_wp2_with fail
      rw [<- hw0, <- hw1, <- hw2, <- hw3]
      clear hw0 bw0 zw0 hw1 bw1 zw1 hw2 bw2 zw2 hw3 bw3 zw3
      refine (HP0.out _ Bw.out).mono ?_
      rintro e wa ⟨ao, ca, bo, cb, rfl, hga, ha⟩
      have HGA : Hid (Got w3.heap.size wa y0 ao ca bo cb) := hga
      have HA : Hid (Below w3.heap.size w3 wa) := ha
      clear hga ha
      have q3 := Lw3.out wa HA.out
      have s0 := fun o => (q3.alloc o).cell (i := 0) rfl
      have s1 := fun o => (q3.alloc o).cell (i := 1) rfl
      have s2 := fun o => (q3.alloc o).cell (i := 2) rfl
      have s3 := fun o => (q3.alloc o).cell (i := 3) rfl
      have s4 := fun o => (q3.alloc o).cell (i := 4) rfl
      have s5 := fun o => (q3.alloc o).cell (i := 5) rfl
      have s6 := fun o => (q3.alloc o).cell (i := 6) rfl
      have s7 := fun o => (q3.alloc o).cell (i := 7) rfl
      have s8 := fun o => (q3.alloc o).cell (i := 8) rfl
      have s9 := fun o => (q3.alloc o).cell (i := 9) rfl
      have s10 := fun o => (q3.alloc o).cell (i := 10) rfl
      have s11 := fun o => (q3.alloc o).cell (i := 11) rfl
      have sf := fun o => (q3.alloc o).free
      clear q3
      go_wp2_with fail
      obtain ⟨wb, hwb⟩ : ∃ wb, wb = (((((((wa.alloc (.cells #[.int .u8 ((y0.kd.toNat : Nat) : Int), .int .i64 y0.ix, .int .i64 y0.ce, .int .i64 y0.st, .slice ao y0.vn ca, .slice bo y0.dn cb] 83)).setCell ⟨w.heap.size + 1 + 1 + 1, 0, none⟩ (.int .u8 ((y0.kd.toNat : Nat) : Int))).setCell ⟨w.heap.size + 1 + 1 + 1, 1, none⟩ (.int .i64 y0.ix)).setCell ⟨w.heap.size + 1 + 1 + 1, 2, none⟩ (.int .i64 y0.ce)).setCell ⟨w.heap.size + 1 + 1 + 1, 3, none⟩ (.int .i64 y0.st)).setCell ⟨w.heap.size + 1 + 1 + 1, 4, none⟩ (.slice ao y0.vn ca)).setCell ⟨w.heap.size + 1 + 1 + 1, 5, none⟩ (.slice bo y0.dn cb)) := ⟨_, rfl⟩
      have HO : Hid (Only (fun x => x = w.heap.size + 1 + 1 + 1) wa wb) := by show Only _ _ _; rw [hwb]; exact ((Only.refl _ _).alloc _).trans (only_lo (wa.alloc (.cells #[.int .u8 ((y0.kd.toNat : Nat) : Int), .int .i64 y0.ix, .int .i64 y0.ce, .int .i64 y0.st, .slice ao y0.vn ca, .slice bo y0.dn cb] 83)) (w.heap.size + 1 + 1 + 1) (.int .u8 ((y0.kd.toNat : Nat) : Int)) (.int .i64 y0.ix) (.int .i64 y0.ce) (.int .i64 y0.st) (.slice ao y0.vn ca) (.slice bo y0.dn cb))
      have HB3 : Hid (At w wb (w.heap.size + 1 + 1 + 1) #[.int .u8 ((y0.kd.toNat : Nat) : Int), .int .i64 y0.ix, .int .i64 y0.ce, .int .i64 y0.st, .slice ao y0.vn ca, .slice bo y0.dn cb, .int .u8 0, .int .i64 0, .int .i64 0, .int .i64 0, .slice none 0 0, .slice none 0 0] 240) := by show At _ _ _ _ _; rw [hwb]; exact at_lo ((Lw3.out wa HA.out).alloc _) _ _ _ _ _ _
      have HB2 : Hid (At w wb (w.heap.size + 1 + 1) #[.int .u8 0, .int .i64 0, .int .i64 0, .int .i64 0, .slice none 0 0, .slice none 0 0, .int .u8 0, .int .i64 0, .int .i64 0, .int .i64 0, .slice none 0 0, .slice none 0 0] 240) := (Lw2.out wa HA.out).only HO.out (by omega)
      have HB0 : Hid (At w wb (w.heap.size) #[.int .i64 k, .int .i64 r, .int .i64 c, .int .i64 q] 23) := (Lw0.out wa HA.out).only HO.out (by omega)
      have HGB : Hid (Got w3.heap.size wb y0 ao ca bo cb) := HGA.out.stay HO.out (by have := HS3.out; omega)
      have HB : Hid (Below w.heap.size w wb) := (below_then Bw.out HA.out).trans (HO.out.below (fun i hi => by omega) (below_then Bw.out HA.out).size)
      rw [<- hwb]
      clear hwb s0 s1 s2 s3 s4 s5 s6 s7 s8 s9 s10 s11 sf HGA HO HA
      have q0 := HB0.out
      have p0 := q0.cell (i := 0) rfl
      have p1 := q0.cell (i := 1) rfl
      have p2 := q0.cell (i := 2) rfl
      have p3 := q0.cell (i := 3) rfl
      have pf := q0.free
      clear q0
      rw [rounds_succ]
      go_wp2_with fail
      rw [idp1]
      go_wp2_with fail
      refine (HP1.out _ HB.out).mono ?_
      rintro e wc ⟨ao', ca', bo', cb', rfl, hgc, hc⟩
      have HGC : Hid (Got wb.heap.size wc y1 ao' ca' bo' cb') := hgc
      have HC : Hid (Below wb.heap.size wb wc) := hc
      clear hgc hc p0 p1 p2 p3 pf
      have hne := e1
      clear e1
      have hq : (E != 0) = true := by simpa using hne
      have q2 := HB2.out.below HC.out
      have r0 := fun o => (q2.alloc o).cell (i := 0) rfl
      have r1 := fun o => (q2.alloc o).cell (i := 1) rfl
      have r2 := fun o => (q2.alloc o).cell (i := 2) rfl
      have r3 := fun o => (q2.alloc o).cell (i := 3) rfl
      have r4 := fun o => (q2.alloc o).cell (i := 4) rfl
      have r5 := fun o => (q2.alloc o).cell (i := 5) rfl
      have r6 := fun o => (q2.alloc o).cell (i := 6) rfl
      have r7 := fun o => (q2.alloc o).cell (i := 7) rfl
      have r8 := fun o => (q2.alloc o).cell (i := 8) rfl
      have r9 := fun o => (q2.alloc o).cell (i := 9) rfl
      have r10 := fun o => (q2.alloc o).cell (i := 10) rfl
      have r11 := fun o => (q2.alloc o).cell (i := 11) rfl
      have rf := fun o => (q2.alloc o).free
      clear q2
      go_wp2_with fail
      refine bodyPost_ret (v := .tuple #[.agg #[.int .u8 0, .int .i64 0, .int .i64 0, .int .i64 0, .slice none 0 0, .slice none 0 0, .int .u8 0, .int .i64 0, .int .i64 0, .int .i64 0, .slice none 0 0, .slice none 0 0], .int .i64 E]) (by simp [results, Tryz.results167, go_sem, r0, r1, r2, r3, r4, r5, r6, r7, r8, r9, r10, r11]) rfl ?_
      obtain ⟨rfl, rfl⟩ := HZ2.out (hne)
      refine ⟨none, 0, none, 0, none, 0, none, 0, rfl, got_z _ _, got_z _ _, ?_⟩
      have hal := b_alloc (below_then HB.out HC.out) (.cells #[.int .u8 ((y1.kd.toNat : Nat) : Int), .int .i64 y1.ix, .int .i64 y1.ce, .int .i64 y1.st, .slice ao' y1.vn ca', .slice bo' y1.dn cb'] 83)
      exact hal.trans ((only_all (wc.alloc (.cells #[.int .u8 ((y1.kd.toNat : Nat) : Int), .int .i64 y1.ix, .int .i64 y1.ce, .int .i64 y1.st, .slice ao' y1.vn ca', .slice bo' y1.dn cb'] 83)) (w.heap.size + 1 + 1) (.int .u8 0) (.int .i64 0) (.int .i64 0) (.int .i64 0) (.slice none 0 0) (.slice none 0 0) (.int .u8 0) (.int .i64 0) (.int .i64 0) (.int .i64 0) (.slice none 0 0) (.slice none 0 0)).below (fun i hi => by omega) hal.size)
  · rw [if_neg e0] at HEE
    subst HEE
    go_enter Tryz.func167, Tryz.ntmps167
    go_wp2_with fail
    refine wp_loop_rounds 3 ?_
    rw [rounds_succ]
    go_wp2_with fail
    rw [idp0]
    go_wp2_with fail
    rw [<- hw0, <- hw1, <- hw2, <- hw3]
    clear hw0 bw0 zw0 hw1 bw1 zw1 hw2 bw2 zw2 hw3 bw3 zw3
    refine (HP0.out _ Bw.out).mono ?_
    rintro e wa ⟨ao, ca, bo, cb, rfl, hga, ha⟩
    have HGA : Hid (Got w3.heap.size wa y0 ao ca bo cb) := hga
    have HA : Hid (Below w3.heap.size w3 wa) := ha
    clear hga ha
    have hne := e0
    clear e0
    have hq : (E != 0) = true := by simpa using hne
    have q2 := Lw2.out wa HA.out
    have r0 := fun o => (q2.alloc o).cell (i := 0) rfl
    have r1 := fun o => (q2.alloc o).cell (i := 1) rfl
    have r2 := fun o => (q2.alloc o).cell (i := 2) rfl
    have r3 := fun o => (q2.alloc o).cell (i := 3) rfl
    have r4 := fun o => (q2.alloc o).cell (i := 4) rfl
    have r5 := fun o => (q2.alloc o).cell (i := 5) rfl
    have r6 := fun o => (q2.alloc o).cell (i := 6) rfl
    have r7 := fun o => (q2.alloc o).cell (i := 7) rfl
    have r8 := fun o => (q2.alloc o).cell (i := 8) rfl
    have r9 := fun o => (q2.alloc o).cell (i := 9) rfl
    have r10 := fun o => (q2.alloc o).cell (i := 10) rfl
    have r11 := fun o => (q2.alloc o).cell (i := 11) rfl
    have rf := fun o => (q2.alloc o).free
    clear q2
    go_wp2_with fail
    refine bodyPost_ret (v := .tuple #[.agg #[.int .u8 0, .int .i64 0, .int .i64 0, .int .i64 0, .slice none 0 0, .slice none 0 0, .int .u8 0, .int .i64 0, .int .i64 0, .int .i64 0, .slice none 0 0, .slice none 0 0], .int .i64 E]) (by simp [results, Tryz.results167, go_sem, r0, r1, r2, r3, r4, r5, r6, r7, r8, r9, r10, r11]) rfl ?_
    obtain ⟨rfl, rfl⟩ := HZ2.out (hne)
    refine ⟨none, 0, none, 0, none, 0, none, 0, rfl, got_z _ _, got_z _ _, ?_⟩
    have hal := b_alloc (below_then Bw.out HA.out) (.cells #[.int .u8 ((y0.kd.toNat : Nat) : Int), .int .i64 y0.ix, .int .i64 y0.ce, .int .i64 y0.st, .slice ao y0.vn ca, .slice bo y0.dn cb] 83)
    exact hal.trans ((only_all (wa.alloc (.cells #[.int .u8 ((y0.kd.toNat : Nat) : Int), .int .i64 y0.ix, .int .i64 y0.ce, .int .i64 y0.st, .slice ao y0.vn ca, .slice bo y0.dn cb] 83)) (w.heap.size + 1 + 1) (.int .u8 0) (.int .i64 0) (.int .i64 0) (.int .i64 0) (.slice none 0 0) (.slice none 0 0) (.int .u8 0) (.int .i64 0) (.int .i64 0) (.int .i64 0) (.slice none 0 0) (.slice none 0 0)).below (fun i hi => by omega) hal.size)
end Go.Proofs.YtngcdlodcdgcaaaGreat
