/- What Parse of the document answers. -/
import Derived.Test.YtcippamdjmonlaaSl3
namespace Go.Proofs.Ytcippamdjmonlaa
open Go.RowKit

set_option maxHeartbeats 8000000 in
set_option maxRecDepth 100000 in
theorem RParse_any {k r c q : Int} {N W : Nat} {x : Int} (h : Par k r c q N W x) (w : World) (bo : Option Addr) (n cb : Nat) (F : Nat → UInt8) (hb : Bec w bo n cb F) (hnn : n ≤ 9223372036854775807) (E : Int) (hE : erQ x N c n = E) (i : Bool) (hi : isQ x N c n F = i) (z : Sl) (hz : slQ i N c F = z) :
    Calls Try.prog 15 #[.agg #[.int .i64 k, .int .i64 r, .int .i64 c, .int .i64 q], .slice bo n cb] w (AnsP w E i z) := by
  have HM : Hid (∀ w, Calls Try.prog 18 #[.agg #[.int .i64 k, .int .i64 r, .int .i64 c, .int .i64 q]] w fun e w' => e = .returned (.bool (decide (x = 0))) ∧ Below w.heap.size w w') := fun w => by have := May_any k r c q w; rw [h.may] at this; exact this
  have hx := h.err
  have HBE : Hid (Bec w bo n cb F) := hb
  obtain ⟨w0, hw0⟩ : ∃ w0, w0 = w.alloc (.cells #[.int .i64 k, .int .i64 r, .int .i64 c, .int .i64 q] 23) := ⟨_, rfl⟩
  obtain ⟨w1, hw1⟩ : ∃ w1, w1 = w0.alloc (.cells #[.int .u8 0, .int .i64 0, .int .i64 0, .int .i64 0, .slice none 0 0, .slice none 0 0] 27) := ⟨_, rfl⟩
  have b0 : Below w.heap.size w w0 := by rw [hw0]; exact below_alloc _ _
  have b1 : Below w0.heap.size w0 w1 := by rw [hw1]; exact below_alloc _ _
  have z0 : w0.heap.size = w.heap.size + 1 := by rw [hw0]; simp
  have z1 : w1.heap.size = w.heap.size + 2 := by rw [hw1]; simp [z0]
  have C0 : Hid (Cel w1 w.heap.size [.int .i64 k, .int .i64 r, .int .i64 c, .int .i64 q]) := (cel_new hw0).below b1
  have HAT : Hid (∀ v, Below w1.heap.size w1 v → At w0 v (w.heap.size + 1) #[.int .u8 0, .int .i64 0, .int .i64 0, .int .i64 0, .slice none 0 0, .slice none 0 0] 27) := fun v hv => by rw [← z0, hw1] at *; exact (at_new (Below.refl _ _) _ _).below hv
  have HB1 : Hid (Below w.heap.size w w1) := below_then b0 b1
  have HZ1 : Hid (w1.heap.size = w.heap.size + 2) := z1
  unfold AnsP
  rcases hx with rfl | rfl
  · have HZ : Hid (∀ w, Calls Try.prog 19 #[.agg #[.int .i64 k, .int .i64 r, .int .i64 c, .int .i64 q]] w fun e w' => e = .returned (.int .i64 ((sz N c : Nat) : Int)) ∧ Below w.heap.size w w') := fun w => Size6_any h w
    have hN := h.few
    have hc := h.cell rfl
    obtain ⟨m0, hm0⟩ : ∃ m0, m0 = sz N c := ⟨_, rfl⟩
    rw [← hm0] at HZ
    have hm2 : m0 = 12 + 4 * N + c.toNat := hm0
    have hmb : 12 ≤ m0 ∧ m0 ≤ 1000 := by omega
    have hii : isS N c n F = i := by rw [← hi]; unfold isQ; rw [decide_eq_true rfl, Bool.true_and]
    rw [show decide ((0 : Int) = 0) = true from rfl] at HM
    have HRD : Hid (∀ v, Bec v bo n cb F → Calls Try.prog 26 #[.agg #[.int .i64 k, .int .i64 r, .int .i64 c, .int .i64 q], .slice bo n cb] v fun e w' => ∃ ao ca yo yc, e = .returned (.tuple #[.agg #[.int .u8 ((z.kd.toNat : Nat) : Int), .int .i64 z.ix, .int .i64 z.ce, .int .i64 z.st, .slice ao z.vn ca, .slice yo z.dn yc], .bool i]) ∧ Got v.heap.size w' z ao ca yo yc ∧ Below v.heap.size v w') := fun v hv => Read_any h v bo n cb F hv hnn i hii z hz
    by_cases hn0 : n = 0
    · obtain rfl : E = 0 := by rw [← hE]; unfold erQ; rw [if_pos rfl, if_pos (.inl hn0)]
      have HN0 : Hid (n = 0) := hn0
      have q1 : ((n : Int) != 0) = false := by simp [hn0]
      clear hE hi hii hz hm0 hm2 hb h hn0 hc
      go_enter Try.func15, Try.ntmps15
      go_wp2_with fail
      rw [← hw0, ← hw1]
      refine (HM.out _).mono ?_
      rintro e wa ⟨rfl, ha⟩
      have HA : Hid (Below w1.heap.size w1 wa) := ha
      clear hw0 hw1 b0 b1 z0 z1 ha
      have pc := C0.out.below HA.out
      have p0 := pc 0 _ rfl
      have p1 := pc 1 _ rfl
      have p2 := pc 2 _ rfl
      have p3 := pc 3 _ rfl
      clear pc
      go_wp2_with fail
      refine (HRD.out _ (HBE.out.below (below_then HB1.out HA.out))).mono ?_
      rintro e wr ⟨ao, ca, yo, yc, rfl, hg, hr⟩
      have HR : Hid (Below w1.heap.size w1 wr) := below_then HA.out hr
      have HGA : Hid (Got w1.heap.size wr z ao ca yo yc) := hg.mono HA.out.size
      obtain ⟨wz, hwz⟩ : ∃ wz, wz = wr.alloc (.cells #[.int .u8 ((z.kd.toNat : Nat) : Int), .int .i64 z.ix, .int .i64 z.ce, .int .i64 z.st, .slice ao z.vn ca, .slice yo z.dn yc] 27) := ⟨_, rfl⟩
      have bz : Below wr.heap.size wr wz := by rw [hwz]; exact below_alloc _ _
      have HZZ : Hid (Below w1.heap.size w1 wz) := below_then HR.out bz
      have HGZ : Hid (Got w1.heap.size wz z ao ca yo yc) := HGA.out.below bz
      have ya := HAT.out wr HR.out
      have gy : ∀ o i u, #[.int .u8 0, .int .i64 0, .int .i64 0, .int .i64 0, .slice none 0 0, .slice none 0 0][i]? = some u → (wr.alloc o).cell? ⟨w.heap.size + 1, i, none⟩ = some u := fun o i u hu => (ya.alloc o).cell hu
      have gf : ∀ o i, (wr.alloc o).frozen? ⟨w.heap.size + 1, i, none⟩ = false := fun o i => (ya.alloc o).free i
      have gy0 := fun o => gy o 0 _ rfl
      have gy1 := fun o => gy o 1 _ rfl
      have gy2 := fun o => gy o 2 _ rfl
      have gy3 := fun o => gy o 3 _ rfl
      have gy4 := fun o => gy o 4 _ rfl
      have gy5 := fun o => gy o 5 _ rfl
      have hzl : w.heap.size + 2 ≤ wr.heap.size := by have := HR.out.size; have := HZ1.out; omega
      have nq : ¬ wr.heap.size = w.heap.size + 1 := by omega
      have nq2 : ¬ w.heap.size + 1 = wr.heap.size := by omega
      clear hg hr bz gy ya hzl
      go_wp2_with fail
      rw [← hwz]
      clear hwz gy0 gy1 gy2 gy3 gy4 gy5 gf
      have ya := HAT.out wz HZZ.out
      have y0 := ya.cell (i := 0) rfl
      have y1 := ya.cell (i := 1) rfl
      have y2 := ya.cell (i := 2) rfl
      have y3 := ya.cell (i := 3) rfl
      have y4 := ya.cell (i := 4) rfl
      have y5 := ya.cell (i := 5) rfl
      have yf := ya.free
      clear ya
      refine bodyPost_ret (v := .tuple #[.agg #[.int .u8 ((z.kd.toNat : Nat) : Int), .int .i64 z.ix, .int .i64 z.ce, .int .i64 z.st, .slice ao z.vn ca, .slice yo z.dn yc], .bool i, .int .i64 0]) (by simp [results, Try.results15, go_sem, y0, y1, y2, y3, y4, y5]) rfl ?_
      refine ⟨ao, ca, yo, yc, rfl, ⟨?_, ?_⟩, b_at (b_at (b_at (b_at (b_at (b_at (below_then HB1.out HZZ.out) (Nat.le_succ _) _) (Nat.le_succ _) _) (Nat.le_succ _) _) (Nat.le_succ _) _) (Nat.le_succ _) _) (Nat.le_succ _) _⟩
      · refine Own.mono (B := w1.heap.size) (only_stay_own (b := w.heap.size + 1) HGZ.out.vec ?_ (by have := HZ1.out; omega)) (by have := HZ1.out; omega)
        exact only6 _ _ _ _ _ _ _ _
      · refine OwU.mono (B := w1.heap.size) (only_stay_owu (b := w.heap.size + 1) HGZ.out.bec ?_ (by have := HZ1.out; omega)) (by have := HZ1.out; omega)
        exact only6 _ _ _ _ _ _ _ _
    · by_cases hnm : n = m0
      · obtain rfl : E = 0 := by rw [← hE]; unfold erQ; rw [if_pos rfl, if_pos (.inr (by rw [hnm]; exact hm0))]
        have q1 : ((n : Int) != 0) = true := by simp only [bne_iff_ne]; omega
        have q2 : ((n : Int) != (m0 : Int)) = false := by simp [hnm]
        clear hE hi hii hz hm0 hm2 hb h hnm hc
        go_enter Try.func15, Try.ntmps15
        go_wp2_with fail
        rw [← hw0, ← hw1]
        refine (HM.out _).mono ?_
        rintro e wa ⟨rfl, ha⟩
        have HA : Hid (Below w1.heap.size w1 wa) := ha
        clear hw0 hw1 b0 b1 z0 z1 ha
        have pc := C0.out.below HA.out
        have p0 := pc 0 _ rfl
        have p1 := pc 1 _ rfl
        have p2 := pc 2 _ rfl
        have p3 := pc 3 _ rfl
        clear pc
        go_wp2_with fail
        refine (HZ.out _).mono ?_
        rintro e ws ⟨rfl, hs⟩
        replace HA : Hid (Below w1.heap.size w1 ws) := below_then HA.out hs
        clear hs
        clear p0 p1 p2 p3
        have pc := C0.out.below HA.out
        have p0 := pc 0 _ rfl
        have p1 := pc 1 _ rfl
        have p2 := pc 2 _ rfl
        have p3 := pc 3 _ rfl
        clear pc
        go_wp2_with fail
        refine (HRD.out _ (HBE.out.below (below_then HB1.out HA.out))).mono ?_
        rintro e wr ⟨ao, ca, yo, yc, rfl, hg, hr⟩
        have HR : Hid (Below w1.heap.size w1 wr) := below_then HA.out hr
        have HGA : Hid (Got w1.heap.size wr z ao ca yo yc) := hg.mono HA.out.size
        obtain ⟨wz, hwz⟩ : ∃ wz, wz = wr.alloc (.cells #[.int .u8 ((z.kd.toNat : Nat) : Int), .int .i64 z.ix, .int .i64 z.ce, .int .i64 z.st, .slice ao z.vn ca, .slice yo z.dn yc] 27) := ⟨_, rfl⟩
        have bz : Below wr.heap.size wr wz := by rw [hwz]; exact below_alloc _ _
        have HZZ : Hid (Below w1.heap.size w1 wz) := below_then HR.out bz
        have HGZ : Hid (Got w1.heap.size wz z ao ca yo yc) := HGA.out.below bz
        have ya := HAT.out wr HR.out
        have gy : ∀ o i u, #[.int .u8 0, .int .i64 0, .int .i64 0, .int .i64 0, .slice none 0 0, .slice none 0 0][i]? = some u → (wr.alloc o).cell? ⟨w.heap.size + 1, i, none⟩ = some u := fun o i u hu => (ya.alloc o).cell hu
        have gf : ∀ o i, (wr.alloc o).frozen? ⟨w.heap.size + 1, i, none⟩ = false := fun o i => (ya.alloc o).free i
        have gy0 := fun o => gy o 0 _ rfl
        have gy1 := fun o => gy o 1 _ rfl
        have gy2 := fun o => gy o 2 _ rfl
        have gy3 := fun o => gy o 3 _ rfl
        have gy4 := fun o => gy o 4 _ rfl
        have gy5 := fun o => gy o 5 _ rfl
        have hzl : w.heap.size + 2 ≤ wr.heap.size := by have := HR.out.size; have := HZ1.out; omega
        have nq : ¬ wr.heap.size = w.heap.size + 1 := by omega
        have nq2 : ¬ w.heap.size + 1 = wr.heap.size := by omega
        clear hg hr bz gy ya hzl
        go_wp2_with fail
        rw [← hwz]
        clear hwz gy0 gy1 gy2 gy3 gy4 gy5 gf
        have ya := HAT.out wz HZZ.out
        have y0 := ya.cell (i := 0) rfl
        have y1 := ya.cell (i := 1) rfl
        have y2 := ya.cell (i := 2) rfl
        have y3 := ya.cell (i := 3) rfl
        have y4 := ya.cell (i := 4) rfl
        have y5 := ya.cell (i := 5) rfl
        have yf := ya.free
        clear ya
        refine bodyPost_ret (v := .tuple #[.agg #[.int .u8 ((z.kd.toNat : Nat) : Int), .int .i64 z.ix, .int .i64 z.ce, .int .i64 z.st, .slice ao z.vn ca, .slice yo z.dn yc], .bool i, .int .i64 0]) (by simp [results, Try.results15, go_sem, y0, y1, y2, y3, y4, y5]) rfl ?_
        refine ⟨ao, ca, yo, yc, rfl, ⟨?_, ?_⟩, b_at (b_at (b_at (b_at (b_at (b_at (below_then HB1.out HZZ.out) (Nat.le_succ _) _) (Nat.le_succ _) _) (Nat.le_succ _) _) (Nat.le_succ _) _) (Nat.le_succ _) _) (Nat.le_succ _) _⟩
        · refine Own.mono (B := w1.heap.size) (only_stay_own (b := w.heap.size + 1) HGZ.out.vec ?_ (by have := HZ1.out; omega)) (by have := HZ1.out; omega)
          exact only6 _ _ _ _ _ _ _ _
        · refine OwU.mono (B := w1.heap.size) (only_stay_owu (b := w.heap.size + 1) HGZ.out.bec ?_ (by have := HZ1.out; omega)) (by have := HZ1.out; omega)
          exact only6 _ _ _ _ _ _ _ _
      · obtain rfl : E = 100 := by rw [← hE]; unfold erQ; rw [if_pos rfl, if_neg (by rw [← hm0]; omega)]
        obtain rfl : i = false := by rw [← hii]; exact decide_eq_false fun h => hnm (by rw [hm0]; exact h.1)
        obtain rfl : z = zSl := hz.symm
        have q1 : ((n : Int) != 0) = true := by simp only [bne_iff_ne]; omega
        have q2 : ((n : Int) != (m0 : Int)) = true := by simp only [bne_iff_ne]; omega
        clear hE hi hii hz hm0 hm2 hb h hnm hc
        unfold slv zSl
        go_enter Try.func15, Try.ntmps15
        go_wp2_with fail
        rw [← hw0, ← hw1]
        refine (HM.out _).mono ?_
        rintro e wa ⟨rfl, ha⟩
        have HA : Hid (Below w1.heap.size w1 wa) := ha
        clear hw0 hw1 b0 b1 z0 z1 ha
        have pc := C0.out.below HA.out
        have p0 := pc 0 _ rfl
        have p1 := pc 1 _ rfl
        have p2 := pc 2 _ rfl
        have p3 := pc 3 _ rfl
        clear pc
        go_wp2_with fail
        refine (HZ.out _).mono ?_
        rintro e ws ⟨rfl, hs⟩
        replace HA : Hid (Below w1.heap.size w1 ws) := below_then HA.out hs
        clear hs
        clear p0 p1 p2 p3
        have pc := C0.out.below HA.out
        have p0 := pc 0 _ rfl
        have p1 := pc 1 _ rfl
        have p2 := pc 2 _ rfl
        have p3 := pc 3 _ rfl
        clear pc
        have ya := HAT.out ws HA.out
        have y0 := ya.cell (i := 0) rfl
        have y1 := ya.cell (i := 1) rfl
        have y2 := ya.cell (i := 2) rfl
        have y3 := ya.cell (i := 3) rfl
        have y4 := ya.cell (i := 4) rfl
        have y5 := ya.cell (i := 5) rfl
        have yf := ya.free
        clear ya
        go_wp2_with fail
        refine bodyPost_ret (v := .tuple #[.agg #[.int .u8 0, .int .i64 0, .int .i64 0, .int .i64 0, .slice none 0 0, .slice none 0 0], .bool false, .int .i64 100]) (by simp [results, Try.results15, go_sem, y0, y1, y2, y3, y4, y5]) rfl ?_
        exact ⟨none, 0, none, 0, rfl, got_z _ _, b_at (b_at (b_at (b_at (b_at (b_at (below_then HB1.out HA.out) (Nat.le_succ _) _) (Nat.le_succ _) _) (Nat.le_succ _) _) (Nat.le_succ _) _) (Nat.le_succ _) _) (Nat.le_succ _) _⟩
  · obtain rfl : E = 2 := by rw [← hE]; unfold erQ; rw [if_neg (by decide)]
    obtain rfl : i = false := by rw [← hi]; rfl
    obtain rfl : z = zSl := hz.symm
    rw [show decide ((2 : Int) = 0) = false from rfl] at HM
    clear hE hi hz hb h
    unfold slv zSl
    go_enter Try.func15, Try.ntmps15
    go_wp2_with fail
    rw [← hw0, ← hw1]
    refine (HM.out _).mono ?_
    rintro e wa ⟨rfl, ha⟩
    have HA : Hid (Below w1.heap.size w1 wa) := ha
    clear hw0 hw1 b0 b1 z0 z1 ha
    have pc := C0.out.below HA.out
    have p0 := pc 0 _ rfl
    have p1 := pc 1 _ rfl
    have p2 := pc 2 _ rfl
    have p3 := pc 3 _ rfl
    clear pc
    have ya := HAT.out wa HA.out
    have y0 := ya.cell (i := 0) rfl
    have y1 := ya.cell (i := 1) rfl
    have y2 := ya.cell (i := 2) rfl
    have y3 := ya.cell (i := 3) rfl
    have y4 := ya.cell (i := 4) rfl
    have y5 := ya.cell (i := 5) rfl
    have yf := ya.free
    clear ya
    go_wp2_with fail
    refine bodyPost_ret (v := .tuple #[.agg #[.int .u8 0, .int .i64 0, .int .i64 0, .int .i64 0, .slice none 0 0, .slice none 0 0], .bool false, .int .i64 2]) (by simp [results, Try.results15, go_sem, y0, y1, y2, y3, y4, y5]) rfl ?_
    exact ⟨none, 0, none, 0, rfl, got_z _ _, b_at (b_at (b_at (b_at (b_at (b_at (below_then HB1.out HA.out) (Nat.le_succ _) _) (Nat.le_succ _) _) (Nat.le_succ _) _) (Nat.le_succ _) _) (Nat.le_succ _) _) (Nat.le_succ _) _⟩
end Go.Proofs.Ytcippamdjmonlaa
