import Derived.Deep.RegionHeld3
import Derived.Test.YtdmpiipllmjloaaGreatPj45
import Derived.Test.YtdmpiipllmjloaaGreatPj46
import Derived.Test.YtdmpiipllmjloaaGreatPj47
namespace Go.Proofs.YtdmpiipllmjloaaGreat.De
open Go.RowKit
def hdB (A D n : Nat) (j : Nat) : UInt8 := if j < 4 then dg A (3 - j) else if j < 5 then dg D 0 else dg n (6 - j)
theorem hdB_up (F : Nat -> UInt8) (A D n j : Nat) (hj : j < 7) : upR (upR (upR F 0 4 (fun i => dg A (4 - 1 - i))) (0 + 4) 1 (fun i => dg D (1 - 1 - i))) (0 + 4 + 1) 2 (fun i => dg n (2 - 1 - i)) j = hdB A D n j := by
  unfold hdB
  by_cases h4 : j < 4
  · rw [upR_out (by omega), upR_out (by omega), upR_in (by omega), if_pos h4, show 4 - 1 - (j - 0) = 3 - j by omega]
  · by_cases h5 : j < 5
    · obtain rfl : j = 4 := by omega
      rw [upR_out (by omega), upR_in (by omega), if_neg h4, if_pos h5]
    · rw [upR_in (by omega), if_neg h4, if_neg h5, show 2 - 1 - (j - (0 + 4 + 1)) = 6 - j by omega]
set_option maxHeartbeats 4000000 in
set_option maxRecDepth 100000 in
theorem appendHead_any (w : World) (A D n rc : Nat) (ro : Option Addr) (hA : A < 4294967296) (hD : D < 4294967296) (hn : n < 4294967296) :
    Calls Tryz.prog 34 #[.slice none 0 0, .agg #[.int .i64 (A : Int), .int .i64 (D : Int), .slice ro n rc]] w fun e w' => ∃ uo uc, e = .returned (.slice uo 7 uc) /\ OwU w.heap.size w' uo 7 uc (hdB A D n) /\ Below w.heap.size w w' := by
  obtain ⟨w0, hw0⟩ : ∃ w0, w0 = w.alloc (.cells #[.int .i64 (A : Int), .int .i64 (D : Int), .slice ro n rc] 27) := ⟨_, rfl⟩
  have b0 : Below w.heap.size w w0 := by rw [hw0]; exact below_alloc _ _
  have x0 := blk_held hw0 (Below.refl _ _) 0 rfl
  go_enter Tryz.func34, Tryz.ntmps34
  go_wp2_with fail
  rw [<- hw0]
  refine (appendNumber_own w0 w0.heap.size none 0 0 A 4 (fun _ => 0) (owu_nil _ _ _) (Nat.le_refl _) (by omega) (by omega) hA).mono ?_
  rintro e wa ⟨u1, c1, rfl, h1, ha⟩
  have x1 := blk_held hw0 ha 1 rfl
  go_wp2_with fail
  refine (appendNumber_own wa w0.heap.size u1 4 c1 D 1 _ h1 ha.size (by omega) (by omega) hD).mono ?_
  rintro e wb ⟨u2, c2, rfl, h2, hb⟩
  have k2 := ha.trans hb
  have x2 := blk_held hw0 k2 2 rfl
  go_wp2_with fail
  refine (appendNumber_own wb w0.heap.size u2 5 c2 n 2 _ h2 k2.size (by omega) (by omega) hn).mono ?_
  rintro e wc ⟨u3, c3, rfl, h3, hc⟩
  go_wp2_with fail
  go_ret
  exact ⟨u3, c3, rfl, (h3.congr fun j hj => hdB_up _ _ _ _ _ hj).mono b0.size, below_step b0 (k2.trans hc) b0.size⟩
def stg (hn : Nat) (H : Nat -> UInt8) (i : Nat) (R V : Nat -> Int) (j : Nat) : UInt8 := if j < hn then H j else lfB i R V (j - hn)
theorem stg_step (hn : Nat) (H : Nat -> UInt8) (i : Nat) (R V : Nat -> Int) : upR (upR (stg hn H i R V) (hn + 6 * i) 2 (fun t => dg (R i).toNat (2 - 1 - t))) (hn + 6 * i + 2) 4 (fun t => dg (V i).toNat (4 - 1 - t)) = stg hn H (i + 1) R V := by
  funext j
  unfold stg lfB
  by_cases h1 : hn + 6 * i <= j /\ j < hn + 6 * i + 2
  · rw [upR_out (by omega), upR_in h1, if_neg (by omega), if_pos (by omega)]
    have := rfB_row (R := R) (V := V) (i := i) (t := j - (hn + 6 * i)) (by omega)
    rw [show 6 * i + (j - (hn + 6 * i)) = j - hn by omega] at this
    exact this.symm
  · by_cases h2 : hn + 6 * i + 2 <= j /\ j < hn + 6 * i + 2 + 4
    · rw [upR_in h2, if_neg (by omega), if_pos (by omega)]
      have := rfB_ver (R := R) (V := V) (i := i) (t := j - (hn + 6 * i + 2)) (by omega)
      rw [show 6 * i + 2 + (j - (hn + 6 * i + 2)) = j - hn by omega] at this
      exact this.symm
    · rw [upR_out h2, upR_out h1]
      by_cases h3 : j < hn
      · rw [if_pos h3, if_pos h3]
      · rw [if_neg h3, if_neg h3]
        by_cases h4 : j - hn < 6 * i
        · rw [if_pos h4, if_pos (by omega)]
        · rw [if_neg h4, if_neg (by omega)]
theorem make_bytes (W : Nat) (hW : W <= 5000) (w : World) : (Instr.makeSlice 55 (.int .i64 0) (.int .i64 (W : Int))).run Tryz.prog w = .ok (.slice (some ⟨w.heap.size, 0, none⟩) 0 W) (w.alloc (.cells (byF W (fun _ => 0)).toArray 5)) := by
  obtain ⟨j0, hj, hj0, hj1, hj2⟩ := info_parts info5
  have := run_make (P := Tryz.prog) w 55 5 j0 _ Tryz.underlying55 hj hj0 .i64 .i64 0 (W : Int) (by omega) (by omega) (by rw [hj2]; omega) (by omega)
  rw [Int.toNat_natCast, hj1, Nat.mul_one] at this
  rw [this, <- made_bytes]
  rfl
set_option maxHeartbeats 4000000 in
set_option maxRecDepth 100000 in
theorem stripeOf_any {k r c q : Int} {N W : Nat} {y : Int} (h : Par k r c q N W y) (w : World) (ho : Option Addr) (hn hc : Nat) (H : Nat -> UInt8) (hH : Bec w ho hn hc H) (ro : Option Addr) (n rc : Nat) (R V : Nat -> Int) (hR : Rec w ro n rc R V) (hfit : hn + 6 * n <= W) (hok : ∀ i, i < n -> (0 <= R i /\ R i < 4294967296) /\ 0 <= V i /\ V i < 4294967296) :
    Calls Tryz.prog 33 #[.agg #[.int .i64 k, .int .i64 r, .int .i64 c, .int .i64 q], .slice ho hn hc, .slice ro n rc] w fun e w' => ∃ g, e = .returned (.slice (some ⟨g, 0, none⟩) W W) /\ Bk w' g W (stg hn H n R V) /\ w.heap.size <= g /\ Below w.heap.size w w' := by
  have HW := fun w => Width_any h w
  have hW := h.wide
  have HH : Hid (Bec w ho hn hc H) := hH
  have HR : Hid (Rec w ro n rc R V) := hR
  have HK : Hid (∀ i, i < n -> ∃ ri vi : Nat, R i = (ri : Int) /\ V i = (vi : Int) /\ ri < 4294967296 /\ vi < 4294967296) := fun i hi => ⟨(R i).toNat, (V i).toNat, by have := hok i hi; omega, by have := hok i hi; omega, by have := hok i hi; omega, by have := hok i hi; omega⟩
  have HS : Hid (∀ i, upR (upR (stg hn H i R V) (hn + 6 * i) 2 (fun t => dg (R i).toNat (2 - 1 - t))) (hn + 6 * i + 2) 4 (fun t => dg (V i).toNat (4 - 1 - t)) = stg hn H (i + 1) R V) := fun i => stg_step hn H i R V
  have HS0 : Hid (∀ j, j < W -> upR (fun _ => 0) 0 hn H j = stg hn H 0 R V j) := fun j hj => by
    unfold stg lfB
    by_cases hl : j < hn
    · rw [upR_in (by omega), if_pos hl]; rfl
    · rw [upR_out (by omega), if_neg hl, if_neg (by omega)]
  obtain ⟨Z, hZ⟩ : ∃ Z, Z = (byF W (fun _ => 0)).toArray := ⟨_, rfl⟩
  have hmk := make_bytes W (by omega)
  rw [<- hZ] at hmk
  have HZ : Hid (∀ w : World, Bk (w.alloc (.cells Z 5)) w.heap.size W (fun _ => 0)) := fun w => by unfold Bk; rw [hZ]; exact heap_alloc_new w _
  clear h hH hR hok hZ
  obtain ⟨w0, hw0⟩ : ∃ w0, w0 = w.alloc (.cells #[.int .i64 k, .int .i64 r, .int .i64 c, .int .i64 q] 23) := ⟨_, rfl⟩
  have b0 : Below w.heap.size w w0 := by rw [hw0]; exact below_alloc _ _
  go_enter Tryz.func33, Tryz.ntmps33
  go_wp2_with fail
  rw [<- hw0]
  refine (HW _).mono ?_
  rintro e wa ⟨rfl, ha⟩
  have k1 := below_then b0 ha
  have hbk := HZ.out wa
  have k2 : Below w.heap.size w (wa.alloc (.cells Z 5)) := k1.alloc k1.size _
  have hbe := HH.out.below k2
  have hgs : w.heap.size <= wa.heap.size := k1.size
  clear hw0 b0 ha
  go_wp2_with (at_builtin; refine wpList_append_room (by rfl) (.tmp 18) (.tmp 19) (by rfl) wa.heap.size 0 hn W hc ho (fun _ => 0) H (by rfl) (by rfl) hbk hbe (by omega) (by omega) ?_; intro wb hb1 hb2; have HB1 : Hid (Bk wb wa.heap.size W (stg hn H 0 R V)) := hb1.congr HS0.out; have HB2 : Hid (Below w.heap.size w wb) := (k2.trans (hb2.below (B := w.heap.size) (fun i e => by rw [e]; exact hgs) k2.size)); clear hb1 hb2 hbk hbe k2)
  generalize hgg : wa.heap.size = g at *
  have HG : Hid (w.heap.size <= g) := hgs
  clear hgs hgg k1 hmk HZ HS0
  go_loopw [9, 23] (fun y x wr => ∃ i : Nat, i <= n /\ x = .int .i64 (i : Int) /\ y = .slice (some ⟨g, 0, none⟩) (hn + 6 * i) W /\ Hid (Bk wr g W (stg hn H i R V)) /\ Hid (Below w.heap.size w wr)) (fun _ x _ => n - (intOf x).toNat)
  case atStart => exact ⟨0, Nat.zero_le _, rfl, rfl, HB1, HB2⟩
  case round =>
    obtain ⟨i, hi, rfl, rfl, hbk, hbel⟩ := hrel
    by_cases hlt : i < n
    · obtain ⟨b, off, rfl, hcc⟩ := (HR.out.below hbel.out).rd (by omega)
      obtain ⟨q0, q1⟩ := hcc i hlt
      obtain ⟨ri, vi, e1, e2, l1, l2⟩ := HK.out i hlt
      rw [e1] at q0
      rw [e2] at q1
      have hst := HS.out i
      rw [e1, e2, Int.toNat_natCast, Int.toNat_natCast] at hst
      have HST : Hid (upR (upR (stg hn H i R V) (hn + 6 * i) 2 (fun t => dg ri (2 - 1 - t))) (hn + 6 * i + 2) 4 (fun t => dg vi (4 - 1 - t)) = stg hn H (i + 1) R V) := hst
      obtain ⟨v, hv⟩ : ∃ v, v = wr.alloc (.cells #[.int .i64 (ri : Int), .int .i64 (vi : Int)] 81) := ⟨_, rfl⟩
      have bv : Below wr.heap.size wr v := by rw [hv]; exact below_alloc _ _
      have HX1 : Hid (v.cell? ⟨wr.heap.size, 1, none⟩ = some (.int .i64 (vi : Int))) := blk_held hv (Below.refl _ _) 1 rfl
      have hgl := hbk.out.lt
      have i1 : (0 : Int) <= (i : Int) := by omega
      have i2 : (i : Int) < (n : Int) := by omega
      clear hcc hst e1 e2
      go_wp2_with fail
      rw [<- hv]
      clear hv
      refine (appendNumber_room v g (hn + 6 * i) W ri 2 _ (hbk.out.below bv) (by omega) (by omega) (by omega) l1).mono ?_
      rintro e wc ⟨rfl, h1, o1⟩
      have x1 := o1.cell HX1.out (fun e => by have : wr.heap.size = g := e; omega)
      go_wp2_with fail
      refine (appendNumber_room wc g (hn + 6 * i + 2) W vi 4 _ h1 (by omega) (by omega) (by omega) l2).mono ?_
      rintro e wd ⟨rfl, h2, o2⟩
      have HB3 : Hid (Bk wd g W (stg hn H (i + 1) R V)) := by show Bk _ _ _ _; rw [<- HST.out]; exact h2
      have HB4 : Hid (Below w.heap.size w wd) := by
        have s1 := below_step hbel.out bv hbel.out.size
        have s2 := HG.out
        exact s1.trans ((o1.trans o2).below (fun t e => by rw [e]; exact s2) s1.size)
      clear h1 h2 o1 o2 x1
      go_wp2_with fail
      exact ⟨⟨i + 1, by omega, by go_num, by rw [show hn + 6 * (i + 1) = hn + 6 * i + 2 + 4 by omega], HB3, HB4⟩, by simp [intOf]; omega⟩
    · obtain rfl : i = n := by omega
      go_wp2
      go_ret
      exact ⟨g, rfl, hbk.out, HG.out, hbel.out⟩
end Go.Proofs.YtdmpiipllmjloaaGreat.De
namespace Go.Proofs.YtdmpiipllmjloaaGreat.De
open Go.RowKit
theorem lenE_not {E : Int} (h : E ≠ 0) (n : Nat) : lenE E n = 0 := if_neg h
def AnsB (w : World) (E : Int) (W : Nat) (G : Nat -> UInt8) (e : Ending) (w' : World) : Prop :=
  ∃ ao cp, e = .returned (.tuple #[.slice ao (lenE E W) cp, .int .i64 E]) /\ OwU w.heap.size w' ao (lenE E W) cp G /\ Below w.heap.size w w'
theorem stg_desc {len dep : Int} {n : Nat} {R V : Nat -> Int} (j : Nat) : stg 7 (hdB len.toNat dep.toNat n) n R V j = deB len dep n R V j := by
  unfold stg hdB deB
  by_cases h4 : j < 4
  · rw [if_pos (by omega), if_pos h4, if_pos h4]
  · by_cases h5 : j < 5
    · rw [if_pos (by omega), if_neg h4, if_neg h4, if_pos h5, if_pos h5]
    · by_cases h7 : j < 7
      · rw [if_pos h7, if_neg h4, if_neg h4, if_neg h5, if_neg h5, if_pos h7]
      · rw [if_neg h7, if_neg h4, if_neg h5, if_neg h7]
theorem okL_nums {q : Int} {n : Nat} {R V : Nat -> Int} (hq : q <= 256) (h : okL q n R V = true) : ∀ i, i < n -> (0 <= R i /\ R i < 4294967296) /\ 0 <= V i /\ V i < 4294967296 := fun i hi => by
  have := okR_true (okL_true h i hi)
  omega
set_option maxHeartbeats 4000000 in
set_option maxRecDepth 100000 in
theorem Bytes_any {k r c q : Int} {N W : Nat} {y : Int} (h : Par k r c q N W y) (w : World) (len dep : Int) (ro : Option Addr) (n rc : Nat) (R V : Nat -> Int) (hR : Rec w ro n rc R V) (E : Int) (hE : erD y W q len dep n R V = E) :
    Calls Tryz.prog 19 #[.agg #[.int .i64 k, .int .i64 r, .int .i64 c, .int .i64 q], .agg #[.int .i64 len, .int .i64 dep, .slice ro n rc]] w (AnsB w E W (deB len dep n R V)) := by
  have HC := fun v hv => DCheck_any h v len dep ro n rc R V hv
  rw [hE] at HC
  have HR : Hid (Rec w ro n rc R V) := hR
  clear hR
  unfold AnsB
  obtain ⟨w0, hw0⟩ : ∃ w0, w0 = w.alloc (.cells #[.int .i64 k, .int .i64 r, .int .i64 c, .int .i64 q] 23) := ⟨_, rfl⟩
  obtain ⟨w1, hw1⟩ : ∃ w1, w1 = w0.alloc (.cells #[.int .i64 len, .int .i64 dep, .slice ro n rc] 27) := ⟨_, rfl⟩
  have b0 : Below w.heap.size w w0 := by rw [hw0]; exact below_alloc _ _
  have b1 : Below w0.heap.size w0 w1 := by rw [hw1]; exact below_alloc _ _
  have z0 : w0.heap.size = w.heap.size + 1 := by rw [hw0]; simp
  have HBB : Hid (Below w.heap.size w w1) := below_then b0 b1
  have HP : Hid (∀ u, Below w1.heap.size w1 u -> (u.cell? ⟨w.heap.size, 0, none⟩ = some (.int .i64 k) /\ u.cell? ⟨w.heap.size, 1, none⟩ = some (.int .i64 r) /\ u.cell? ⟨w.heap.size, 2, none⟩ = some (.int .i64 c) /\ u.cell? ⟨w.heap.size, 3, none⟩ = some (.int .i64 q)) /\ u.cell? ⟨w.heap.size + 1, 0, none⟩ = some (.int .i64 len) /\ u.cell? ⟨w.heap.size + 1, 1, none⟩ = some (.int .i64 dep) /\ u.cell? ⟨w.heap.size + 1, 2, none⟩ = some (.slice ro n rc)) := fun u hu => ⟨par_held hw0 (below_then b1 hu), by rw [<- z0]; exact ⟨blk_held hw1 hu 0 rfl, blk_held hw1 hu 1 rfl, blk_held hw1 hu 2 rfl⟩⟩
  by_cases hz : E = 0
  · subst hz
    obtain ⟨rfl, hok⟩ := erD_of hE
    obtain ⟨hmy, hW, hW2, hq⟩ := h.fine
    obtain ⟨g1, g2, g3, g4, g5⟩ := okD_few hW hok
    have hdr := dir_room hW
    have hdl := dir_le hW2
    have HS := fun v ho hc hv => stripeOf_any h v ho 7 hc (hdB len.toNat dep.toNat n) hv ro n rc R V
    have HN : Hid (∀ i, i < n -> (0 <= R i /\ R i < 4294967296) /\ 0 <= V i /\ V i < 4294967296) := okL_nums hq g5
    have HH := fun v => appendHead_any v len.toNat dep.toNat n rc ro (by omega) (by omega) (by omega)
    rw [show ((len.toNat : Nat) : Int) = len by omega, show ((dep.toNat : Nat) : Int) = dep by omega] at HH
    rw [lenE_zero]
    have HG : Hid (∀ j, stg 7 (hdB len.toNat dep.toNat n) n R V j = deB len dep n R V j) := fun j => stg_desc j
    have hfit : 7 + 6 * n <= W := by omega
    clear h hE hok g1 g2 g3 g4 g5 hdr hdl hmy
    generalize hdB len.toNat dep.toNat n = HD at *
    go_enter Tryz.func19, Tryz.ntmps19
    go_wp2_with fail
    rw [<- hw0, <- hw1]
    refine (HC _ (HR.out.rd.below HBB.out)).mono ?_
    rintro e wa ⟨rfl, ha⟩
    obtain ⟨⟨p0, p1, p2, p3⟩, d0, d1, d2⟩ := HP.out _ ha
    have HB1 : Hid (Below w1.heap.size w1 wa) := ha
    clear hw0 hw1 z0 b0 b1 ha
    go_wp2_with fail
    have HT : Hid (∀ v, Below wa.drew.heap.size wa.drew v -> Below w1.heap.size w1 v) := fun v hv => below_then HB1.out (of_drew hv)
    go_region_held3 (fun u => (u.cell? ⟨w.heap.size, 0, none⟩ = some (.int .i64 k) /\ u.cell? ⟨w.heap.size, 1, none⟩ = some (.int .i64 r) /\ u.cell? ⟨w.heap.size, 2, none⟩ = some (.int .i64 c) /\ u.cell? ⟨w.heap.size, 3, none⟩ = some (.int .i64 q)) /\ u.cell? ⟨w.heap.size + 1, 0, none⟩ = some (.int .i64 len) /\ u.cell? ⟨w.heap.size + 1, 1, none⟩ = some (.int .i64 dep) /\ u.cell? ⟨w.heap.size + 1, 2, none⟩ = some (.slice ro n rc)) (go_keep)
      ((first
        | (go_at_call 34; refine (HH _).mono ?_; rintro e wb ⟨uo, uc, rfl, hu, hb⟩; obtain ⟨⟨q0, q1, q2, q3⟩, e0, e1, e2⟩ := HP.out _ (HT.out _ hb))
        | (go_at_call 33; refine (HS _ _ _ (hu.bec) (HR.out.below (below_then HBB.out (HT.out _ hb))) hfit HN.out).mono ?_; rintro e wc ⟨g, rfl, hg, hgl, hc⟩; obtain ⟨⟨t0, t1, t2, t3⟩, f0, f1, f2⟩ := HP.out _ (below_then (HT.out _ hb) hc))))
    all_goals (
      go_wp2
      go_ret2
      have hB := below_then HBB.out (below_then (HT.out _ hb) hc)
      exact ⟨some ⟨g, 0, none⟩, W, rfl, (hg.congr fun j _ => HG.out j).own (Nat.le_trans (below_then HBB.out (HT.out _ hb)).size hgl) (by omega), hB⟩)
  · have hz2 : (E != 0) = true := by simpa using hz
    rw [lenE_not hz]
    clear h hE hz
    go_enter Tryz.func19, Tryz.ntmps19
    go_wp2_with fail
    rw [<- hw0, <- hw1]
    refine (HC _ (HR.out.rd.below HBB.out)).mono ?_
    rintro e wa ⟨rfl, ha⟩
    clear hw0 hw1 z0 b0 b1
    go_wp2_with fail
    go_ret2
    exact ⟨none, 0, rfl, owu_nil _ _ _, below_then HBB.out ha⟩
end Go.Proofs.YtdmpiipllmjloaaGreat.De
