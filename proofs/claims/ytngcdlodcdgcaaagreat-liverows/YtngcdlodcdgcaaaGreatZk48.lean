import Derived.Test.YtngcdlodcdgcaaaGreatZk47
namespace Go.Proofs.YtngcdlodcdgcaaaGreat
open Go.RowKit
theorem OB.grown {w0 w w' : World} {B : Nat} {k r c q : Int} {lo : Option Addr} {n cl : Nat} {d0 d1 d2 y lv st e : Value} {row : Option Nat} (h : OB w0 B w k r c q lo n cl d0 d1 d2 y lv st e) (hg : w.grownBy w' row) (hr : ∀ g, row = some g -> B + 6 <= g) : OB w0 B w' k r c q lo n cl d0 d1 d2 y lv st e := by
  have hb : ∀ g, g < B + 6 -> w'.heap[g]? = w.heap[g]? := fun g h1 => hg.block g (by have := h.siz.2; omega) (fun e => by have := hr g e.symm; omega)
  have hs := hg.size
  exact ⟨(hb _ (by omega)).trans h.img, (hb _ (by omega)).trans h.dsc, (hb _ (by omega)).trans h.ver, (hb _ (by omega)).trans h.lvs, (hb _ (by omega)).trans h.sts, (hb _ (by omega)).trans h.err, h.bel.grown hg (by have := h.siz.2; omega) (fun g e => by have := hr g e; omega), h.siz.1, Nat.le_trans h.siz.2 hs⟩
theorem erLs_stop {e : Nat -> Int} {i : Nat} (h : erLs e i ≠ 0) : ∀ n, erLs e (i + n) = erLs e i
  | 0 => rfl
  | n + 1 => by rw [<- Nat.add_assoc, erLs, erLs_stop h n, if_neg h]
theorem erLs_at {e : Nat -> Int} {i M : Nat} (h0 : erLs e i = 0) (h : e i ≠ 0) (hi : i < M) : erLs e M = e i := by
  have h1 : erLs e (i + 1) = e i := by rw [erLs, if_pos h0]
  obtain ⟨n, rfl⟩ : ∃ n, M = i + 1 + n := ⟨M - (i + 1), by omega⟩
  rw [erLs_stop (by rw [h1]; exact h), h1]
theorem min_step (i L s : Nat) (h : i * L < s) : min (i * L) s + min L (s - i * L) = min ((i + 1) * L) s := by rw [Nat.succ_mul]; omega
theorem sub_step (i L s : Nat) : ((s - i * L : Nat) : Int) - ((min L (s - i * L) : Nat) : Int) = ((s - (i + 1) * L : Nat) : Int) := by rw [Nat.succ_mul]; omega
set_option maxHeartbeats 8000000 in
set_option maxRecDepth 100000 in
theorem obj_d1 {k r c q : Int} (w : World) (lo : Option Addr) (n cl N : Nat) (o : Int) (G : Nat -> List UInt8) (A D : Int) (hD : D ≠ 0) (M : Nat) (hM : M <= 1000) (R V : Nat -> Int) (y : Int) (s L : Nat) (hs : s <= 5000) (ev : Nat -> Int) (DD : Nat -> Nat -> UInt8) (SR SV : Nat -> Int)
    (HA : Hid (∀ u, Below w.heap.size w u -> Calls Tryz.prog 39 #[.agg #[.int .i64 k, .int .i64 r, .int .i64 c, .int .i64 q, .slice lo n cl], .int .i64 o] u fun e w' => ∃ lo' A' C', e = .returned (.tuple #[.slice lo' N N, .int .i64 0]) /\ Im.Im u.heap.size w' lo' (2 * N) A' C' G /\ Below u.heap.size u w'))
    (HR : Hid (∀ u ro A' C, Rw u ro N A' (fun j => (G j).length) C (fun j t => (G j).getD t 0) -> Calls Tryz.prog 40 #[.agg #[.int .i64 k, .int .i64 r, .int .i64 c, .int .i64 q], .slice ro N N] u (AnsRd u 0 y A D M R V)))
    (HS : Hid (∀ u, Calls Tryz.prog 42 #[.agg #[.int .i64 k, .int .i64 r, .int .i64 c, .int .i64 q], .int .i64 A] u fun e w' => e = .returned (.tuple #[.int .i64 (s : Int), .int .i64 0]) /\ Below u.heap.size u w'))
    (HL : Hid (∀ i, i < M -> ∀ u, Below w.heap.size w u -> Calls Tryz.prog 43 #[.agg #[.int .i64 k, .int .i64 r, .int .i64 c, .int .i64 q, .slice lo n cl], .agg #[.int .i64 (R i), .int .i64 (V i)], .int .i64 ((s - i * L : Nat) : Int)] u (De.AnsR u (ev i) (min L (s - i * L)) (De.rdR (DD i) 0) (De.rdV (DD i) 0))))
    (HX : Hid (∀ i, i < M -> i * L < s)) (HE : Hid (s <= M * L))
    (HSR : Hid (∀ i, i < M -> ∀ t, t < min L (s - i * L) -> SR (i * L + t) = De.rdR (DD i) 0 t /\ SV (i * L + t) = De.rdV (DD i) 0 t)) :
    Calls Tryz.prog 27 #[.agg #[.int .i64 k, .int .i64 r, .int .i64 c, .int .i64 q, .slice lo n cl], .int .i64 o] w (AnsO w (erLs ev M) A D M R V y M s SR SV) := by
  unfold AnsRd at HR
  rw [lenE_zero, De.lenI_zero, De.lenI_zero, De.lenI_zero] at HR
  have hz : (D == 0) = false := by simpa using hD
  have HO : Hid (OB w w.heap.size (objW w k r c q lo n cl) k r c q lo n cl (.int .i64 0) (.int .i64 0) (.slice none 0 0) (.int .i64 0) (.slice none 0 0) (.slice none 0 0) (.int .i64 0)) := ob_new w k r c q lo n cl
  have hmf : ∀ (fn : Fn) (first cap : Array Value) (w : World), (Instr.makeFunc fn first cap).run Tryz.prog w = .ok (.func fn first cap) w := fun _ _ _ _ => rfl
  go_enter_defers Tryz.func27, Tryz.ntmps27
  go_wp2_with fail
  refine (HA.out (objW w k r c q lo n cl) HO.out.bel).mono ?_
  rintro e wa ⟨lo', A', C', rfl, hI, ha⟩
  have O1 := HO.out.below ha
  have hrw := rw_of (im_set hI (g := w.heap.size + 5) (by have := HO.out.siz.2; omega) 0 (.int .i64 0))
  have HO1 : Hid (OB w w.heap.size (wa.setCell ⟨w.heap.size + 5, 0, none⟩ (.int .i64 0)) k r c q lo n cl (.int .i64 0) (.int .i64 0) (.slice none 0 0) (.int .i64 0) (.slice none 0 0) (.slice none 0 0) (.int .i64 0)) := O1.setE _
  obtain ⟨⟨s0, s1, s2, s3, s4⟩, ⟨t0, t1, t2⟩, t3, t4, t5, t6⟩ := O1.cells
  obtain ⟨f1, f2, f3, f4, f5⟩ := O1.free
  clear O1 ha HA HO hI
  go_wp2_with fail
  refine (HR.out _ _ _ _ hrw).mono ?_
  rintro e wb ⟨ao, cp, rfl, hown, hb⟩
  clear s0 s1 s2 s3 s4 t0 t1 t2 t3 t4 t5 t6 f1 f2 f3 f4 f5 hrw HR
  have O2 := HO1.out.below hb
  have HZ1 : Hid (w.heap.size + 6 <= (wa.setCell ⟨w.heap.size + 5, 0, none⟩ (.int .i64 0)).heap.size) := HO1.out.siz.2
  obtain ⟨Z, hZ⟩ : ∃ Z, Z = (wa.setCell ⟨w.heap.size + 5, 0, none⟩ (.int .i64 0)).heap.size := ⟨_, rfl⟩
  rw [<- hZ] at HZ1 hown
  clear hZ
  have HW1 := owr_set (owr_set (owr_set (owr_set (owr_set hown (g := w.heap.size + 1) (by have := HZ1.out; omega) 0 (.int .i64 A)) (g := w.heap.size + 1) (by have := HZ1.out; omega) 1 (.int .i64 D)) (g := w.heap.size + 1) (by have := HZ1.out; omega) 2 (.slice ao M cp)) (g := w.heap.size + 2) (by have := HZ1.out; omega) 0 (.int .i64 y)) (g := w.heap.size + 5) (by have := HZ1.out; omega) 0 (.int .i64 0)
  have O3 := ((O2.setD (.int .i64 A) (.int .i64 D) (.slice ao M cp)).setY (.int .i64 y)).setE (.int .i64 0)
  have HO3 : Hid (OB w w.heap.size _ k r c q lo n cl (.int .i64 A) (.int .i64 D) (.slice ao M cp) (.int .i64 y) (.slice none 0 0) (.slice none 0 0) (.int .i64 0)) := O3
  have HWW : Hid (De.OwR Z _ ao M cp R V) := HW1
  obtain ⟨⟨s0, s1, s2, s3, s4⟩, ⟨t0, t1, t2⟩, t3, t4, t5, t6⟩ := O2.cells
  obtain ⟨f1, f2, f3, f4, f5⟩ := O2.free
  clear O2 hb HO1 O3 HW1 hown
  go_wp2_with fail
  refine (cloneR_any _ ao M cp R V HWW.out.rec hM).mono ?_
  rintro e wc ⟨bo, cb, rfl, hob, hc⟩
  have O4 := HO3.out.below hc
  have HZ2 : Hid (w.heap.size + 6 <= _) := HO3.out.siz.2
  have HO4 : Hid (OB w w.heap.size (wc.setCell ⟨w.heap.size + 3, 0, none⟩ (.slice bo M cb)) k r c q lo n cl (.int .i64 A) (.int .i64 D) (.slice ao M cp) (.int .i64 y) (.slice bo M cb) (.slice none 0 0) (.int .i64 0)) := O4.setL _
  have HW4 : Hid (De.OwR (w.heap.size + 6) (wc.setCell ⟨w.heap.size + 3, 0, none⟩ (.slice bo M cb)) ao M cp R V) := (owr_set (HWW.out.below hc) (g := w.heap.size + 3) (by have := HZ1.out; omega) 0 (.slice bo M cb)).mono (by have := HZ1.out; omega)
  have HV4 : Hid (De.OwR (w.heap.size + 6) (wc.setCell ⟨w.heap.size + 3, 0, none⟩ (.slice bo M cb)) bo M cb R V) := (owr_set hob (g := w.heap.size + 3) (by have := HZ2.out; omega) 0 (.slice bo M cb)).mono (by have := HZ2.out; omega)
  clear s0 s1 s2 s3 s4 t0 t1 t2 t3 t4 t5 t6 f1 f2 f3 f4 f5 hob hc HWW HO3 HZ1 HZ2
  obtain ⟨⟨s0, s1, s2, s3, s4⟩, ⟨t0, t1, t2⟩, t3, t4, t5, t6⟩ := O4.cells
  obtain ⟨f1, f2, f3, f4, f5⟩ := O4.free
  clear O4
  go_wp2_with fail
  refine (HS.out _).mono ?_
  rintro e wl ⟨rfl, hl⟩
  clear s0 s1 s2 s3 s4 t0 t1 t2 t3 t4 t5 t6 f1 f2 f3 f4 f5 HS
  have O5 := HO4.out.below hl
  have HO5 : Hid (OB w w.heap.size wl k r c q lo n cl (.int .i64 A) (.int .i64 D) (.slice ao M cp) (.int .i64 y) (.slice bo M cb) (.slice none 0 0) (.int .i64 0)) := O5
  have HW5 : Hid (De.OwR (w.heap.size + 6) wl ao M cp R V) := HW4.out.below hl
  have HV5 : Hid (De.OwR (w.heap.size + 6) wl bo M cb R V) := HV4.out.below hl
  obtain ⟨⟨s0, s1, s2, s3, s4⟩, ⟨t0, t1, t2⟩, t3, t4, t5, t6⟩ := O5.cells
  obtain ⟨f1, f2, f3, f4, f5⟩ := O5.free
  clear O5 hl HO4 HW4 HV4
  go_wp2_with fail
  clear s0 s1 s2 s3 s4 t0 t1 t2 t3 t4 t5 t6 f1 f2 f3 f4 f5
  go_loopw [10, 53] (fun x j wr => ∃ i : Nat, i <= M /\ j = .int .i64 (i : Int) /\ x = .int .i64 ((s - i * L : Nat) : Int) /\ ∃ so sc, Hid (OB w w.heap.size wr k r c q lo n cl (.int .i64 A) (.int .i64 D) (.slice ao M cp) (.int .i64 y) (.slice bo M cb) (.slice so (min (i * L) s) sc) (.int .i64 0)) /\ Hid (De.OwR wl.heap.size wr so (min (i * L) s) sc SR SV) /\ Hid (∀ g, w.heap.size + 6 <= g -> g < wl.heap.size -> wr.heap[g]? = wl.heap[g]?) /\ Hid (wl.heap.size <= wr.heap.size) /\ Hid (erLs ev i = 0)) (fun _ j _ => M - (intOf j).toNat)
  case atStart => exact ⟨0, Nat.zero_le _, rfl, by rw [Nat.zero_mul, Nat.sub_zero], none, 0, by rw [Nat.zero_mul, Nat.zero_min]; exact HO5, by rw [Nat.zero_mul, Nat.zero_min]; exact De.owr_nil _ _ _ _, fun _ _ _ => rfl, Nat.le_refl _, rfl⟩
  case round =>
    obtain ⟨i, hi, rfl, rfl, so, sc, hO, hS, hK, hZ, hE0⟩ := hrel
    have HVr : Hid (De.OwR (w.heap.size + 6) wr bo M cb R V) := HV5.out.stay hK.out
    have HWr : Hid (De.OwR (w.heap.size + 6) wr ao M cp R V) := HW5.out.stay hK.out
    by_cases hlt : i < M
    · obtain ⟨g, rfl, hg1, hg2⟩ := HVr.out.at_ (by omega)
      obtain ⟨c0, c1⟩ := HVr.out.cell hlt
      have i1 : (0 : Int) <= (i : Int) := by omega
      have i2 : (i : Int) < (M : Int) := by omega
      obtain ⟨wf, hwf⟩ : ∃ wf, wf = wr.alloc (.cells #[.int .i64 (R i), .int .i64 (V i)] 67) := ⟨_, rfl⟩
      have bf : Below wr.heap.size wr wf := by rw [hwf]; exact below_alloc _ _
      have Of := hO.out.below bf
      have HCL := HL.out i hlt wf Of.bel
      have HSf : Hid (De.OwR wl.heap.size wf so (min (i * L) s) sc SR SV) := hS.out.below bf
      have HVf : Hid (De.OwR (w.heap.size + 6) wf (some ⟨g, 0, none⟩) M cb R V) := HVr.out.below bf
      have HWf : Hid (De.OwR (w.heap.size + 6) wf ao M cp R V) := HWr.out.below bf
      have HKf : Hid (∀ g, w.heap.size + 6 <= g -> g < wl.heap.size -> wf.heap[g]? = wl.heap[g]?) := fun g h1 h2 => (bf.block g (Nat.lt_of_lt_of_le h2 hZ.out)).trans (hK.out g h1 h2)
      have HZf : Hid (wl.heap.size <= wf.heap.size) := Nat.le_trans hZ.out bf.size
      have HOf : Hid (OB w w.heap.size wf k r c q lo n cl (.int .i64 A) (.int .i64 D) (.slice ao M cp) (.int .i64 y) (.slice (some ⟨g, 0, none⟩) M cb) (.slice so (min (i * L) s) sc) (.int .i64 0)) := Of
      have s0 := fun o => (hO.out.below (below_alloc wr o)).cells.1.1
      have s1 := fun o => (hO.out.below (below_alloc wr o)).cells.1.2.1
      have s2 := fun o => (hO.out.below (below_alloc wr o)).cells.1.2.2.1
      have s3 := fun o => (hO.out.below (below_alloc wr o)).cells.1.2.2.2.1
      have s4 := fun o => (hO.out.below (below_alloc wr o)).cells.1.2.2.2.2
      have HXi : Hid (i * L < s) := HX.out i hlt
      have HSRi : Hid (∀ t, t < min L (s - i * L) -> SR (i * L + t) = De.rdR (DD i) 0 t /\ SV (i * L + t) = De.rdV (DD i) 0 t) := HSR.out i hlt
      have HEA : Hid (ev i ≠ 0 -> erLs ev M = ev i) := fun h => erLs_at hE0.out h hlt
      have HES : Hid (ev i = 0 -> erLs ev (i + 1) = 0) := fun h => by rw [erLs, if_pos hE0.out]; exact h
      obtain ⟨ei, hei⟩ : ∃ ei, ei = ev i := ⟨_, rfl⟩
      obtain ⟨m, hm⟩ : ∃ m, m = min L (s - i * L) := ⟨_, rfl⟩
      obtain ⟨ct, hct⟩ : ∃ ct, ct = min (i * L) s := ⟨_, rfl⟩
      have HCT : Hid (ct = i * L /\ ct + m = min ((i + 1) * L) s) := by refine ⟨by have := HXi.out; omega, ?_⟩; rw [hct, hm]; exact min_step i L s HXi.out
      have HLS : Hid (((s - i * L : Nat) : Int) - (m : Int) = ((s - (i + 1) * L : Nat) : Int)) := by show _ = _; rw [hm]; exact sub_step i L s
      have HLM : Hid (m <= s - i * L) := by show _ <= _; rw [hm]; exact Nat.min_le_right _ _
      have HCS : Hid (ct <= 5000 /\ m <= 5000) := ⟨by omega, by omega⟩
      rw [<- hei, <- hm] at HCL
      rw [<- hei] at HEA HES
      rw [<- hm] at HSRi
      rw [<- hct] at HSf HOf
      obtain ⟨lf, hlf⟩ : ∃ lf : Nat, lf = s - i * L := ⟨_, rfl⟩
      have HLF : Hid (lf = s - i * L) := hlf
      rw [<- hlf] at HCL HLS HLM
      obtain ⟨ri, hri⟩ : ∃ ri, ri = R i := ⟨_, rfl⟩
      obtain ⟨vi, hvi⟩ : ∃ vi, vi = V i := ⟨_, rfl⟩
      rw [<- hri, <- hvi] at HCL hwf
      rw [<- hri] at c0
      rw [<- hvi] at c1
      have HWF : Hid (wr.alloc (.cells #[.int .i64 ri, .int .i64 vi] 67) = wf) := hwf.symm
      rw [<- hlf]
      clear hO hS hK hZ hE0 HVr HWr Of bf hwf hri hvi hlf hei hm hct
      go_wp2_with fail
      rw [HWF.out]
      unfold De.AnsR at HCL
      refine HCL.mono ?_
      rintro e wd ⟨ho, hc, rfl, hown, hd⟩
      have Od := HOf.out.below hd
      clear s0 s1 s2 s3 s4 c0 c1
      obtain ⟨⟨s0, s1, s2, s3, s4⟩, ⟨t0, t1, t2⟩, t3, t4, t5, t6⟩ := Od.cells
      obtain ⟨f1, f2, f3, f4, f5⟩ := Od.free
      have HOd : Hid (OB w w.heap.size wd k r c q lo n cl (.int .i64 A) (.int .i64 D) (.slice ao M cp) (.int .i64 y) (.slice (some ⟨g, 0, none⟩) M cb) (.slice so ct sc) (.int .i64 0)) := Od
      by_cases he : ei = 0
      · subst he
        rw [lenE_zero] at hown
        rw [lenE_zero]
        have HB5 : w.heap.size + 5 < wl.heap.size := by have := HO5.out.siz.2; omega
        have HSd : Hid (De.OwR wl.heap.size (wd.setCell ⟨w.heap.size + 5, 0, none⟩ (.int .i64 0)) so ct sc SR SV) := owr_set (HSf.out.below hd) HB5 0 _
        have HHd : Hid (De.OwR wf.heap.size (wd.setCell ⟨w.heap.size + 5, 0, none⟩ (.int .i64 0)) ho m hc (De.rdR (DD i) 0) (De.rdV (DD i) 0)) := owr_set hown (Nat.lt_of_lt_of_le HB5 HZf.out) 0 _
        have HKd : Hid (∀ g, w.heap.size + 6 <= g -> g < wl.heap.size -> (wd.setCell ⟨w.heap.size + 5, 0, none⟩ (.int .i64 0)).heap[g]? = wl.heap[g]?) := fun g h1 h2 => by
          have hne : g ≠ w.heap.size + 5 := by omega
          rw [heap_setCell_other _ _ _ _ hne, hd.block g (Nat.lt_of_lt_of_le h2 HZf.out)]; exact HKf.out g h1 h2
        have HZd : Hid (wl.heap.size <= (wd.setCell ⟨w.heap.size + 5, 0, none⟩ (.int .i64 0)).heap.size) := by show wl.heap.size <= _; have h1 := Nat.le_trans HZf.out hd.size; simpa [World.setCell] using h1
        have HOe : Hid (OB w w.heap.size (wd.setCell ⟨w.heap.size + 5, 0, none⟩ (.int .i64 0)) k r c q lo n cl (.int .i64 A) (.int .i64 D) (.slice ao M cp) (.int .i64 y) (.slice (some ⟨g, 0, none⟩) M cb) (.slice so ct sc) (.int .i64 0)) := HOd.out.setE _
        have hwsub : IntKind.i64.wrap ((lf : Int) - (m : Int)) = (lf : Int) - (m : Int) := by have := HLM.out; have := HLF.out; rw [IntKind.wrap_i64]; omega
        have HGE : Hid (∀ g, (Value.slice so ct sc).ownBlock = some g -> wl.heap.size <= g) := fun g e => (World.ownsRow.lt HSd.out g e).1
        have HB6 : Hid (w.heap.size + 6 <= wl.heap.size) := HO5.out.siz.2
        clear hown hd Od HCL HSf HKf HZf HOf HOd HB5
        go_wp2_with (at_builtin; refine De.wpList_append_refs (by rfl) (.tmp 66) (.tmp 67) (by rfl) wl.heap.size ct m sc hc so ho SR SV (De.rdR (DD i) 0) (De.rdV (DD i) 0) (by rfl) (by rfl) HSd.out HHd.out.rec (by have := HCS.out; omega) HZd.out ?_; intro ao' c' wg hov hgr; have g4 := (HOe.out.grown hgr (fun g e => Nat.le_trans HB6.out (HGE.out g e))).free.2.2.2.1; have g5 := (HOe.out.grown hgr (fun g e => Nat.le_trans HB6.out (HGE.out g e))).cells.2.2.2.2.1)
        have HOg := HOe.out.grown hgr (fun g e => Nat.le_trans HB6.out (HGE.out g e))
        have HB4 : w.heap.size + 4 < wl.heap.size := by have := HB6.out; omega
        have hct := HCT.out.2
        have HSg : Hid (De.OwR wl.heap.size (wg.setCell ⟨w.heap.size + 4, 0, none⟩ (.slice ao' (ct + m) c')) ao' (min ((i + 1) * L) s) c' SR SV) := by
          show De.OwR _ _ _ _ _ _ _
          rw [<- hct]
          refine owr_set (De.OwR.congr hov fun j hj => ?_) HB4 0 _
          unfold De.apI
          by_cases hj2 : j < ct
          · rw [if_pos hj2, if_pos hj2]; exact ⟨rfl, rfl⟩
          · rw [if_neg hj2, if_neg hj2]
            have h1 := HSRi.out (j - ct) (by omega)
            rw [<- HCT.out.1, Nat.add_sub_cancel' (by omega)] at h1
            exact ⟨h1.1.symm, h1.2.symm⟩
        have HOh : Hid (OB w w.heap.size (wg.setCell ⟨w.heap.size + 4, 0, none⟩ (.slice ao' (ct + m) c')) k r c q lo n cl (.int .i64 A) (.int .i64 D) (.slice ao M cp) (.int .i64 y) (.slice (some ⟨g, 0, none⟩) M cb) (.slice ao' (min ((i + 1) * L) s) c') (.int .i64 0)) := by
          rw [<- hct]; exact HOg.setS _
        have HKg : Hid (∀ g, w.heap.size + 6 <= g -> g < wl.heap.size -> (wg.setCell ⟨w.heap.size + 4, 0, none⟩ (.slice ao' (ct + m) c')).heap[g]? = wl.heap[g]?) := fun g h1 h2 => by
          have hne : g ≠ w.heap.size + 4 := by omega
          rw [heap_setCell_other _ _ _ _ hne, hgr.block g (Nat.lt_of_lt_of_le h2 HZd.out) (fun e => by have := HGE.out g e.symm; omega)]; exact HKd.out g h1 h2
        have HZg : Hid (wl.heap.size <= (wg.setCell ⟨w.heap.size + 4, 0, none⟩ (.slice ao' (ct + m) c')).heap.size) := by show wl.heap.size <= _; have h1 := Nat.le_trans HZd.out hgr.size; simpa [World.setCell] using h1
        clear hov hgr HOg g4 g5
        go_roundw
        case rel => exact ⟨i + 1, by omega, by go_num, by rw [<- HLS.out], ao', c', HOh, HSg, HKg, HZg, HES.out trivial⟩
        case measure => simp [intOf]; omega
      · have hez : (ei != 0) = true := by simpa using he
        rw [lenE_ne m he] at hown
        rw [lenE_ne m he]
        have HEI : Hid (erLs ev M = ei) := HEA.out he
        have HNE : Hid (ei ≠ 0) := he
        clear hown hd Od HCL HSf HKf HZf HOf he
        go_wp2_with fail
        refine leaves_cons (f := 38) (args := #[.pointer (some ⟨w.heap.size + 5, 0, none⟩), .pointer (some ⟨w.heap.size + 1, 0, none⟩), .pointer (some ⟨w.heap.size + 2, 0, none⟩), .pointer (some ⟨w.heap.size + 3, 0, none⟩), .pointer (some ⟨w.heap.size + 4, 0, none⟩)]) (by simp) (by simp [go_sem]) ?_
        refine (obj_defer (HOd.out.setE (.int .i64 ei)) .returning).mono ?_
        rintro e u' w'' ⟨rfl, rfl, ⟨h0, _⟩ | ⟨_, hOO, _⟩⟩
        · exact absurd h0 HNE.out
        · obtain ⟨_, ⟨v0, v1, v2⟩, v3, v4, v5, v6⟩ := hOO.cells
          exact ⟨.tuple #[.agg #[.int .i64 0, .int .i64 0, .slice none 0 0], .int .i64 0, .slice none 0 0, .slice none 0 0, .int .i64 ei], by simp [results, Tryz.results27, go_sem, v0, v1, v2, v3, v4, v5, v6], by rw [HEI.out]; exact ansO_bad HNE.out hOO.bel _ _ _ _ _ _ _ _ _ _⟩
    · obtain rfl : i = M := by omega
      have hmin : min (i * L) s = s := by have := HE.out; omega
      rw [hmin] at hO hS
      obtain ⟨⟨s0, s1, s2, s3, s4⟩, ⟨t0, t1, t2⟩, t3, t4, t5, t6⟩ := hO.out.cells
      clear hmin
      go_wp2_with fail
      refine leaves_cons (f := 38) (args := #[.pointer (some ⟨w.heap.size + 5, 0, none⟩), .pointer (some ⟨w.heap.size + 1, 0, none⟩), .pointer (some ⟨w.heap.size + 2, 0, none⟩), .pointer (some ⟨w.heap.size + 3, 0, none⟩), .pointer (some ⟨w.heap.size + 4, 0, none⟩)]) (by simp) (by simp [go_sem]) ?_
      refine (obj_defer hO.out .returning).mono ?_
      rintro e u' w'' ⟨rfl, rfl, ⟨_, rfl⟩ | ⟨h0, _, _⟩⟩
      · refine ⟨.tuple #[.agg #[.int .i64 A, .int .i64 D, .slice ao i cp], .int .i64 y, .slice bo i cb, .slice so s sc, .int .i64 0], by simp [results, Tryz.results27, go_sem, t0, t1, t2, t3, t4, t5, t6], ?_⟩
        unfold AnsO
        rw [hE0.out, lenE_zero, lenE_zero, De.lenI_zero, De.lenI_zero, De.lenI_zero]
        exact ⟨ao, cp, bo, cb, so, sc, rfl, HWr.out.mono (by omega), HVr.out.mono (by omega), hS.out.mono (by have := HO5.out.siz.2; omega), hO.out.bel⟩
      · exact absurd rfl h0
end Go.Proofs.YtngcdlodcdgcaaaGreat
