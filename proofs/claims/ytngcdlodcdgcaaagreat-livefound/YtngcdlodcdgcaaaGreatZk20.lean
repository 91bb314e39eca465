import Derived.Lib.AppendZeros
import Derived.Defers
import Derived.Test.YtngcdlodcdgcaaaGreatZk17
import Derived.Test.YtngcdlodcdgcaaaGreatZk19
namespace Go.Proofs.YtngcdlodcdgcaaaGreat
open Go.RowKit
theorem eqr_nil_no (w : World) (a : Addr) (l c : Nat) : (binOp .eql 60 (.slice (some a) l c) (.slice none 0 0)).run Tryz.prog w = .ok (.bool false) w := by
  have h : (Op.equal 60 (.slice (some a) l c) (.slice none 0 0)).run Tryz.prog w = .ok false w := run_equalIn_slice_nil w 9999 60 67 (some a) l c Tryz.underlying60
  simp only [binOp]
  simp [h]
theorem eqr_nil_yes (w : World) : (binOp .eql 60 (.slice none 0 0) (.slice none 0 0)).run Tryz.prog w = .ok (.bool true) w := by
  have h : (Op.equal 60 (.slice none 0 0) (.slice none 0 0)).run Tryz.prog w = .ok true w := run_equalIn_slice_nil w 9999 60 67 none 0 0 Tryz.underlying60
  simp only [binOp]
  simp [h]
set_option maxHeartbeats 1000000 in
set_option maxRecDepth 100000 in
theorem cloneR_any (w : World) (ao : Option Addr) (n ca : Nat) (R V : Nat -> Int) (hv : De.Rec w ao n ca R V) (hn : n <= 1000) :
    Calls Tryz.prog 41 #[.slice ao n ca] w fun e w' => ∃ bo cb, e = .returned (.slice bo n cb) /\ De.OwR w.heap.size w' bo n cb R V /\ Below w.heap.size w w' := by
  cases ao with
  | none =>
    obtain ⟨rfl, rfl⟩ := hv.nil rfl
    have hnil := eqr_nil_yes
    go_enter Tryz.func41, Tryz.ntmps41
    go_wp2
    go_ret
    exact ⟨none, 0, rfl, De.owr_nil _ _ _ _, Below.refl _ _⟩
  | some ad =>
    have HV : Hid (∀ o, De.Rec (w.alloc o) (some ad) n ca R V) := fun o => hv.below (below_alloc _ _)
    have HO : Hid (De.OwR w.heap.size (w.alloc (.cells #[] 67)) (some ⟨w.heap.size, 0, none⟩) 0 0 R V) := World.ownsRow_lit w #[] 0 (Nat.le_refl _) (Nat.zero_le _) rfl
    have HB0 : Hid (∀ o, Below w.heap.size w (w.alloc o)) := fun o => below_alloc w o
    clear hv
    have hnil := fun w => eqr_nil_no w ad n ca
    go_enter Tryz.func41, Tryz.ntmps41
    go_wp2_with (at_builtin; refine De.wpList_append_refs (by rfl) (.tmp 5) (.tmp 6) (by rfl) w.heap.size 0 n 0 ca (some ⟨w.heap.size, 0, none⟩) (some ad) R V R V (by rfl) (by rfl) HO.out (HV.out _) (by omega) (by simp) ?_; intro ro cap w5 ho5 hg5)
    have HB5 : Hid (Below w.heap.size w w5) := (HB0.out (.cells #[] 67)).grown hg5 (by simp) (fun g hg => (World.ownsRow.lt HO.out g hg).1)
    rw [Nat.zero_add] at ho5
    have HO5 : Hid (De.OwR w.heap.size w5 ro n cap R V) := De.OwR.congr ho5 fun i _ => ⟨rfl, rfl⟩
    clear ho5 hg5
    go_ret
    exact ⟨_, _, rfl, HO5.out, HB5.out⟩
theorem zero_sizeR (m n : Nat) : (Builtin.zeroCells (Value.agg #[.int .i64 0, .int .i64 0]).cells m ++ Builtin.zeroCells (Value.agg #[.int .i64 0, .int .i64 0]).cells n).size = (m + n) * 2 := by
  rw [Array.size_append, size_zeroCells, size_zeroCells]
  have : (Value.agg #[.int .i64 0, .int .i64 0]).cells.size = 2 := rfl
  rw [this]; omega
set_option maxHeartbeats 1000000 in
set_option maxRecDepth 100000 in
theorem growR_any (w : World) (n : Nat) (hn : n <= 10000) (R V : Nat -> Int) :
    Calls Tryz.prog 44 #[.slice none 0 0, .int .i64 (n : Int)] w fun e w' => ∃ ao cap, e = .returned (.slice ao 0 cap) /\ De.OwR w.heap.size w' ao 0 cap R V /\ Below w.heap.size w w' := by
  by_cases h0 : n = 0
  · subst h0
    go_enter Tryz.func44, Tryz.ntmps44
    go_wp2
    go_ret
    exact ⟨none, 0, rfl, World.ownsRow_nil _ _ _ _, Below.refl _ _⟩
  · obtain ⟨j0, hj, hj0, hj1, hj2⟩ := info_parts De.info27
    have hr := fun ty => Lib.run_append_nil_zeros (P := Tryz.prog) w 60 3 ty 67 j0 (.agg #[.int .i64 0, .int .i64 0]) .i64 .i64 Tryz.underlying60 Tryz.underlying3 hj hj0 n (by omega) (by rw [hj1]; decide) (by omega) (by rw [hj2]; omega)
    have hc1 := grownCap_ge w n 0 67
    have hc2 := grownCap_le_maxLen w n 0 67 (by unfold maxLen; omega)
    obtain ⟨cp, hcp⟩ : ∃ c, c = grownCap w n 0 67 := ⟨_, rfl⟩
    rw [<- hcp] at hr hc1 hc2
    obtain ⟨w1, hw1⟩ : ∃ w1, w1 = w.drew.alloc (.cells (Builtin.zeroCells (Value.agg #[.int .i64 0, .int .i64 0]).cells n ++ Builtin.zeroCells (Value.agg #[.int .i64 0, .int .i64 0]).cells (cp - n)) 67) := ⟨_, rfl⟩
    rw [<- hw1] at hr
    have HO : Hid (De.OwR w.heap.size w1 (some ⟨w.heap.size, 0, none⟩) 0 cp R V) := by
      refine ⟨rfl, .inr ⟨w.heap.size, cp, _, rfl, Nat.le_refl _, by rw [hw1]; exact heap_alloc_new w.drew _, Nat.zero_le _, hc2, ?_, by simp [De.rvl]⟩⟩
      rw [zero_sizeR, Nat.add_sub_cancel' hc1]
    have HB : Hid (Below w.heap.size w w1) := by rw [hw1]; exact (below_drew _ w).alloc (Nat.le_refl _) _
    clear hw1 hcp hj hj0 hj1 hj2 hc2
    have hpos : (0 : Int) < (n : Int) := by omega
    go_enter Tryz.func44, Tryz.ntmps44
    go_wp2_with (at_builtin; refine Lib.wpList_append_run _ (by rfl) (.tmp 20) (.tmp 21) 60 3 (by rfl) (.slice none 0 0) (.int .i64 (n : Int)) (by rfl) (by rfl) _ _ (hr _) ?_)
    go_ret
    exact ⟨_, _, rfl, HO.out, HB.out⟩
set_option maxHeartbeats 2000000 in
set_option maxRecDepth 100000 in
theorem concatR_any (w : World) (g : Nat) (po qo : Option Addr) (pl pc ql qc : Nat) (PR PV QR QV : Nat -> Int) (c0 : w.cell? ⟨g, 0, none⟩ = some (.slice po pl pc)) (c1 : w.cell? ⟨g, 1, none⟩ = some (.slice qo ql qc))
    (hpl : pl <= 1000) (hql : ql <= 5000) (hp : De.Rec w po pl pc PR PV) (hq : De.Rec w qo ql qc QR QV) :
    Calls Tryz.prog 28 #[.slice (some ⟨g, 0, none⟩) 2 2] w fun e w' => ∃ ro rc, e = .returned (.slice ro (pl + ql) rc) /\ De.OwR w.heap.size w' ro (pl + ql) rc (De.apI pl PR QR) (De.apI pl PV QV) /\ Below w.heap.size w w' := by
  have HP : Hid (De.Rec w po pl pc PR PV) := hp
  have HQ : Hid (De.Rec w qo ql qc QR QV) := hq
  clear hp hq
  go_enter Tryz.func28, Tryz.ntmps28
  go_wp2
  go_loop [3, 11] (fun s x => (s = .int .i64 0 /\ x = .int .i64 0) \/ (s = .int .i64 (pl : Int) /\ x = .int .i64 1) \/ (s = .int .i64 ((pl : Int) + (ql : Int)) /\ x = .int .i64 2)) (fun _ x => 2 - (intOf x).toNat)
  case atStart => exact .inl ⟨rfl, rfl⟩
  case round =>
    rcases hrel with ⟨rfl, rfl⟩ | ⟨rfl, rfl⟩ | ⟨rfl, rfl⟩
    · go_wp2
      go_round
      case rel => exact .inr (.inl ⟨by go_num, by go_num⟩)
      case measure => simp [intOf]
    · go_wp2
      go_round
      case rel => exact .inr (.inr ⟨by go_num, by go_num⟩)
      case measure => simp [intOf]
    · have HG := growR_any w (pl + ql) (by omega) PR PV
      rw [Int.natCast_add] at HG
      go_wp2_with (go_at_call 44; refine HG.mono ?_; rintro e w1 ⟨ao, cap, rfl, hown, hb⟩)
      have HO1 : Hid (De.OwR w.heap.size w1 ao 0 cap PR PV) := hown
      have HB1 : Hid (Below w.heap.size w w1) := hb
      clear hown hb HG
      go_loopw [6, 27] (fun v x wr => (x = .int .i64 0 /\ ∃ ao c, v = .slice ao 0 c /\ Hid (De.OwR w.heap.size wr ao 0 c PR PV) /\ Hid (Below w.heap.size w wr)) \/ (x = .int .i64 1 /\ ∃ ao c, v = .slice ao pl c /\ Hid (De.OwR w.heap.size wr ao pl c PR PV) /\ Hid (Below w.heap.size w wr))
        \/ (x = .int .i64 2 /\ ∃ ao c, v = .slice ao (pl + ql) c /\ Hid (De.OwR w.heap.size wr ao (pl + ql) c (De.apI pl PR QR) (De.apI pl PV QV)) /\ Hid (Below w.heap.size w wr))) (fun _ x _ => 2 - (intOf x).toNat)
      case atStart => exact .inl ⟨rfl, ao, cap, rfl, HO1, HB1⟩
      case round =>
        rcases hrel with ⟨rfl, ao, c, rfl, hown, hbel⟩ | ⟨rfl, ao, c, rfl, hown, hbel⟩ | ⟨rfl, ao, c, rfl, hown, hbel⟩
        · have d0 := held c0 hbel.out
          have hws := hbel.out.size
          have HL : Hid (De.Rec wr po pl pc PR PV) := HP.out.below hbel.out
          go_wp2_with (at_builtin; refine De.wpList_append_refs (by rfl) (.tmp 31) (.tmp 32) (by rfl) w.heap.size 0 pl c pc ao po PR PV PR PV (by rfl) (by rfl) hown.out HL.out (by omega) (by omega) ?_; intro ao' c' w' hown' hgrow')
          rw [Nat.zero_add] at hown'
          have HO2 : Hid (De.OwR w.heap.size w' ao' pl c' PR PV) := De.OwR.congr hown' fun i _ => ⟨rfl, rfl⟩
          have HB2 : Hid (Below w.heap.size w w') := hbel.out.grown hgrow' hws (fun r hr => (World.ownsRow.lt hown.out r hr).1)
          clear hown' hgrow'
          go_roundw
          case rel => exact .inr (.inl ⟨by go_num, ao', c', rfl, HO2, HB2⟩)
          case measure => simp [intOf]
        · have d0 := held c1 hbel.out
          have hws := hbel.out.size
          have HL : Hid (De.Rec wr qo ql qc QR QV) := HQ.out.below hbel.out
          go_wp2_with (at_builtin; refine De.wpList_append_refs (by rfl) (.tmp 31) (.tmp 32) (by rfl) w.heap.size pl ql c qc ao qo PR PV QR QV (by rfl) (by rfl) hown.out HL.out (by omega) (by omega) ?_; intro ao' c' w' hown' hgrow')
          have HO2 : Hid (De.OwR w.heap.size w' ao' (pl + ql) c' (De.apI pl PR QR) (De.apI pl PV QV)) := hown'
          have HB2 : Hid (Below w.heap.size w w') := hbel.out.grown hgrow' hws (fun r hr => (World.ownsRow.lt hown.out r hr).1)
          clear hown' hgrow'
          go_roundw
          case rel => exact .inr (.inr ⟨by go_num, ao', c', rfl, HO2, HB2⟩)
          case measure => simp [intOf]
        · go_wp2
          go_ret
          exact ⟨ao, c, rfl, hown.out, hbel.out⟩
end Go.Proofs.YtngcdlodcdgcaaaGreat
namespace Go.Proofs.YtngcdlodcdgcaaaGreat
open Go.RowKit
theorem blk_other {w : World} {g h : Nat} {t : TypeId} {cs : List Value} (hb : Im.Blk w g t cs) (hne : g ≠ h) (i : Nat) (v : Value) : Im.Blk (w.setCell ⟨h, i, none⟩ v) g t cs := (heap_setCell_other _ _ _ _ hne).trans hb
structure OB (w0 : World) (B : Nat) (w : World) (k r c q : Int) (lo : Option Addr) (n cl : Nat) (d0 d1 d2 y lv st e : Value) : Prop where
  img : Im.Blk w B 26 [.int .i64 k, .int .i64 r, .int .i64 c, .int .i64 q, .slice lo n cl]
  dsc : Im.Blk w (B + 1) 62 [d0, d1, d2]
  ver : Im.Blk w (B + 2) 3 [y]
  lvs : Im.Blk w (B + 3) 60 [lv]
  sts : Im.Blk w (B + 4) 60 [st]
  err : Im.Blk w (B + 5) 30 [e]
  bel : Below B w0 w
  siz : B = w0.heap.size /\ B + 6 <= w.heap.size
variable {w0 w : World} {B : Nat} {k r c q : Int} {lo : Option Addr} {n cl : Nat} {d0 d1 d2 y lv st e : Value}
theorem OB.below {w' : World} (h : OB w0 B w k r c q lo n cl d0 d1 d2 y lv st e) (hb : Below w.heap.size w w') : OB w0 B w' k r c q lo n cl d0 d1 d2 y lv st e :=
  ⟨h.img.below hb, h.dsc.below hb, h.ver.below hb, h.lvs.below hb, h.sts.below hb, h.err.below hb, below_step h.bel hb (by have := h.siz; omega), h.siz.1, Nat.le_trans h.siz.2 hb.size⟩
theorem OB.cells (h : OB w0 B w k r c q lo n cl d0 d1 d2 y lv st e) :
    (w.cell? ⟨B, 0, none⟩ = some (.int .i64 k) /\ w.cell? ⟨B, 1, none⟩ = some (.int .i64 r) /\ w.cell? ⟨B, 2, none⟩ = some (.int .i64 c) /\ w.cell? ⟨B, 3, none⟩ = some (.int .i64 q) /\ w.cell? ⟨B, 4, none⟩ = some (.slice lo n cl)) /\
    (w.cell? ⟨B + 1, 0, none⟩ = some d0 /\ w.cell? ⟨B + 1, 1, none⟩ = some d1 /\ w.cell? ⟨B + 1, 2, none⟩ = some d2) /\ w.cell? ⟨B + 2, 0, none⟩ = some y /\ w.cell? ⟨B + 3, 0, none⟩ = some lv /\ w.cell? ⟨B + 4, 0, none⟩ = some st /\ w.cell? ⟨B + 5, 0, none⟩ = some e :=
  ⟨⟨h.img.cell rfl, h.img.cell rfl, h.img.cell rfl, h.img.cell rfl, h.img.cell rfl⟩, ⟨h.dsc.cell rfl, h.dsc.cell rfl, h.dsc.cell rfl⟩, h.ver.cell rfl, h.lvs.cell rfl, h.sts.cell rfl, h.err.cell rfl⟩
theorem OB.free (h : OB w0 B w k r c q lo n cl d0 d1 d2 y lv st e) :
    (∀ i, w.frozen? ⟨B + 1, i, none⟩ = false) /\ (∀ i, w.frozen? ⟨B + 2, i, none⟩ = false) /\ (∀ i, w.frozen? ⟨B + 3, i, none⟩ = false) /\ (∀ i, w.frozen? ⟨B + 4, i, none⟩ = false) /\ ∀ i, w.frozen? ⟨B + 5, i, none⟩ = false :=
  ⟨h.dsc.free, h.ver.free, h.lvs.free, h.sts.free, h.err.free⟩
theorem OB.size_set (h : OB w0 B w k r c q lo n cl d0 d1 d2 y lv st e) (a : Addr) (v : Value) : B = w0.heap.size /\ B + 6 <= (w.setCell a v).heap.size := ⟨h.siz.1, by have := h.siz.2; simpa using this⟩
theorem OB.setE (h : OB w0 B w k r c q lo n cl d0 d1 d2 y lv st e) (v : Value) : OB w0 B (w.setCell ⟨B + 5, 0, none⟩ v) k r c q lo n cl d0 d1 d2 y lv st v :=
  ⟨blk_other h.img (by omega) _ _, blk_other h.dsc (by omega) _ _, blk_other h.ver (by omega) _ _, blk_other h.lvs (by omega) _ _, blk_other h.sts (by omega) _ _, h.err.set 0 v, h.bel.setCell (by show B <= B + 5; omega) _, h.size_set _ _⟩
theorem OB.setS (h : OB w0 B w k r c q lo n cl d0 d1 d2 y lv st e) (v : Value) : OB w0 B (w.setCell ⟨B + 4, 0, none⟩ v) k r c q lo n cl d0 d1 d2 y lv v e :=
  ⟨blk_other h.img (by omega) _ _, blk_other h.dsc (by omega) _ _, blk_other h.ver (by omega) _ _, blk_other h.lvs (by omega) _ _, h.sts.set 0 v, blk_other h.err (by omega) _ _, h.bel.setCell (by show B <= B + 4; omega) _, h.size_set _ _⟩
theorem OB.setL (h : OB w0 B w k r c q lo n cl d0 d1 d2 y lv st e) (v : Value) : OB w0 B (w.setCell ⟨B + 3, 0, none⟩ v) k r c q lo n cl d0 d1 d2 y v st e :=
  ⟨blk_other h.img (by omega) _ _, blk_other h.dsc (by omega) _ _, blk_other h.ver (by omega) _ _, h.lvs.set 0 v, blk_other h.sts (by omega) _ _, blk_other h.err (by omega) _ _, h.bel.setCell (by show B <= B + 3; omega) _, h.size_set _ _⟩
theorem OB.setY (h : OB w0 B w k r c q lo n cl d0 d1 d2 y lv st e) (v : Value) : OB w0 B (w.setCell ⟨B + 2, 0, none⟩ v) k r c q lo n cl d0 d1 d2 v lv st e :=
  ⟨blk_other h.img (by omega) _ _, blk_other h.dsc (by omega) _ _, h.ver.set 0 v, blk_other h.lvs (by omega) _ _, blk_other h.sts (by omega) _ _, blk_other h.err (by omega) _ _, h.bel.setCell (by show B <= B + 2; omega) _, h.size_set _ _⟩
theorem OB.setD1 (h : OB w0 B w k r c q lo n cl d0 d1 d2 y lv st e) (i : Nat) (v : Value) (u0 u1 u2 : Value) (hi : [d0, d1, d2].set i v = [u0, u1, u2]) : OB w0 B (w.setCell ⟨B + 1, i, none⟩ v) k r c q lo n cl u0 u1 u2 y lv st e :=
  ⟨blk_other h.img (by omega) _ _, by rw [<- hi]; exact h.dsc.set i v, blk_other h.ver (by omega) _ _, blk_other h.lvs (by omega) _ _, blk_other h.sts (by omega) _ _, blk_other h.err (by omega) _ _, h.bel.setCell (by show B <= B + 1; omega) _, h.size_set _ _⟩
theorem OB.setD (h : OB w0 B w k r c q lo n cl d0 d1 d2 y lv st e) (u0 u1 u2 : Value) : OB w0 B (((w.setCell ⟨B + 1, 0, none⟩ u0).setCell ⟨B + 1, 1, none⟩ u1).setCell ⟨B + 1, 2, none⟩ u2) k r c q lo n cl u0 u1 u2 y lv st e :=
  ((h.setD1 0 u0 u0 d1 d2 rfl).setD1 1 u1 u0 u1 d2 rfl).setD1 2 u2 u0 u1 u2 rfl
def objW (w : World) (k r c q : Int) (lo : Option Addr) (n cl : Nat) : World := (((((w.alloc (.cells #[.int .i64 k, .int .i64 r, .int .i64 c, .int .i64 q, .slice lo n cl] 26)).alloc (.cells #[.int .i64 0, .int .i64 0, .slice none 0 0] 62)).alloc (.cells #[.int .i64 0] 3)).alloc (.cells #[.slice none 0 0] 60)).alloc (.cells #[.slice none 0 0] 60)).alloc (.cells #[.int .i64 0] 30)
theorem ob_new (w : World) (k r c q : Int) (lo : Option Addr) (n cl : Nat) : OB w w.heap.size (objW w k r c q lo n cl) k r c q lo n cl (.int .i64 0) (.int .i64 0) (.slice none 0 0) (.int .i64 0) (.slice none 0 0) (.slice none 0 0) (.int .i64 0) := by
  obtain ⟨w1, h1⟩ : ∃ w1, w1 = w.alloc (.cells #[.int .i64 k, .int .i64 r, .int .i64 c, .int .i64 q, .slice lo n cl] 26) := ⟨_, rfl⟩
  obtain ⟨w2, h2⟩ : ∃ w2, w2 = w1.alloc (.cells #[.int .i64 0, .int .i64 0, .slice none 0 0] 62) := ⟨_, rfl⟩
  obtain ⟨w3, h3⟩ : ∃ w3, w3 = w2.alloc (.cells #[.int .i64 0] 3) := ⟨_, rfl⟩
  obtain ⟨w4, h4⟩ : ∃ w4, w4 = w3.alloc (.cells #[.slice none 0 0] 60) := ⟨_, rfl⟩
  obtain ⟨w5, h5⟩ : ∃ w5, w5 = w4.alloc (.cells #[.slice none 0 0] 60) := ⟨_, rfl⟩
  obtain ⟨w6, h6⟩ : ∃ w6, w6 = w5.alloc (.cells #[.int .i64 0] 30) := ⟨_, rfl⟩
  have b1 : Below w.heap.size w w1 := by rw [h1]; exact below_alloc _ _
  have b2 : Below w1.heap.size w1 w2 := by rw [h2]; exact below_alloc _ _
  have b3 : Below w2.heap.size w2 w3 := by rw [h3]; exact below_alloc _ _
  have b4 : Below w3.heap.size w3 w4 := by rw [h4]; exact below_alloc _ _
  have b5 : Below w4.heap.size w4 w5 := by rw [h5]; exact below_alloc _ _
  have b6 : Below w5.heap.size w5 w6 := by rw [h6]; exact below_alloc _ _
  have z1 : w1.heap.size = w.heap.size + 1 := by rw [h1]; simp
  have z2 : w2.heap.size = w.heap.size + 2 := by rw [h2]; simp [z1]
  have z3 : w3.heap.size = w.heap.size + 3 := by rw [h3]; simp [z2]
  have z4 : w4.heap.size = w.heap.size + 4 := by rw [h4]; simp [z3]
  have z5 : w5.heap.size = w.heap.size + 5 := by rw [h5]; simp [z4]
  have z6 : w6.heap.size = w.heap.size + 6 := by rw [h6]; simp [z5]
  have e : objW w k r c q lo n cl = w6 := by unfold objW; rw [h6, h5, h4, h3, h2, h1]
  have k1 : Im.Blk w1 w.heap.size 26 [.int .i64 k, .int .i64 r, .int .i64 c, .int .i64 q, .slice lo n cl] := by rw [h1]; exact Im.blk_new _ _ _
  have k2 : Im.Blk w2 w1.heap.size 62 [.int .i64 0, .int .i64 0, .slice none 0 0] := by rw [h2]; exact Im.blk_new _ _ _
  have k3 : Im.Blk w3 w2.heap.size 3 [.int .i64 0] := by rw [h3]; exact Im.blk_new _ _ _
  have k4 : Im.Blk w4 w3.heap.size 60 [.slice none 0 0] := by rw [h4]; exact Im.blk_new _ _ _
  have k5 : Im.Blk w5 w4.heap.size 60 [.slice none 0 0] := by rw [h5]; exact Im.blk_new _ _ _
  have k6 : Im.Blk w6 w5.heap.size 30 [.int .i64 0] := by rw [h6]; exact Im.blk_new _ _ _
  rw [z1] at k2
  rw [z2] at k3
  rw [z3] at k4
  rw [z4] at k5
  rw [z5] at k6
  rw [e]
  have c5 := b6
  have c4 := below_then b5 c5
  have c3 := below_then b4 c4
  have c2 := below_then b3 c3
  have c1 := below_then b2 c2
  exact ⟨k1.below c1, k2.below c2, k3.below c3, k4.below c4, k5.below c5, k6, below_then b1 c1, rfl, by omega⟩
set_option maxHeartbeats 1000000 in
set_option maxRecDepth 100000 in
theorem obj_defer {x : Int} (h : OB w0 B w k r c q lo n cl d0 d1 d2 y lv st (.int .i64 x)) (u : FrameMode) :
    CallsD Tryz.prog 38 #[.pointer (some ⟨B + 5, 0, none⟩), .pointer (some ⟨B + 1, 0, none⟩), .pointer (some ⟨B + 2, 0, none⟩), .pointer (some ⟨B + 3, 0, none⟩), .pointer (some ⟨B + 4, 0, none⟩)] u w fun e' u' w' => u' = u /\ e' = .returned (.tuple #[]) /\
      ((x = 0 /\ w' = w) \/ (x ≠ 0 /\ OB w0 B w' k r c q lo n cl (.int .i64 0) (.int .i64 0) (.slice none 0 0) (.int .i64 0) (.slice none 0 0) (.slice none 0 0) (.int .i64 x) /\ ∀ g, (¬ (B <= g /\ g < B + 6)) -> w'.heap[g]? = w.heap[g]?)) := by
  obtain ⟨_, ⟨t0, t1, t2⟩, t3, t4, t5, t6⟩ := h.cells
  obtain ⟨f1, f2, f3, f4, f5⟩ := h.free
  by_cases hx : x = 0
  · subst hx
    go_enter_d Tryz.func38, Tryz.ntmps38
    go_wp2
    go_end0
    exact ⟨rfl, .inl ⟨trivial, rfl⟩⟩
  · have hz : (x != 0) = true := by simpa using hx
    have HO := (((h.setD (.int .i64 0) (.int .i64 0) (.slice none 0 0)).setY (.int .i64 0)).setL (.slice none 0 0)).setS (.slice none 0 0)
    have HX : Hid (x ≠ 0) := hx
    have HH : Hid (OB w0 B _ k r c q lo n cl (.int .i64 0) (.int .i64 0) (.slice none 0 0) (.int .i64 0) (.slice none 0 0) (.slice none 0 0) (.int .i64 x)) := HO
    clear hx h HO
    go_enter_d Tryz.func38, Tryz.ntmps38
    go_wp2
    go_end0
    refine ⟨rfl, .inr ⟨HX.out, HH.out, fun g hg => ?_⟩⟩
    have h1 : g ≠ B + 1 := by omega
    have h2 : g ≠ B + 2 := by omega
    have h3 : g ≠ B + 3 := by omega
    have h4 : g ≠ B + 4 := by omega
    rw [heap_setCell_other _ _ _ _ h4, heap_setCell_other _ _ _ _ h3, heap_setCell_other _ _ _ _ h2, heap_setCell_other _ _ _ _ h1, heap_setCell_other _ _ _ _ h1, heap_setCell_other _ _ _ _ h1]
end Go.Proofs.YtngcdlodcdgcaaaGreat
