/- The laws' own helpers: lent, kept, spoil; the document's All and Last. -/
import Derived.Test.YtkoblkkigmnocaaVecG
namespace Go.Proofs.Ytkoblkkigmnocaa
open Go.RowKit

/-- All but the blocks from B to T stays. -/
structure Kept (B T : Nat) (w w' : World) : Prop where
  os : w'.os = w.os
  tape : w'.tape = w.tape
  output : w'.output = w.output
  size : w'.heap.size = w.heap.size
  block : ∀ k, k < B ∨ T ≤ k → w'.heap[k]? = w.heap[k]?
theorem Kept.refl (B T : Nat) (w : World) : Kept B T w w := ⟨rfl, rfl, rfl, rfl, fun _ _ => rfl⟩
theorem Kept.set {B T : Nat} {w w' : World} (h : Kept B T w w') {g : Nat} (h1 : B ≤ g) (h2 : g < T) (i : Nat) (v : Value) : Kept B T w (w'.setCell ⟨g, i, none⟩ v) :=
  ⟨h.os, h.tape, h.output, by rw [← h.size]; simp [World.setCell], fun k hk => (Below.heap_setCell _ _ _ _ (by simp; omega)).trans (h.block k hk)⟩
theorem Kept.below {B T : Nat} {w w' : World} (h : Kept B T w w') : Below B w w' := ⟨h.os, h.tape, h.output, by rw [h.size]; exact Nat.le_refl _, fun k hk => h.block k (.inl hk)⟩
set_option maxHeartbeats 1000000 in
set_option maxRecDepth 100000 in
theorem spoil_any (w : World) (ao : Option Addr) (n cap B T : Nat) (R : Nat → Int) (hn : n ≤ 1000) (h : Own B w ao n cap R) (hT : ∀ g, ao = some ⟨g, 0, none⟩ → g < T) :
    Calls Try.prog 23 #[.slice ao n cap] w fun e w' => e = .returned (.tuple #[]) ∧ Kept B T w w' := by
  have HO : Hid (Own B w ao n cap R) := h
  have HT : Hid (∀ g, ao = some ⟨g, 0, none⟩ → g < T) := hT
  clear h hT
  go_enter Try.func23, Try.ntmps23
  go_wp2
  go_loopw [2] (fun x wr => ∃ i : Nat, i ≤ n ∧ x = .int .i64 (i : Int) ∧ Hid (∃ S, Own B wr ao n cap S) ∧ Hid (Kept B T w wr)) (fun x _ => n - (intOf x).toNat)
  case atStart => exact ⟨0, Nat.zero_le _, rfl, ⟨_, HO.out⟩, Kept.refl _ _ _⟩
  case round =>
    obtain ⟨i, hi, rfl, hown, hkeep⟩ := hrel
    by_cases hlt : i < n
    · obtain ⟨S, hS⟩ := hown.out
      obtain ⟨g, rfl, h1, _⟩ := hS.at_ (by omega)
      have h2 := HT.out g rfl
      have d1 := hS.cell hlt
      have z1 := hS.free i
      have HO2 : Hid (∃ S, Own B (wr.setCell ⟨g, i, none⟩ (.int .i64 (-9))) (some ⟨g, 0, none⟩) n cap S) := ⟨_, hS.set i (-9)⟩
      have HK2 : Hid (Kept B T w (wr.setCell ⟨g, i, none⟩ (.int .i64 (-9)))) := hkeep.out.set h1 h2 i _
      have i1 : (0 : Int) ≤ (i : Int) := by omega
      have i2 : (i : Int) < (n : Int) := by omega
      clear hS hown h1 h2
      go_wp2
      go_roundw
      case rel => exact ⟨i + 1, by omega, by go_num, HO2.out, HK2.out⟩
      case measure => simp [intOf]; omega
    · go_wp2
      refine bodyPost_end (results_none rfl _ _ _) rfl ?_
      exact ⟨rfl, hkeep.out⟩
/-- A copy with a mark behind its end. -/
def Lent (B : Nat) (w : World) (g n cap : Nat) (R : Nat → Int) : Prop := Own B w (some ⟨g, 0, none⟩) (n + 1) cap (put n 77 R)
theorem Lent.vec {B : Nat} {w : World} {g n cap : Nat} {R : Nat → Int} (h : Lent B w g n cap R) : Vec w (some ⟨g, 0, none⟩) n cap R := by
  refine ⟨fun hp => ⟨g, 0, rfl, fun i hi => ?_⟩, (fun e => by cases e), by have := (Own.vec h).room; omega⟩
  have := h.cell (show i < n + 1 by omega)
  rw [put_ne _ _ (show i ≠ n by omega)] at this
  rw [Nat.zero_add]; exact this
theorem Lent.below {B : Nat} {w w' : World} {g n cap : Nat} {R : Nat → Int} (h : Lent B w g n cap R) (hb : Below w.heap.size w w') : Lent B w' g n cap R := Own.below h hb
theorem Lent.lt {B : Nat} {w : World} {g n cap : Nat} {R : Nat → Int} (h : Lent B w g n cap R) : B ≤ g ∧ g < w.heap.size := by
  obtain ⟨g', e, h1⟩ := Own.at_ h (by omega)
  cases e; exact h1
set_option maxHeartbeats 1000000 in
set_option maxRecDepth 100000 in
theorem lent_any (w : World) (ao : Option Addr) (n ca : Nat) (R : Nat → Int) (hv : Vec w ao n ca R) (hn : n ≤ 500) :
    Calls Try.prog 16 #[.slice ao n ca] w fun e w' => ∃ g cap, e = .returned (.slice (some ⟨g, 0, none⟩) n cap) ∧ Lent w.heap.size w' g n cap R ∧ Below w.heap.size w w' := by
  have HV : Hid (Vec w ao n ca R) := hv
  have HO : Hid (w.ownsRow w.heap.size 3 1 (.slice none 0 0) 0 []) := World.ownsRow_nil _ _ _ _
  obtain ⟨i0, hi, hi0, hi1, hi2⟩ := info_parts info3
  clear hv
  go_enter Try.func16, Try.ntmps16
  go_wp2_with (at_builtin; first
    | (refine wpList_append_first (by rfl) (.tmp 4) (.tmp 5) (by rfl) w.heap.size n ca none ao R (by rfl) (by rfl) HO.out HV.out (by omega) (Nat.le_refl _) ?_; intro ro cap w5 HO5 B5
       have hsz := B5.out.size
       obtain ⟨XS, hXS⟩ : ∃ XS, XS = zOf n R := ⟨_, rfl⟩
       have HOW : Hid (∀ o, (w5.alloc o).ownsRow w.heap.size 3 1 (.slice ro n cap) n XS) := fun o => (by rw [hXS]; exact World.ownsRow.alloc HO5.out o)
       have HXS : Hid (XS ++ [.int .i64 77] = zOf (n + 1) (put n 77 R)) := (by show _ = _; rw [zOf_put, hXS])
       clear hXS)
    | (refine wpList_append_lies _ (by rfl) (.tmp 7) (.tmp 8) 26 (by rfl) w.heap.size 3 i0 (.int .i64 0) 1 8 Try.underlying26 hi hi0 hi1 hi2 (by rfl) (by decide) (.slice ro n cap) n XS (by rfl) (HOW.out _) ⟨w5.heap.size, 0, none⟩ 1 1 [.int .i64 77] (by rfl) (by rfl) (World.news_of_block (heap_alloc_new w5 _)) (by simp [Value.oneCell']) (by decide) (by unfold maxLen; omega) (by omega) (by simp; omega) (w5.heap.size + 1) (by simp) ?_; intro g6 cap6 w6 hown6 hgrow6 _ _
       have HO6 : Hid (Lent w.heap.size w6 g6 n cap6 R) := (by show World.ownsRow _ _ _ _ _ _ _; rw [← HXS.out]; exact hown6)
       have B6 : Hid (Below w.heap.size w w6) := (B5.out.alloc hsz _).grown hgrow6 (by simp; omega) (fun q hq => ((HOW.out (.cells #[] 3)).lt q hq).1)
       have hc6 : n + 1 ≤ cap6 := (Own.vec HO6.out).room
       have j1 : (n : Int) ≤ (cap6 : Int) := (by omega)
       have j2 : n ≤ cap6 := (by omega)
       clear hown6 hgrow6))
  go_ret
  exact ⟨_, _, rfl, HO6.out, B6.out⟩
theorem same_refl {n : Nat} {R : Nat → Int} : sameB n n R R = true := decide_eq_true ⟨rfl, fun _ _ => rfl⟩
set_option maxHeartbeats 1000000 in
set_option maxRecDepth 100000 in
theorem kept_any (w : World) (g n cap : Nat) (ao : Option Addr) (ca B : Nat) (R : Nat → Int) (hl : Lent B w g n cap R) (hv : Vec w ao n ca R) (hn : n ≤ 500) :
    Calls Try.prog 24 #[.slice (some ⟨g, 0, none⟩) n cap, .slice ao n ca] w fun e w' => e = .returned (.bool true) ∧ ∃ q, w' = w.drewN q := by
  have HS := Same_any w (some ⟨g, 0, none⟩) ao n cap n ca R R hl.vec.rd hv.rd (by omega) (by omega)
  rw [same_refl] at HS
  have hc := Own.cell hl (show n < n + 1 by omega)
  rw [put_at] at hc
  have HC : Hid (∀ q, (w.drewN q).cell? ⟨g, n, none⟩ = some (.int .i64 77)) := fun _ => hc
  have hroom := Own.vec hl |>.room
  clear hl hv hc
  have j1 : (n : Int) + 1 ≤ (cap : Int) := by omega
  have j2 : (0 : Int) ≤ (n : Int) + 1 := by omega
  have j3 : n + 1 ≤ cap := hroom
  have j4 : (n : Int) < (n : Int) + 1 := by omega
  go_enter Try.func24, Try.ntmps24
  go_wp2_with fail
  refine HS.mono ?_
  rintro e w' ⟨rfl, hq⟩
  have hc : w'.cell? ⟨g, n, none⟩ = some (.int .i64 77) := by obtain ⟨q, rfl⟩ := hq; exact HC.out q
  have HQ : Hid (∃ q, w' = w.drewN q) := hq
  clear hq HC HS
  go_wp2_with fail
  go_ret
  exact ⟨rfl, HQ.out⟩
set_option maxHeartbeats 1000000 in
set_option maxRecDepth 100000 in
theorem RAll_any {k r c q : Int} {N W : Nat} {x : Int} (h : Par k r c q N W x) (v : Int) (w : World) (E : Int) (hE : erA x v = E) :
    Calls Try.prog 17 #[.agg #[.int .i64 k, .int .i64 r, .int .i64 c, .int .i64 q], .int .i64 v] w (Ans w E N (fun _ => v)) := by
  have hf := h.few
  have HM := fun w => May_any k r c q w
  have HV := fun w => Version_any v w
  obtain ⟨w0, hw0⟩ : ∃ w0, w0 = w.alloc (.cells #[.int .i64 k, .int .i64 r, .int .i64 c, .int .i64 q] 24) := ⟨_, rfl⟩
  have b0 : Below w.heap.size w w0 := by rw [hw0]; exact below_alloc _ _
  unfold Ans
  rcases h with ⟨h0, _, h2, rfl⟩ | ⟨h0, _, _, rfl⟩
  · rw [h0] at HM
    have HN := fun w => N_any c q h2 hf w
    clear h0 h2
    cases hv : verB v
    · obtain rfl : E = 70 := by rw [← hE]; unfold erA; rw [if_pos rfl, if_neg (by rw [hv]; decide)]
      rw [hv] at HV
      rw [lenE_ne N (show (70 : Int) ≠ 0 by decide)]
      clear hE hv
      go_enter Try.func17, Try.ntmps17
      go_wp2_with fail
      rw [← hw0]
      refine (HM _).mono ?_
      rintro e wa ⟨rfl, ha⟩
      have hb := below_then b0 ha
      clear hw0
      go_wp2_with fail
      refine (HV _).mono ?_
      rintro e w' ⟨rfl, rfl⟩
      go_wp2_with fail
      go_ret2
      exact ⟨_, _, rfl, own_nil _ _ _, hb⟩
    · obtain rfl : E = 0 := by rw [← hE]; unfold erA; rw [if_pos rfl, if_pos hv]
      rw [hv] at HV
      rw [lenE_zero]
      clear hE hv
      have hm := run_make_row' (P := Try.prog) 26 3 (.int .i64 0) 8 Try.underlying26 info3 rfl .i64 .i64 N (by omega) (by omega)
      have HMK : Hid (∀ w, (Instr.makeSlice 26 (.int .i64 (N : Int)) (.int .i64 (N : Int))).run Try.prog w = .ok (.slice (some ⟨w.heap.size, 0, none⟩) N N) (w.alloc (.cells (madeCells #[.int .i64 0] N) 3))) := hm
      clear hm
      go_enter Try.func17, Try.ntmps17
      go_wp2_with fail
      rw [← hw0]
      refine (HM _).mono ?_
      rintro e wa ⟨rfl, ha⟩
      have hb := below_then b0 ha
      obtain ⟨s0, s1, s2, s3⟩ := par_held hw0 ha
      clear hw0
      go_wp2_with fail
      refine (HV _).mono ?_
      rintro e w' ⟨rfl, hw'⟩
      obtain rfl := hw'.symm
      go_wp2_with fail
      refine (HN _).mono ?_
      rintro e wb ⟨rfl, hb2⟩
      have HB : Hid (Below w.heap.size w wb) := below_then hb hb2
      obtain ⟨wc, hwc⟩ : ∃ wc, wc = wb.alloc (.cells (madeCells #[.int .i64 0] N) 3) := ⟨_, rfl⟩
      have hmk := HMK.out wb
      rw [← hwc] at hmk
      have HR : Hid (wc.rowIs wb.heap.size 3 N (intV (fun _ => v) 0)) := by rw [hwc]; exact (World.rowIs_made wb _ N 3).congr (fun i _ => by unfold intV; rw [if_neg (by omega)])
      have HC : Hid (Below wb.heap.size wb wc) := by rw [hwc]; exact below_alloc _ _
      clear hwc HMK hb2 hb ha s0 s1 s2 s3 b0 HM HV HN
      go_wp2_with fail
      go_loopw [7] (fun x wr => ∃ i : Nat, i ≤ N ∧ x = .int .i64 (i : Int) ∧ Hid (wr.rowIs wb.heap.size 3 N (intV (fun _ => v) i)) ∧ Hid (Below wb.heap.size wb wr)) (fun x _ => N - (intOf x).toNat)
      case atStart => exact ⟨0, Nat.zero_le _, rfl, HR.out, HC.out⟩
      case round =>
        obtain ⟨i, hi, rfl, hrow, hbel⟩ := hrel
        by_cases hlt : i < N
        · have c1 := hrow.out.cell hlt
          have z1 := hrow.out.frozen i
          have HO2 : Hid ((wr.setCell ⟨wb.heap.size, i, none⟩ (.int .i64 v)).rowIs wb.heap.size 3 N (intV (fun _ => v) (i + 1))) := (hrow.out.set i (.int .i64 v)).congr (fun j _ => intV_step (fun _ => v) i j)
          have HK2 : Hid (Below wb.heap.size wb (wr.setCell ⟨wb.heap.size, i, none⟩ (.int .i64 v))) := hbel.out.setCell (Nat.le_refl _) _
          have i1 : (0 : Int) ≤ (i : Int) := by omega
          have i2 : (i : Int) < (N : Int) := by omega
          go_wp2
          go_roundw
          case rel => exact ⟨i + 1, by omega, by go_num, HO2.out, HK2.out⟩
          case measure => simp [intOf]; omega
        · obtain rfl : i = N := by omega
          go_wp2
          go_ret2
          exact ⟨_, _, rfl, own_row hrow.out HB.out.size (by omega) (fun j hj => by unfold intV; rw [if_pos hj]), below_then HB.out hbel.out⟩
  · rw [h0] at HM
    obtain rfl : E = 2 := by rw [← hE]; unfold erA; rw [if_neg (by decide)]
    rw [lenE_ne N (show (2 : Int) ≠ 0 by decide)]
    clear hE h0
    go_enter Try.func17, Try.ntmps17
    go_wp2_with fail
    rw [← hw0]
    refine (HM _).mono ?_
    rintro e wa ⟨rfl, ha⟩
    have hb := below_then b0 ha
    clear hw0
    go_wp2_with fail
    go_ret2
    exact ⟨_, _, rfl, own_nil _ _ _, hb⟩
set_option maxHeartbeats 1000000 in
set_option maxRecDepth 100000 in
theorem RLast_any {k r c q : Int} {N W : Nat} {x : Int} (h : Par k r c q N W x) (w : World) (ao : Option Addr) (n ca : Nat) (R : Nat → Int) (hv : Vec w ao n ca R) (hn : n ≤ 1000) (E : Int) (hE : erV x N n R = E) :
    Calls Try.prog 18 #[.agg #[.int .i64 k, .int .i64 r, .int .i64 c, .int .i64 q], .slice ao n ca] w (TellI w E (mx R n)) := by
  have HC := fun w (hv : Vec w ao n ca R) => RVCheck_any h w ao n ca R hv hn
  rw [hE] at HC
  have HV : Hid (Vec w ao n ca R) := hv
  clear hv h
  obtain ⟨w0, hw0⟩ : ∃ w0, w0 = w.alloc (.cells #[.int .i64 k, .int .i64 r, .int .i64 c, .int .i64 q] 24) := ⟨_, rfl⟩
  have b0 : Below w.heap.size w w0 := by rw [hw0]; exact below_alloc _ _
  unfold TellI
  by_cases h1 : E = 0
  · subst h1
    rw [if_pos rfl]
    have HM : Hid (∀ i, mx R (i + 1) = gr (mx R i) (R i)) := fun _ => rfl
    clear hE
    go_enter Try.func18, Try.ntmps18
    go_wp2_with fail
    rw [← hw0]
    refine (HC _ (HV.out.below b0)).mono ?_
    rintro e wa ⟨rfl, ha⟩
    have HB : Hid (Below w.heap.size w wa) := below_then b0 ha
    clear hw0 ha b0 HC
    go_wp2_with fail
    go_loop [7, 8] (fun v x => ∃ i : Nat, i ≤ n ∧ x = .int .i64 (i : Int) ∧ ∃ y, v = .int .i64 y ∧ Hid (y = mx R i)) (fun _ x => n - (intOf x).toNat)
    case atStart => exact ⟨0, Nat.zero_le _, rfl, _, rfl, rfl⟩
    case round =>
      obtain ⟨i, hi, rfl, y, rfl, hy⟩ := hrel
      by_cases hlt : i < n
      · obtain ⟨b, off, rfl, hc⟩ := (HV.out.below HB.out).rd (by omega)
        have ck := hc i hlt
        have i1 : (0 : Int) ≤ (i : Int) := by omega
        have i2 : (i : Int) < (n : Int) := by omega
        have HY : Hid (mx R (i + 1) = gr y (R i)) := by show _ = _; rw [HM.out i, ← hy.out]
        clear hc
        by_cases hg : y < R i
        · have HY2 : Hid (R i = mx R (i + 1)) := by show _ = _; rw [HY.out]; unfold gr; rw [if_pos hg]
          go_wp2
          go_round
          case rel => exact ⟨i + 1, by omega, by go_num, _, rfl, HY2.out⟩
          case measure => simp [intOf]; omega
        · have HY2 : Hid (y = mx R (i + 1)) := by show _ = _; rw [HY.out]; unfold gr; rw [if_neg hg]
          go_wp2
          go_round
          case rel => exact ⟨i + 1, by omega, by go_num, _, rfl, HY2.out⟩
          case measure => simp [intOf]; omega
      · obtain rfl : i = n := by omega
        go_wp2
        go_ret2
        exact ⟨by rw [hy.out]; rfl, HB.out⟩
  · have hne : (E != 0) = true := by simpa using h1
    rw [if_neg h1]
    clear hE h1
    go_enter Try.func18, Try.ntmps18
    go_wp2_with fail
    rw [← hw0]
    refine (HC _ (HV.out.below b0)).mono ?_
    rintro e wa ⟨rfl, ha⟩
    have hb := below_then b0 ha
    clear hw0
    go_wp2_with fail
    go_ret2
    exact ⟨rfl, hb⟩
end Go.Proofs.Ytkoblkkigmnocaa
