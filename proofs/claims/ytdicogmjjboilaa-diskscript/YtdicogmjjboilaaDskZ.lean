/- The document's disk: cuts, power, wipes, slots read and written. -/
import Derived.Test.YtdicogmjjboilaaDskY
namespace Go.Proofs.Ytdicogmjjboilaa
open Go.RowKit

section
variable {Y : Nat → Prop} {w : World} {g : Nat} {k r c : Int} {N Q S : Nat} {st : St}
set_option maxHeartbeats 400000 in
theorem SetCut_any (h : Rk w Y g k r c N Q S st) (n : Int) (hn : n ≤ 9223372036854775807) : Calls Try.prog 24 #[.pointer (some ⟨g, 0, none⟩), .int .i64 n] w fun e w' => (n < 0 ∧ e = .returned (.int .i64 2) ∧ w' = w) ∨ (0 ≤ n ∧ e = .returned (.int .i64 0) ∧ Rk w' Y g k r c N Q S (cutSt n.toNat st) ∧ Only Y w w') := by
  obtain ⟨l, cl, wl, A, C, h⟩ := h
  obtain ⟨_, _, _, _, _, _, c6, _⟩ := cells_rk h.blk
  have f := h.blk.free
  have HH : Hid (RkA w Y g l cl wl k r c N Q S A C st) := h
  clear h
  by_cases h0 : n < 0
  · go_enter Try.func24, Try.ntmps24
    go_wp2
    go_ret
    exact .inl ⟨h0, rfl, rfl⟩
  · go_enter Try.func24, Try.ntmps24
    go_wp2
    go_ret
    refine .inr ⟨rfl, ⟨l, cl, wl, A, C, ?_⟩, only_own (only_set (Only.refl _ _) 6 _) HH.out.own⟩
    have hb := HH.out.blk.set 6 (.int .i64 n)
    refine HH.out.reb (st' := cutSt n.toNat st) (only_set (Only.refl _ _) 6 _) ?_ rfl rfl fun m hm => ?_
    · rw [show cv (cutSt n.toNat st).cut = n by show ((n.toNat : Nat) : Int) = n; omega]; exact hb
    · have e : n.toNat = m := Option.some.inj hm
      omega
set_option maxHeartbeats 400000 in
theorem ROn_any (h : Rk w Y g k r c N Q S st) : Calls Try.prog 26 #[.pointer (some ⟨g, 0, none⟩)] w fun e w' => e = .returned (.tuple #[]) ∧ Rk w' Y g k r c N Q S (onSt st) ∧ Only Y w w' := by
  obtain ⟨l, cl, wl, A, C, h⟩ := h
  obtain ⟨_, _, _, _, _, c5, c6, _⟩ := cells_rk h.blk
  have f := h.blk.free
  have HH : Hid (RkA w Y g l cl wl k r c N Q S A C st) := h
  clear h
  go_enter Try.func26, Try.ntmps26
  go_wp2
  refine bodyPost_end (results_none rfl _ _ _) rfl ?_
  refine ⟨rfl, ⟨l, cl, wl, A, C, ?_⟩, only_own (only_set (only_set (Only.refl _ _) 5 _) 6 _) HH.out.own⟩
  exact HH.out.reb (st' := onSt st) (only_set (only_set (Only.refl _ _) 5 _) 6 _) ((HH.out.blk.set 5 _).set 6 _) rfl rfl fun m hm => by cases hm
set_option maxHeartbeats 400000 in
theorem RWhole_any (h : Rk w Y g k r c N Q S st) : Calls Try.prog 28 #[.pointer (some ⟨g, 0, none⟩)] w fun e w' => e = .returned (.tuple #[]) ∧ (∃ Y', Rk w' Y' g k r c N Q S (wholeSt st) ∧ ∀ b, Y' b → Y b ∨ w.heap.size ≤ b) ∧ Only Y w w' := by
  obtain ⟨l, cl, wl, A, C, h⟩ := h
  obtain ⟨_, _, _, _, _, _, _, c7, _⟩ := cells_rk h.blk
  have f := h.blk.free
  have hN := h.pm.bounds.2.1
  obtain ⟨i0, hi, hz0, hz1, hz2⟩ := info_parts info4
  have hmk := run_make_row (P := Try.prog) 77 4 i0 (.bool false) Try.underlying77 hi hz0 hz1 (by rfl) .i64 .i64 N (by rw [hz2]; omega) (by omega) w
  obtain ⟨w0, hw0⟩ : ∃ w0, w0 = w.alloc (.cells (madeCells #[.bool false] N) 4) := ⟨_, rfl⟩
  rw [← hw0] at hmk
  have b0 : Below w.heap.size w w0 := by rw [hw0]; exact below_alloc _ _
  have z0 : w0.heap.size = w.heap.size + 1 := by rw [hw0]; simp
  have HR : Hid (w0.rowIs w.heap.size 4 N (fun _ => .bool false)) := by rw [hw0]; exact World.rowIs_made w _ N 4
  have h0 := h.only (X := fun _ => False) (.of_below b0) (fun _ _ h => h)
  have HH : Hid (RkA w0 Y g l cl wl k r c N Q S A C st) := h0
  have hg : g < w.heap.size := h.lt _ h.own
  have d7 := held c7 b0
  have f0 := h0.blk.free
  have HLT : Hid (∀ b, Y b → b < w.heap.size) := h.lt
  clear h h0 hw0
  go_enter Try.func28, Try.ntmps28
  go_wp2
  refine bodyPost_end (results_none rfl _ _ _) rfl ?_
  have ho := only_set (g := g) (Only.refl (fun b => b = g) w0) 7 (.slice (some ⟨w.heap.size, 0, none⟩) N N)
  have hzf : (w0.setCell ⟨g, 7, none⟩ (.slice (some ⟨w.heap.size, 0, none⟩) N N)).heap.size = w.heap.size + 1 := by simp [World.setCell]; omega
  refine ⟨rfl, ⟨fun b => Y b ∨ b = w.heap.size, ⟨l, cl, w.heap.size, A, C, ?_⟩, fun b hb => ?_⟩, (Only.of_below b0).trans (only_own ho HH.out.own)⟩
  · refine ⟨HH.out.blk.set 7 _, ?_, HR.out.of_block (ho.block w.heap.size (by omega) (by omega)), by omega, .inr rfl, .inl HH.out.own, fun b hb => ?_, HH.out.fit, HH.out.pm, HH.out.cb, HH.out.cap⟩
    · refine (HH.out.sl.only ho (fun b hb => hb.2.1)).mono fun b hb => ⟨.inl hb.1, hb.2.1, ?_⟩
      have := HLT.out b hb.1
      omega
    · rcases hb with hb | hb
      · have := HLT.out b hb; omega
      · omega
  · rcases hb with hb | hb
    · exact .inl hb
    · exact .inr (by omega)
set_option maxHeartbeats 1000000 in
theorem RRead_any (h : Rk w Y g k r c N Q S st) (d o s : Int) : Calls Try.prog 20 #[.pointer (some ⟨g, 0, none⟩), .int .i64 d, .int .i64 o, .int .i64 s] w fun e w' => ∃ ao cap, e = .returned (.tuple #[.slice ao (rdB N Q st d o s).length cap, .int .i64 (rdErr N Q st d o s)]) ∧ RdB w' ao (rdB N Q st d o s) ∧ Below w.heap.size w w' := by
  obtain ⟨l, cl, wl, A, C, h⟩ := h
  obtain ⟨c0, c1, c2, c3, c4, c5, _⟩ := cells_rk h.blk
  have hb := h.pm.bounds
  have HT := There_any h.pm d o s w
  cases ho : st.off
  · rw [ho] at c5
    cases hh : hasB N Q d o s
    · have e1 : rdB N Q st d o s = [] := by unfold rdB; rw [ho, hh]; rfl
      have e2 : rdErr N Q st d o s = 80 := by unfold rdErr; rw [ho, hh]; rfl
      rw [e1, e2]
      rw [show thr N Q d o s = -1 by unfold thr; rw [hh]; rfl] at HT
      generalize N * Q * 2 = n at *
      clear h
      go_enter Try.func20, Try.ntmps20
      go_wp2_with fail
      refine HT.mono ?_
      rintro e wa ⟨rfl, ha⟩
      go_wp2_with fail
      go_ret2
      exact ⟨none, 0, rfl, rdb_nil _ _, ha⟩
    · have e1 : rdB N Q st d o s = st.F (plc Q d o s) := by unfold rdB; rw [ho, hh]; rfl
      have e2 : rdErr N Q st d o s = 0 := by unfold rdErr; rw [ho, hh]; rfl
      have hlt := plc_lt hh
      rw [e1, e2]
      rw [show thr N Q d o s = ((plc Q d o s : Nat) : Int) by unfold thr; rw [if_pos hh]] at HT
      have hfl := h.fit _ hlt
      have HSL : Hid (RSl w (fun b => Y b ∧ b ≠ g ∧ b ≠ wl) l (N * Q * 2) A C st.F) := h.sl
      obtain ⟨n, hn⟩ : ∃ n, n = N * Q * 2 := ⟨_, rfl⟩
      obtain ⟨p, hp⟩ : ∃ p, p = plc Q d o s := ⟨_, rfl⟩
      rw [← hn] at hlt HSL c4
      rw [← hp] at hlt HT hfl ⊢
      have i1 : (0 : Int) ≤ (p : Int) := by omega
      have i2 : (p : Int) < (n : Int) := by omega
      have cl5 := HSL.out.cell p hlt
      have HRD : Hid (RdB w (A p) (st.F p)) := HSL.out.rd p hlt
      have hle : (st.F p).length ≤ 1000 := by omega
      generalize st.F p = X at *
      clear h hn hp hb
      go_enter Try.func20, Try.ntmps20
      go_wp2_with fail
      refine HT.mono ?_
      rintro e wa ⟨rfl, ha⟩
      have d4 := held c4 ha
      have d5 := held cl5 ha
      have HBY := Bytes_any wa (A p) X.length (C p) X (HRD.out.below ha) rfl (by omega)
      clear HSL
      go_wp2_with fail
      refine HBY.mono ?_
      rintro e wb ⟨ao, cap, rfl, h1, _, _, _, h5⟩
      go_wp2_with fail
      go_ret2
      exact ⟨ao, cap, rfl, h1, below_then ha h5⟩
  · have e1 : rdB N Q st d o s = [] := by unfold rdB; rw [ho]; rfl
    have e2 : rdErr N Q st d o s = 9 := by unfold rdErr; rw [ho]; rfl
    rw [e1, e2]
    rw [ho] at c5
    generalize N * Q * 2 = n at *
    clear h HT
    go_enter Try.func20, Try.ntmps20
    go_wp2_with fail
    go_ret2
    exact ⟨none, 0, rfl, rdb_nil _ _, Below.refl _ _⟩
end
theorem rsl_wipe {Y : Nat → Prop} {w : World} {l n : Nat} {A : Nat → Option Addr} {C : Nat → Nat} {F : Nat → List UInt8} (h : RSl w Y l n A C F) (i : Nat) : RSl (w.setCell ⟨l, i, none⟩ (.slice none 0 0)) Y l n (upd i none A) (upd i 0 C) (upd i [] F) :=
  h.put i none 0 [] (rdb_nil _ _) (fun a ha => by cases ha) (fun _ => ⟨rfl, rfl⟩)
def wpu (a m : Nat) (F : Nat → List UInt8) (i : Nat) : List UInt8 := if a ≤ i ∧ i < a + m then [] else F i
theorem wpu_zero (a : Nat) (F : Nat → List UInt8) : wpu a 0 F = F := by funext i; exact if_neg (by omega)
theorem wpu_succ (a m : Nat) (F : Nat → List UInt8) : upd (a + m) [] (wpu a m F) = wpu a (m + 1) F := by
  funext i
  unfold upd wpu
  by_cases e : i = a + m
  · rw [if_pos e, if_pos (by omega)]
  · rw [if_neg e]
    by_cases h : a ≤ i ∧ i < a + m
    · rw [if_pos h, if_pos (by omega)]
    · rw [if_neg h, if_neg (by omega)]
set_option maxHeartbeats 2000000 in
set_option maxRecDepth 100000 in
theorem RWipe_any {Y : Nat → Prop} {w : World} {g : Nat} {k r c : Int} {N Q S : Nat} {st : St} (h : Rk w Y g k r c N Q S st) (d : Int) : Calls Try.prog 22 #[.pointer (some ⟨g, 0, none⟩), .int .i64 d] w fun e w' => (¬ (0 ≤ d ∧ d < (N : Int)) ∧ e = .returned (.int .i64 80) ∧ Below w.heap.size w w') ∨ ((0 ≤ d ∧ d < (N : Int)) ∧ e = .returned (.int .i64 0) ∧ Rk w' Y g k r c N Q S (wipeSt Q d.toNat st) ∧ Only Y w w') := by
  obtain ⟨l, cl, wl, A, C, h⟩ := h
  obtain ⟨c0, c1, c2, c3, c4, c5, c6, c7, c8⟩ := cells_rk h.blk
  obtain ⟨hN1, hN2, hQ1, hQ2, _, _, hn1, hn2⟩ := h.pm.bounds
  have HT := There_any h.pm d 0 0 w
  by_cases hd : 0 ≤ d ∧ d < (N : Int)
  · obtain ⟨m, rfl⟩ := Int.eq_ofNat_of_zero_le hd.1
    have hmN : m < N := by omega
    have hh : hasB N Q (m : Int) 0 0 = true := decide_eq_true ⟨hd, ⟨by omega, by omega⟩, by omega, by omega⟩
    rw [show thr N Q (m : Int) 0 0 = ((plc Q (m : Int) 0 0 : Nat) : Int) by unfold thr; rw [if_pos hh]] at HT
    have HH : Hid (RkA w Y g l cl wl k r c N Q S A C st) := h
    have hle : (m + 1) * Q ≤ N * Q := Nat.mul_le_mul_right Q hmN
    rw [Nat.add_mul, Nat.one_mul] at hle
    obtain ⟨p, hp⟩ : ∃ p, p = m * Q := ⟨_, rfl⟩
    have hv : Value.int .i64 (IntKind.i64.wrap ((m : Int) * (Q : Int))) = .int .i64 (p : Int) := by rw [show (m : Int) * (Q : Int) = ((p : Nat) : Int) by rw [hp]; simp, show IntKind.i64.wrap (p : Int) = (p : Int) by rw [IntKind.wrap_i64]; omega]
    have hv2 : IntKind.i64.wrap ((p : Int) * 2) = (p : Int) * 2 := by rw [IntKind.wrap_i64]; omega
    have HWF : Hid (∀ i, wpu (p * 2) (Q * 2) st.F i = wpF Q m st.F i) := fun i => by
      unfold wpF wpu
      have e2 : (i / (2 * Q) = m) ↔ (p * 2 ≤ i ∧ i < p * 2 + Q * 2) := by
        rw [Nat.div_eq_iff (by omega : 0 < 2 * Q), show m * (2 * Q) = p * 2 by rw [hp, Nat.mul_comm 2 Q, Nat.mul_assoc]]
        omega
      by_cases hq : i / (2 * Q) = m
      · rw [if_pos hq, if_pos (e2.1 hq)]
      · rw [if_neg hq, if_neg (fun h' => hq (e2.2 h'))]
    have hpn : p * 2 + Q * 2 ≤ N * Q * 2 := by omega
    obtain ⟨n, hn⟩ : ∃ n, n = N * Q * 2 := ⟨_, rfl⟩
    have HN : Hid (n = N * Q * 2) := hn
    rw [← hn] at c4 hpn hn2
    obtain ⟨t, htt⟩ : ∃ t, t = plc Q (m : Int) 0 0 := ⟨_, rfl⟩
    rw [← htt] at HT
    have ht0 : ¬ (t : Int) < 0 := by omega
    have ngl := h.ngl
    have nwl := h.nwl
    have ngw := h.ngw
    have HSL : Hid (RSl w (fun b => Y b ∧ b ≠ g ∧ b ≠ wl) l n A C st.F) := by rw [hn]; exact h.sl
    have j1 : (0 : Int) ≤ (m : Int) := by omega
    have j2 : (m : Int) < (N : Int) := by omega
    clear h hp hle hn htt hh
    go_enter Try.func22, Try.ntmps22
    go_wp2_with fail
    refine HT.mono ?_
    rintro e wa ⟨rfl, ha⟩
    have HBA : Hid (Below w.heap.size w wa) := ha
    have HG : Hid (∀ v, Only (fun b => b = l) wa v → v.cell? ⟨g, 3, none⟩ = some (.int .i64 (Q : Int)) ∧ v.cell? ⟨g, 4, none⟩ = some (.slice (some ⟨l, 0, none⟩) n cl) ∧ v.cell? ⟨g, 7, none⟩ = some (.slice (some ⟨wl, 0, none⟩) N N)) := fun v hv => ⟨hv.cell (held c3 ha) ngl, hv.cell (held c4 ha) ngl, hv.cell (held c7 ha) ngl⟩
    have HSA : Hid (RSl wa (fun b => Y b ∧ b ≠ g ∧ b ≠ wl) l n A C st.F) := HSL.out.only (X := fun _ => False) (.of_below ha) (fun _ _ h => h)
    clear ha HT c0 c1 c2 c3 c4 c5 c6 c7 c8
    go_wp2_with fail
    go_loopw [5] (fun x wr => ∃ (i : Nat) (A' : Nat → Option Addr) (C' : Nat → Nat), i ≤ Q * 2 ∧ x = .int .i64 i ∧ Hid (RSl wr (fun b => Y b ∧ b ≠ g ∧ b ≠ wl) l n A' C' (wpu (p * 2) i st.F)) ∧ Hid (Only (fun b => b = l) wa wr)) (fun x _ => Q * 2 - (intOf x).toNat)
    case atStart => exact ⟨0, A, C, Nat.zero_le _, rfl, by rw [wpu_zero]; exact HSA.out, Only.refl _ _⟩
    case round =>
      obtain ⟨i, A', C', hi, rfl, hs, hor⟩ := hrel
      obtain ⟨d3, d4, d7⟩ := HG.out wr hor.out
      by_cases hlt : i < Q * 2
      · have cl5 := hs.out.cell (p * 2 + i) (by omega)
        have clf := hs.out.free (p * 2 + i) (by omega)
        have hv3 : IntKind.i64.wrap ((p : Int) * 2 + (i : Int)) = ((p * 2 + i : Nat) : Int) := by rw [IntKind.wrap_i64]; omega
        have i1 : (0 : Int) ≤ ((p * 2 + i : Nat) : Int) := by omega
        have i2 : ((p * 2 + i : Nat) : Int) < (n : Int) := by omega
        have i3 : (i : Int) < (Q : Int) * 2 := by omega
        obtain ⟨z, hz⟩ : ∃ z, z = p * 2 + i := ⟨_, rfl⟩
        have HZ : Hid (z = p * 2 + i) := hz
        rw [← hz] at cl5 clf hv3 i1 i2
        have y3 : ∀ u, (wr.setCell ⟨l, z, none⟩ u).cell? ⟨g, 3, none⟩ = some (.int .i64 (Q : Int)) := fun u => set_cell d3 ngl u
        have y4 : ∀ u, (wr.setCell ⟨l, z, none⟩ u).cell? ⟨g, 4, none⟩ = some (.slice (some ⟨l, 0, none⟩) n cl) := fun u => set_cell d4 ngl u
        clear hz
        go_wp2_with fail
        go_region_held3 (fun v => v.cell? ⟨g, 3, none⟩ = some (.int .i64 (Q : Int)) ∧ v.cell? ⟨g, 4, none⟩ = some (.slice (some ⟨l, 0, none⟩) n cl)) (go_keep) (fail)
        all_goals go_wp2_with fail
        all_goals go_roundw
        case rel =>
          refine ⟨i + 1, upd z none A', upd z 0 C', by omega, by go_num, ?_, ?_⟩
          · show RSl _ _ _ _ _ _ _
            rw [← wpu_succ, ← HZ.out]
            exact (rsl_wipe hs.out z).only (X := fun _ => False) (.of_below (below_drew _ _)) (fun _ _ h => h)
          · exact (only_set hor.out z _).drew
        case measure => simp [intOf]; omega
      · obtain rfl : i = Q * 2 := by omega
        have i3 : ¬ ((Q * 2 : Nat) : Int) < (Q : Int) * 2 := by omega
        have hrw := (HH.out.only (X := fun _ => False) (.of_below HBA.out) (fun _ _ h => h)).row.of_block (hor.out.block wl (Nat.lt_of_lt_of_le (HH.out.lt _ HH.out.ownw) HBA.out.size) nwl)
        have cw := hrw.cell hmN
        have cf := hrw.frozen m
        have HRW : Hid (wr.rowIs wl 4 N (fun i => .bool (st.gone i))) := hrw
        clear hrw
        go_wp2_with fail
        go_ret
        have h0 := HH.out.only (X := fun _ => False) (.of_below HBA.out) (fun _ _ h => h)
        have ho2 : Only (fun b => b = wl) wr (wr.setCell ⟨wl, m, none⟩ (.bool true)) := only_set (Only.refl _ _) m _
        have hN := HN.out
        subst hN
        refine ⟨rfl, ⟨l, cl, wl, A', C', ?_⟩, ?_⟩
        · refine ⟨(h0.blk.only hor.out ngl).only ho2 ngw, ?_, (HRW.out.set m _).congr fun j hj => ?_, ngw, h0.ownw, h0.own, fun b hb => ?_, fit_wipe Q m h0.fit, h0.pm, h0.cb, h0.cap⟩
          · exact (hs.out.only ho2 (fun b hb => hb.2.2)).congr fun j _ => HWF.out j
          · show _ = Value.bool (upd m true st.gone j)
            unfold upd
            by_cases e : j = m
            · rw [if_pos e, if_pos e]
            · rw [if_neg e, if_neg e]
          · exact Nat.lt_of_lt_of_le (h0.lt b hb) (Nat.le_trans hor.out.size ho2.size)
        · exact ((Only.of_below HBA.out).trans (hor.out.mono fun b _ e => e ▸ h0.sl.own.1)).trans (ho2.mono fun b _ e => e ▸ h0.ownw)
  · have hh : hasB N Q d 0 0 = false := decide_eq_false fun h => hd h.1
    rw [show thr N Q d 0 0 = -1 by unfold thr; rw [hh]; rfl] at HT
    generalize N * Q * 2 = n at *
    clear h
    go_enter Try.func22, Try.ntmps22
    go_wp2_with fail
    refine HT.mono ?_
    rintro e wa ⟨rfl, ha⟩
    go_wp2_with fail
    go_ret
    exact .inl ⟨hd, rfl, ha⟩
end Go.Proofs.Ytdicogmjjboilaa
