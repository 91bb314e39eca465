/- The document's disk: raw writes. -/
import Derived.Test.YtdicogmjjboilaaDskZ
import Derived.Test.YtdicogmjjboilaaDskN
namespace Go.Proofs.Ytdicogmjjboilaa
open Go.RowKit

theorem RkA.putted {Y : Nat → Prop} {v wp : World} {g l cl wl : Nat} {k r c : Int} {N Q S : Nat} {A A' : Nat → Option Addr} {C C' : Nat → Nat} {st : St} {F' : Nat → List UInt8} (h : RkA v Y g l cl wl k r c N Q S A C st)
    (hs : RSl wp (fun x => (Y x ∧ x ≠ g ∧ x ≠ wl) ∨ (v.heap.size ≤ x ∧ x < wp.heap.size)) l (N * Q * 2) A' C' F') (ho : Only (fun x => x = l) v wp) (hf : Fit (N * Q * 2) S F') : RkA wp (fun x => Y x ∨ (v.heap.size ≤ x ∧ x < wp.heap.size)) g l cl wl k r c N Q S A' C' { st with F := F' } := by
  have hg := h.lt _ h.own
  have hw := h.lt _ h.ownw
  refine ⟨h.blk.only ho h.ngl, hs.mono fun b hb => ?_, h.row.of_block (ho.block wl h.row.lt h.nwl), h.ngw, .inl h.ownw, .inl h.own, fun b hb => ?_, hf, h.pm, h.cb, h.cap⟩
  · rcases hb with h1 | h1
    · exact ⟨.inl h1.1, h1.2⟩
    · exact ⟨.inr h1, by omega, by omega⟩
  · rcases hb with h1 | h1
    · exact Nat.lt_of_lt_of_le (h.lt b h1) ho.size
    · exact h1.2
/-- What a raw write of the document's disk ends in. -/
def WrR (w : World) (Y : Nat → Prop) (g : Nat) (k r c : Int) (N Q S : Nat) (y : Int × St) (e : Ending) (w' : World) : Prop :=
  e = .returned (.int .i64 y.1) ∧ (∃ Y', Rk w' Y' g k r c N Q S y.2 ∧ ∀ b, Y' b → Y b ∨ w.heap.size ≤ b) ∧ Only Y w w'
section
variable {Y : Nat → Prop} {w : World} {g : Nat} {k r c : Int} {N Q S : Nat} {st : St}
set_option maxHeartbeats 4000000 in
set_option maxRecDepth 100000 in
theorem RWrite_any (h : Rk w Y g k r c N Q S st) (d o s : Int) (ao : Option Addr) (m cp : Nat) (b : List UInt8) (hm : m = b.length) (hmx : m ≤ 9223372036854775807) (hr : RdB w ao b) (hy : b ≠ [] → ∀ a, ao = some a → ¬ Y a.block) :
    Calls Try.prog 47 #[.pointer (some ⟨g, 0, none⟩), .agg #[.int .i64 d, .int .i64 o, .int .i64 s, .slice ao m cp]] w (WrR w Y g k r c N Q S (wr1 N Q S st ⟨d, o, s, b⟩)) := by
  obtain ⟨w0, hw0⟩ : ∃ w0, w0 = w.alloc (.cells #[.int .i64 d, .int .i64 o, .int .i64 s, .slice ao m cp] 45) := ⟨_, rfl⟩
  have b0 : Below w.heap.size w w0 := by rw [hw0]; exact below_alloc _ _
  have z0 : w0.heap.size = w.heap.size + 1 := by rw [hw0]; simp
  obtain ⟨l, cl, wl, A, C, h⟩ := h
  have h0 := h.only (X := fun _ => False) (.of_below b0) (fun _ _ h => h)
  obtain ⟨n, hn⟩ : ∃ n, n = N * Q * 2 := ⟨_, rfl⟩
  have HN : Hid (n = N * Q * 2) := hn
  have SGG : Hid (∀ v, Below w0.heap.size w0 v → v.cell? ⟨g, 0, none⟩ = some (.int .i64 k) ∧ v.cell? ⟨g, 1, none⟩ = some (.int .i64 r) ∧ v.cell? ⟨g, 2, none⟩ = some (.int .i64 c) ∧ v.cell? ⟨g, 3, none⟩ = some (.int .i64 (Q : Int)) ∧ v.cell? ⟨g, 4, none⟩ = some (.slice (some ⟨l, 0, none⟩) n cl) ∧ v.cell? ⟨g, 5, none⟩ = some (.bool st.off) ∧ v.cell? ⟨g, 6, none⟩ = some (.int .i64 (cv st.cut)) ∧ v.cell? ⟨g, 8, none⟩ = some (.int .i64 st.wr)) := fun v hv => by
    obtain ⟨e0, e1, e2, e3, e4, e5, e6, _, e8⟩ := cells_rk (h0.blk.below hv)
    rw [hn]
    exact ⟨e0, e1, e2, e3, e4, e5, e6, e8⟩
  have SX : Hid (∀ v, Below w0.heap.size w0 v → v.cell? ⟨w.heap.size, 0, none⟩ = some (.int .i64 d) ∧ v.cell? ⟨w.heap.size, 1, none⟩ = some (.int .i64 o) ∧ v.cell? ⟨w.heap.size, 2, none⟩ = some (.int .i64 s) ∧ v.cell? ⟨w.heap.size, 3, none⟩ = some (.slice ao m cp)) := fun v hv => x_held hw0 hv
  obtain ⟨s0, s1, s2, s3⟩ := SX.out w0 (Below.refl _ _)
  obtain ⟨a0, a1, a2, a3, a4, a5, _, _⟩ := SGG.out w0 (Below.refl _ _)
  have hg : g < w.heap.size := h.lt _ h.own
  have hlw : l < w.heap.size := h.lt _ h.sl.own.1
  have hS2 : S ≤ 140 := h.pm.bounds.2.2.2.2.2.1
  have HT := fun w' => There_any h.pm d o s w'
  have HZ := fun w' => Size_any h.pm w'
  have k5 : ∀ o, (w.alloc o).cell? ⟨g, 5, none⟩ = some (.bool st.off) := fun o => held (cells_rk h.blk).2.2.2.2.2.1 (below_alloc w o)
  have HM : Hid (m = b.length) := hm
  have HH : Hid (RkA w Y g l cl wl k r c N Q S A C st) := h
  cases hoff : st.off
  · rw [hoff] at k5
    cases hh : hasB N Q d o s
    · rw [show thr N Q d o s = -1 by unfold thr; rw [hh]; rfl] at HT
      have HE : Hid (wr1 N Q S st ⟨d, o, s, b⟩ = (80, st)) := by show _ = _; unfold wr1; rw [if_neg (by rw [hoff]; decide), if_neg (by unfold takB; rw [hh, Bool.false_and]; decide)]
      rw [HE.out]
      clear h h0 hr hy hm hn
      go_enter Try.func47, Try.ntmps47
      go_wp2_with fail
      rw [← hw0]
      clear hw0
      go_region_held3 (fun v => v.cell? ⟨w.heap.size, 0, none⟩ = some (.int .i64 d) ∧ v.cell? ⟨w.heap.size, 1, none⟩ = some (.int .i64 o) ∧ v.cell? ⟨w.heap.size, 2, none⟩ = some (.int .i64 s) ∧ v.cell? ⟨w.heap.size, 3, none⟩ = some (.slice ao m cp) ∧ v.cell? ⟨g, 0, none⟩ = some (.int .i64 k) ∧ v.cell? ⟨g, 1, none⟩ = some (.int .i64 r) ∧ v.cell? ⟨g, 2, none⟩ = some (.int .i64 c) ∧ v.cell? ⟨g, 3, none⟩ = some (.int .i64 (Q : Int)) ∧ v.cell? ⟨g, 4, none⟩ = some (.slice (some ⟨l, 0, none⟩) n cl)) (go_keep)
        ((go_at_call 50; refine (HT w0.drew).mono ?_; rintro e wa ⟨rfl, ha⟩; obtain ⟨q0, q1, q2, q3⟩ := SX.out _ (of_drew ha); obtain ⟨x0, x1, x2, x3, x4, x5, x6, x8⟩ := SGG.out _ (of_drew ha); have HBA : Hid (Below w0.heap.size w0 wa) := of_drew ha; clear ha))
      all_goals go_wp2_with fail
      all_goals
        clear a0 a1 a2 a3 a4 s0 s1 s2 s3
        refine wp_region_held_drew (S := fun v => v.cell? ⟨w.heap.size, 0, none⟩ = some (.int .i64 d) ∧ v.cell? ⟨w.heap.size, 1, none⟩ = some (.int .i64 o)) (by kernel_rfl) ⟨q0, q1⟩ (fun hHeld => ?_)
        refine wpAnyH_take (i := 0) (oi := _) (v := .int .i64 (-1)) rfl (by kernel_rfl) (by kernel_rfl) (by kernel_rfl) (fun _ _ _ h => h) (Or.inl ⟨by rfl, ?_⟩) (by assumption) ?_
        · intro w' hSw
          try dsimp only at hSw
          go_simp <;> first | with_reducible rfl | assumption
        simp only [Act.put]
        refine wpAnyH_take (i := 1) (oi := _) (v := .bool true) rfl (by kernel_rfl) (by kernel_rfl) (by kernel_rfl) (fun _ _ _ h => h) (Or.inl ⟨by rfl, ?_⟩) (by assumption) ?_
        · intro w' hSw
          try dsimp only at hSw
          go_simp <;> first | with_reducible rfl | assumption
        simp only [Act.put]
        refine wpAnyH_take (i := 2) (oi := _) (v := .bool true) rfl (by kernel_rfl) (by kernel_rfl) (by kernel_rfl) (fun _ _ _ h => h) (Or.inl ⟨by rfl, ?_⟩) (by assumption) ?_
        · intro w' hSw
          try dsimp only at hSw
          go_simp <;> first | with_reducible rfl | assumption
        simp only [Act.put]
        refine wpAnyH_take (i := 3) (oi := _) (v := undef) rfl (by kernel_rfl) (by kernel_rfl) (by kernel_rfl) (fun _ _ _ h => h) (Or.inr ⟨by kernel_rfl, rfl⟩) (by assumption) ?_
        simp only [Act.put]
        refine wpAnyH_take (i := 4) (oi := _) (v := undef) rfl (by kernel_rfl) (by kernel_rfl) (by kernel_rfl) (fun _ _ _ h => h) (Or.inr ⟨by kernel_rfl, rfl⟩) (by assumption) ?_
        simp only [Act.put]
        refine wpAnyH_take (i := 5) (oi := _) (v := undef) rfl (by kernel_rfl) (by kernel_rfl) (by kernel_rfl) (fun _ _ _ h => h) (Or.inr ⟨by kernel_rfl, rfl⟩) (by assumption) ?_
        simp only [Act.put]
        refine wpAnyH_take (i := 6) (oi := _) (v := undef) rfl (by kernel_rfl) (by kernel_rfl) (by kernel_rfl) (fun _ _ _ h => h) (Or.inr ⟨by kernel_rfl, rfl⟩) (by assumption) ?_
        simp only [Act.put]
        refine wpAnyH_take (i := 7) (oi := _) (v := undef) rfl (by kernel_rfl) (by kernel_rfl) (by kernel_rfl) (fun _ _ _ h => h) (Or.inr ⟨by kernel_rfl, rfl⟩) (by assumption) ?_
        simp only [Act.put]
        refine wpAnyH_take (i := 8) (oi := _) (v := undef) rfl (by kernel_rfl) (by kernel_rfl) (by kernel_rfl) (fun _ _ _ h => h) (Or.inr ⟨by kernel_rfl, rfl⟩) (by assumption) ?_
        simp only [Act.put]
        refine wpAnyH_take (i := 9) (oi := _) (v := undef) rfl (by kernel_rfl) (by kernel_rfl) (by kernel_rfl) (fun _ _ _ h => h) (Or.inr ⟨by kernel_rfl, rfl⟩) (by assumption) ?_
        simp only [Act.put]
        refine wpAnyH_take (i := 10) (oi := _) (v := undef) rfl (by kernel_rfl) (by kernel_rfl) (by kernel_rfl) (fun _ _ _ h => h) (Or.inr ⟨by kernel_rfl, rfl⟩) (by assumption) ?_
        simp only [Act.put]
        refine wpAnyH_ready (rs := [11]) (by kernel_rfl) (by simp) ?_
        refine AllReadyH.cons (o := _) rfl (fun K hK => ?_) AllReadyH.nil
        go_simp
        refine hK.out _ _ ⟨q0, q1⟩ (fun hHeld => ?_)
        clear hK K
        try simp only [Act.put]
        refine wpAnyH_take (i := 12) (oi := _) (v := undef) rfl (by kernel_rfl) (by kernel_rfl) (by kernel_rfl) (fun _ _ _ h => h) (Or.inr ⟨by kernel_rfl, rfl⟩) (by assumption) ?_
        simp only [Act.put]
        refine wpAnyH_take (i := 13) (oi := _) (v := .bool true) rfl (by kernel_rfl) (by kernel_rfl) (by kernel_rfl) (fun _ _ _ h => h) (Or.inl ⟨by rfl, ?_⟩) (by assumption) ?_
        · intro w' hSw
          try dsimp only at hSw
          go_simp <;> first | with_reducible rfl | assumption
        simp only [Act.put]
        refine wpAnyH_done (by kernel_rfl) ?_ _
        go_wp2_with fail
        go_ret
        have hB := below_then b0 HBA.out
        exact ⟨rfl, ⟨Y, ⟨l, cl, wl, A, C, HH.out.only (X := fun _ => False) (.of_below (hB.drew)) (fun _ _ h => h)⟩, fun b hb => .inl hb⟩, .of_below hB.drew⟩
    · rw [show thr N Q d o s = ((plc Q d o s : Nat) : Int) by unfold thr; rw [if_pos hh]] at HT
      have hlt := plc_lt hh
      obtain ⟨p, hp⟩ : ∃ p, p = plc Q d o s := ⟨_, rfl⟩
      have HPP : Hid (p = plc Q d o s) := hp
      rw [← hn] at hlt
      rw [← hp] at HT hlt
      have i0 : ¬ (p : Int) < 0 := by omega
      have i1 : (0 : Int) ≤ (p : Int) := by omega
      have i2 : (p : Int) < (n : Int) := by omega
      by_cases hbl : b.length = S
      · have hmS : ((m : Int) != (S : Int)) = false := by simp; omega
        have htk : takB N Q S ⟨d, o, s, b⟩ = true := by unfold takB; rw [hh]; exact decide_eq_true hbl
        have HF2 : Hid (Fit (N * Q * 2) S (upd p b st.F)) := fun i hi => by
          by_cases e : i = p
          · subst e; rw [upd_at]; exact .inr hbl
          · rw [upd_ne _ _ e]; exact h.fit i hi
        have HY : Hid (b ≠ [] → ∀ a, ao = some a → ¬ a.block = g) := fun hb a ha e => hy hb a ha (e ▸ h.own)
        have HR : Hid (RdB w ao b) := hr
        have hcb := h.cb
        clear h h0 hr hy hm hn hp hbl
        go_enter Try.func47, Try.ntmps47
        go_wp2_with fail
        rw [← hw0]
        clear hw0
        go_region_held3 (fun v => v.cell? ⟨w.heap.size, 0, none⟩ = some (.int .i64 d) ∧ v.cell? ⟨w.heap.size, 1, none⟩ = some (.int .i64 o) ∧ v.cell? ⟨w.heap.size, 2, none⟩ = some (.int .i64 s) ∧ v.cell? ⟨w.heap.size, 3, none⟩ = some (.slice ao m cp) ∧ v.cell? ⟨g, 0, none⟩ = some (.int .i64 k) ∧ v.cell? ⟨g, 1, none⟩ = some (.int .i64 r) ∧ v.cell? ⟨g, 2, none⟩ = some (.int .i64 c) ∧ v.cell? ⟨g, 3, none⟩ = some (.int .i64 (Q : Int)) ∧ v.cell? ⟨g, 4, none⟩ = some (.slice (some ⟨l, 0, none⟩) n cl)) (go_keep)
          ((go_at_call 50; refine (HT w0.drew).mono ?_; rintro e wa ⟨rfl, ha⟩; obtain ⟨q0, q1, q2, q3⟩ := SX.out _ (of_drew ha); obtain ⟨x0, x1, x2, x3, x4, x5, x6, x8⟩ := SGG.out _ (of_drew ha); have HBA : Hid (Below w0.heap.size w0 wa) := of_drew ha; clear ha))
        all_goals go_wp2_with fail
        all_goals
          clear a0 a1 a2 a3 a4 s0 s1 s2 s3
        go_region_held3 (fun v => v.cell? ⟨w.heap.size, 0, none⟩ = some (.int .i64 d) ∧ v.cell? ⟨w.heap.size, 1, none⟩ = some (.int .i64 o) ∧ v.cell? ⟨w.heap.size, 2, none⟩ = some (.int .i64 s) ∧ v.cell? ⟨w.heap.size, 3, none⟩ = some (.slice ao m cp) ∧ v.cell? ⟨g, 0, none⟩ = some (.int .i64 k) ∧ v.cell? ⟨g, 1, none⟩ = some (.int .i64 r) ∧ v.cell? ⟨g, 2, none⟩ = some (.int .i64 c) ∧ v.cell? ⟨g, 3, none⟩ = some (.int .i64 (Q : Int)) ∧ v.cell? ⟨g, 4, none⟩ = some (.slice (some ⟨l, 0, none⟩) n cl)) (go_keep)
          ((go_at_call 44; refine (HZ _).mono ?_; rintro e wc ⟨rfl, hc⟩; have hc' := below_then HBA.out (of_drew hc); have HBX : Hid (Below w0.heap.size w0 wc) := hc'; clear q0 q1 q2 q3 x0 x1 x2 x3 x4 x5 x6 x8; obtain ⟨q0, q1, q2, q3⟩ := SX.out _ hc'; obtain ⟨x0, x1, x2, x3, x4, x5, x6, x8⟩ := SGG.out _ hc'; clear hc hc'))
        all_goals
          have HBC : Hid (Below w.heap.size w wc) := below_then b0 HBX.out
          have h1 := HH.out.only (X := fun _ => False) (.of_below HBC.out) (fun _ _ h => h)
          have H1 : Hid (RkA wc Y g l cl wl k r c N Q S A C st) := h1
          have f := h1.blk.free
          have hza := HBC.out.size
          have HRa : Hid (RdB wc ao b) := HR.out.below HBC.out
          clear h1
        cases hc : st.cut with
        | none =>
          have HE : Hid (wr1 N Q S st ⟨d, o, s, b⟩ = (0, { st with F := upd (plc Q d o s) b st.F, wr := wrap64 (st.wr + 1) })) := by show _ = _; unfold wr1; rw [if_neg (by rw [hoff]; decide), if_pos htk, hc]
          rw [hc] at x6
          replace x6 : wc.cell? ⟨g, 6, none⟩ = some (.int .i64 (-1)) := x6
          clear hcb htk
          go_wp2_with fail
          have HO1 : Hid (Only (fun b => b = g) wc wc) := Only.refl _ _
          have HV : Hid (RkA wc Y g l cl wl k r c N Q S A C st) := H1.out
          have hzv : wc.heap.size = wc.heap.size := rfl
          have HRv : Hid (RdB wc ao b) := HRa.out
          obtain ⟨v0, v1, v2, v3⟩ : wc.cell? ⟨w.heap.size, 0, none⟩ = some (.int .i64 d) ∧ wc.cell? ⟨w.heap.size, 1, none⟩ = some (.int .i64 o) ∧ wc.cell? ⟨w.heap.size, 2, none⟩ = some (.int .i64 s) ∧ wc.cell? ⟨w.heap.size, 3, none⟩ = some (.slice ao m cp) := ⟨q0, q1, q2, q3⟩
          clear x0 x1 x2 x3 x4 x5 x6 x8 q0 q1 q2 q3 f
          obtain ⟨_, _, _, _, y4, _, _, _, y8⟩ := cells_rk HV.out.blk
          rw [← HN.out] at y4
          have HSV : Hid (RSl wc (fun b => Y b ∧ b ≠ g ∧ b ≠ wl) l n A C st.F) := by rw [HN.out]; exact HV.out.sl
          have cl5 := HSV.out.cell p hlt
          have clf := HSV.out.free p hlt
          have HBY : Hid (Calls Try.prog 16 #[.slice ao m cp] wc.drew fun e w' => ∃ ao' cap', e = .returned (.slice ao' b.length cap') ∧ RdB w' ao' b ∧ (∀ a, ao' = some a → wc.heap.size ≤ a.block ∧ a.block < w'.heap.size) ∧ (ao' = none → b = [] ∧ cap' = 0) ∧ Wrb w' ao' b.length cap' ∧ Below wc.drew.heap.size wc.drew w') := Bytes_any wc.drew ao m cp b (HRv.out.below (below_drew _ _)) HM.out hmx
          go_region_held3 (fun v => v.cell? ⟨w.heap.size, 0, none⟩ = some (.int .i64 d) ∧ v.cell? ⟨w.heap.size, 1, none⟩ = some (.int .i64 o) ∧ v.cell? ⟨w.heap.size, 2, none⟩ = some (.int .i64 s) ∧ v.cell? ⟨w.heap.size, 3, none⟩ = some (.slice ao m cp) ∧ v.cell? ⟨g, 4, none⟩ = some (.slice (some ⟨l, 0, none⟩) n cl)) (go_keep)
            ((go_at_call 16; refine HBY.out.mono ?_; rintro e wp ⟨an, cn, rfl, hb1, hb2, hb3, _, hb5⟩; have p0 := held v0 (of_drew hb5); have p1 := held v1 (of_drew hb5); have p2 := held v2 (of_drew hb5); have p3 := held v3 (of_drew hb5); have p4 := held y4 (of_drew hb5); have p8 := held y8 (of_drew hb5); have u5 := held cl5 (of_drew hb5); have uf := (RSl.only HSV.out (X := fun _ => False) (.of_below (of_drew hb5)) (fun _ _ h => h)).free p hlt; have z0 := fun u => set_cell (l := l) (p := p) p0 (by show w.heap.size ≠ l; omega) u; have z1 := fun u => set_cell (l := l) (p := p) p1 (by show w.heap.size ≠ l; omega) u; have z2 := fun u => set_cell (l := l) (p := p) p2 (by show w.heap.size ≠ l; omega) u; have z3 := fun u => set_cell (l := l) (p := p) p3 (by show w.heap.size ≠ l; omega) u; have z4 := fun u => set_cell (l := l) (p := p) p4 HV.out.ngl u; have z8 := fun u => set_cell (l := l) (p := p) p8 HV.out.ngl u; have HR1 : Hid (RdB wp an b) := hb1; have HR2 : Hid (∀ a, an = some a → wc.heap.size ≤ a.block ∧ a.block < wp.heap.size) := hb2; have HR3 : Hid (an = none → b = [] ∧ cn = 0) := hb3; have HBP : Hid (Below wc.heap.size wc wp) := of_drew hb5; have zf : ∀ u, (wp.setCell ⟨l, p, none⟩ u).frozen? ⟨g, 8, none⟩ = false := (fun u => (frozen_setC _ _ _ _).trans ((HV.out.blk.below (of_drew hb5)).free 8)); clear hb1 hb2 hb3 hb5))
          all_goals go_wp2_with fail
          all_goals go_ret
          all_goals
            have hlp : l < wc.heap.size := HV.out.lt _ HV.out.sl.own.1
            have hsz : ∀ u, (wp.setCell ⟨l, p, none⟩ u).heap.size = wp.heap.size := fun u => by simp [World.setCell]
            obtain ⟨wq, hwq⟩ : ∃ wq, wq = wp.setCell ⟨l, p, none⟩ (.slice an b.length cn) := ⟨_, rfl⟩
            have HS2 : RSl wq (fun x => (Y x ∧ x ≠ g ∧ x ≠ wl) ∨ (wc.heap.size ≤ x ∧ x < wq.heap.size)) l n (upd p an A) (upd p cn C) (upd p b st.F) := by
              rw [hwq, hsz]
              refine ((HSV.out.only (X := fun _ => False) (.of_below HBP.out) (fun _ _ h => h)).mono (Z := fun x => (Y x ∧ x ≠ g ∧ x ≠ wl) ∨ (wc.heap.size ≤ x ∧ x < wp.heap.size)) (fun x hx => .inl hx)).put p an cn b HR1.out (fun a ha => ?_) HR3.out
              have := HR2.out a ha
              exact ⟨.inr this, by omega⟩
            have HO2 : Only (fun x => x = l) wc wq := by rw [hwq]; exact Only.setCell (X := fun x => x = l) (p := ⟨l, p, none⟩) (.of_below HBP.out) rfl _
            rw [HN.out] at HS2
            have h2 : RkA wq (fun x => Y x ∨ (wc.heap.size ≤ x ∧ x < wq.heap.size)) g l cl wl k r c N Q S (upd p an A) (upd p cn C) { st with F := upd p b st.F } := HV.out.putted HS2 HO2 HF2.out
            rw [← hwq]
            rw [HE.out]
            refine ⟨rfl, ⟨fun x => Y x ∨ (wc.heap.size ≤ x ∧ x < wq.heap.size), ⟨l, cl, wl, upd p an A, upd p cn C, ?_⟩, fun x hx => ?_⟩, ?_⟩
            · exact (h2.reb (st' := _) (only_set (Only.refl _ _) 8 _) (h2.blk.set 8 _) (by rw [HPP.out]) rfl h2.cb)
            · rcases hx with hx | hx
              · exact .inl hx
              · exact .inr (by omega)
            · exact (((Only.of_below HBC.out).trans (only_own HO1.out H1.out.own)).trans (HO2.mono fun x _ e => e ▸ HV.out.sl.own.1)).trans (only_own (only_set (Only.refl _ _) 8 _) HV.out.own)
        | some j' =>
          cases j' with
          | zero =>
            have HE : Hid (wr1 N Q S st ⟨d, o, s, b⟩ = (9, { st with off := true, cut := none })) := by show _ = _; unfold wr1; rw [if_neg (by rw [hoff]; decide), if_pos htk, hc]
            rw [hc] at x6
            replace x6 : wc.cell? ⟨g, 6, none⟩ = some (.int .i64 0) := x6
            clear hcb htk
            go_wp2_with fail
            go_ret
            rw [HE.out]
            refine ⟨rfl, ⟨Y, ⟨l, cl, wl, A, C, ?_⟩, fun b hb => .inl hb⟩, (Only.of_below HBC.out).trans (only_own (only_set (only_set (Only.refl _ _) 6 _) 5 _) H1.out.own)⟩
            exact H1.out.reb (st' := { st with off := true, cut := none }) (only_set (only_set (Only.refl _ _) 6 _) 5 _) ((H1.out.blk.set 6 _).set 5 _) rfl rfl fun m hm => by cases hm
          | succ j =>
            have HE : Hid (wr1 N Q S st ⟨d, o, s, b⟩ = (0, { st with F := upd (plc Q d o s) b st.F, cut := some j, wr := wrap64 (st.wr + 1) })) := by show _ = _; unfold wr1; rw [if_neg (by rw [hoff]; decide), if_pos htk, hc]
            rw [hc] at x6
            replace x6 : wc.cell? ⟨g, 6, none⟩ = some (.int .i64 ((j + 1 : Nat) : Int)) := x6
            have hjb := hcb (j + 1) hc
            obtain ⟨jj, hjj⟩ : ∃ jj : Int, jj = ((j + 1 : Nat) : Int) := ⟨_, rfl⟩
            have HJJ : Hid (jj = ((j + 1 : Nat) : Int)) := hjj
            rw [← hjj] at x6
            have l1 : 1 ≤ jj := by omega
            have l2 : jj ≤ 9223372036854775807 := by omega
            have l3 : (jj == 0) = false := by simp; omega
            clear hcb htk hjj
            go_wp2_with fail
            obtain ⟨wv, hwv⟩ : ∃ wv, wv = wc.setCell ⟨g, 6, none⟩ (.int .i64 (jj - 1)) := ⟨_, rfl⟩
            rw [← hwv]
            have HO1 : Hid (Only (fun b => b = g) wc wv) := by rw [hwv]; exact only_set (Only.refl _ _) 6 _
            have HV : Hid (RkA wv Y g l cl wl k r c N Q S A C { st with cut := some j }) := by
              have hb2 := H1.out.blk.set 6 (.int .i64 (jj - 1))
              rw [← hwv] at hb2
              refine H1.out.reb (st' := { st with cut := some j }) HO1.out ?_ rfl rfl fun z hz => by have e := Option.some.inj hz; omega
              rw [show cv (some j) = jj - 1 by show (j : Int) = _; have := HJJ.out; omega]
              exact hb2
            have hzv : wv.heap.size = wc.heap.size := by rw [hwv]; simp [World.setCell]
            have HRv : Hid (RdB wv ao b) := HRa.out.only2 HO1.out HY.out
            have v0 := HO1.out.cell q0 (by show ¬ w.heap.size = g; omega)
            have v1 := HO1.out.cell q1 (by show ¬ w.heap.size = g; omega)
            have v2 := HO1.out.cell q2 (by show ¬ w.heap.size = g; omega)
            have v3 := HO1.out.cell q3 (by show ¬ w.heap.size = g; omega)
            clear hwv x0 x1 x2 x3 x4 x5 x6 x8 q0 q1 q2 q3 f
            obtain ⟨_, _, _, _, y4, _, _, _, y8⟩ := cells_rk HV.out.blk
            rw [← HN.out] at y4
            have HSV : Hid (RSl wv (fun b => Y b ∧ b ≠ g ∧ b ≠ wl) l n A C st.F) := by rw [HN.out]; exact HV.out.sl
            have cl5 := HSV.out.cell p hlt
            have clf := HSV.out.free p hlt
            have HBY : Hid (Calls Try.prog 16 #[.slice ao m cp] wv.drew fun e w' => ∃ ao' cap', e = .returned (.slice ao' b.length cap') ∧ RdB w' ao' b ∧ (∀ a, ao' = some a → wv.heap.size ≤ a.block ∧ a.block < w'.heap.size) ∧ (ao' = none → b = [] ∧ cap' = 0) ∧ Wrb w' ao' b.length cap' ∧ Below wv.drew.heap.size wv.drew w') := Bytes_any wv.drew ao m cp b (HRv.out.below (below_drew _ _)) HM.out hmx
            go_region_held3 (fun v => v.cell? ⟨w.heap.size, 0, none⟩ = some (.int .i64 d) ∧ v.cell? ⟨w.heap.size, 1, none⟩ = some (.int .i64 o) ∧ v.cell? ⟨w.heap.size, 2, none⟩ = some (.int .i64 s) ∧ v.cell? ⟨w.heap.size, 3, none⟩ = some (.slice ao m cp) ∧ v.cell? ⟨g, 4, none⟩ = some (.slice (some ⟨l, 0, none⟩) n cl)) (go_keep)
              ((go_at_call 16; refine HBY.out.mono ?_; rintro e wp ⟨an, cn, rfl, hb1, hb2, hb3, _, hb5⟩; have p0 := held v0 (of_drew hb5); have p1 := held v1 (of_drew hb5); have p2 := held v2 (of_drew hb5); have p3 := held v3 (of_drew hb5); have p4 := held y4 (of_drew hb5); have p8 := held y8 (of_drew hb5); have u5 := held cl5 (of_drew hb5); have uf := (RSl.only HSV.out (X := fun _ => False) (.of_below (of_drew hb5)) (fun _ _ h => h)).free p hlt; have z0 := fun u => set_cell (l := l) (p := p) p0 (by show w.heap.size ≠ l; omega) u; have z1 := fun u => set_cell (l := l) (p := p) p1 (by show w.heap.size ≠ l; omega) u; have z2 := fun u => set_cell (l := l) (p := p) p2 (by show w.heap.size ≠ l; omega) u; have z3 := fun u => set_cell (l := l) (p := p) p3 (by show w.heap.size ≠ l; omega) u; have z4 := fun u => set_cell (l := l) (p := p) p4 HV.out.ngl u; have z8 := fun u => set_cell (l := l) (p := p) p8 HV.out.ngl u; have HR1 : Hid (RdB wp an b) := hb1; have HR2 : Hid (∀ a, an = some a → wv.heap.size ≤ a.block ∧ a.block < wp.heap.size) := hb2; have HR3 : Hid (an = none → b = [] ∧ cn = 0) := hb3; have HBP : Hid (Below wv.heap.size wv wp) := of_drew hb5; have zf : ∀ u, (wp.setCell ⟨l, p, none⟩ u).frozen? ⟨g, 8, none⟩ = false := (fun u => (frozen_setC _ _ _ _).trans ((HV.out.blk.below (of_drew hb5)).free 8)); clear hb1 hb2 hb3 hb5))
            all_goals go_wp2_with fail
            all_goals go_ret
            all_goals
              have hlp : l < wv.heap.size := HV.out.lt _ HV.out.sl.own.1
              have hsz : ∀ u, (wp.setCell ⟨l, p, none⟩ u).heap.size = wp.heap.size := fun u => by simp [World.setCell]
              obtain ⟨wq, hwq⟩ : ∃ wq, wq = wp.setCell ⟨l, p, none⟩ (.slice an b.length cn) := ⟨_, rfl⟩
              have HS2 : RSl wq (fun x => (Y x ∧ x ≠ g ∧ x ≠ wl) ∨ (wv.heap.size ≤ x ∧ x < wq.heap.size)) l n (upd p an A) (upd p cn C) (upd p b st.F) := by
                rw [hwq, hsz]
                refine ((HSV.out.only (X := fun _ => False) (.of_below HBP.out) (fun _ _ h => h)).mono (Z := fun x => (Y x ∧ x ≠ g ∧ x ≠ wl) ∨ (wv.heap.size ≤ x ∧ x < wp.heap.size)) (fun x hx => .inl hx)).put p an cn b HR1.out (fun a ha => ?_) HR3.out
                have := HR2.out a ha
                exact ⟨.inr this, by omega⟩
              have HO2 : Only (fun x => x = l) wv wq := by rw [hwq]; exact Only.setCell (X := fun x => x = l) (p := ⟨l, p, none⟩) (.of_below HBP.out) rfl _
              rw [HN.out] at HS2
              have h2 : RkA wq (fun x => Y x ∨ (wv.heap.size ≤ x ∧ x < wq.heap.size)) g l cl wl k r c N Q S (upd p an A) (upd p cn C) { { st with cut := some j } with F := upd p b st.F } := HV.out.putted HS2 HO2 HF2.out
              rw [← hwq]
              rw [HE.out]
              refine ⟨rfl, ⟨fun x => Y x ∨ (wv.heap.size ≤ x ∧ x < wq.heap.size), ⟨l, cl, wl, upd p an A, upd p cn C, ?_⟩, fun x hx => ?_⟩, ?_⟩
              · exact (h2.reb (st' := _) (only_set (Only.refl _ _) 8 _) (h2.blk.set 8 _) (by rw [HPP.out]) rfl h2.cb)
              · rcases hx with hx | hx
                · exact .inl hx
                · exact .inr (by omega)
              · exact (((Only.of_below HBC.out).trans (only_own HO1.out H1.out.own)).trans (HO2.mono fun x _ e => e ▸ HV.out.sl.own.1)).trans (only_own (only_set (Only.refl _ _) 8 _) HV.out.own)
      · have hmS : ((m : Int) != (S : Int)) = true := by simp; omega
        have HE : Hid (wr1 N Q S st ⟨d, o, s, b⟩ = (80, st)) := by show _ = _; unfold wr1; rw [if_neg (by rw [hoff]; decide), if_neg (by unfold takB; rw [hh]; simp; exact hbl)]
        rw [HE.out]
        clear h h0 hr hy hm hn hp hbl
        go_enter Try.func47, Try.ntmps47
        go_wp2_with fail
        rw [← hw0]
        clear hw0
        go_region_held3 (fun v => v.cell? ⟨w.heap.size, 0, none⟩ = some (.int .i64 d) ∧ v.cell? ⟨w.heap.size, 1, none⟩ = some (.int .i64 o) ∧ v.cell? ⟨w.heap.size, 2, none⟩ = some (.int .i64 s) ∧ v.cell? ⟨w.heap.size, 3, none⟩ = some (.slice ao m cp) ∧ v.cell? ⟨g, 0, none⟩ = some (.int .i64 k) ∧ v.cell? ⟨g, 1, none⟩ = some (.int .i64 r) ∧ v.cell? ⟨g, 2, none⟩ = some (.int .i64 c) ∧ v.cell? ⟨g, 3, none⟩ = some (.int .i64 (Q : Int)) ∧ v.cell? ⟨g, 4, none⟩ = some (.slice (some ⟨l, 0, none⟩) n cl)) (go_keep)
          ((go_at_call 50; refine (HT w0.drew).mono ?_; rintro e wa ⟨rfl, ha⟩; obtain ⟨q0, q1, q2, q3⟩ := SX.out _ (of_drew ha); obtain ⟨x0, x1, x2, x3, x4, x5, x6, x8⟩ := SGG.out _ (of_drew ha); have HBA : Hid (Below w0.heap.size w0 wa) := of_drew ha; clear ha))
        all_goals go_wp2_with fail
        all_goals
          clear a0 a1 a2 a3 a4 s0 s1 s2 s3
        go_region_held3 (fun v => v.cell? ⟨w.heap.size, 0, none⟩ = some (.int .i64 d) ∧ v.cell? ⟨w.heap.size, 1, none⟩ = some (.int .i64 o) ∧ v.cell? ⟨w.heap.size, 2, none⟩ = some (.int .i64 s) ∧ v.cell? ⟨w.heap.size, 3, none⟩ = some (.slice ao m cp) ∧ v.cell? ⟨g, 0, none⟩ = some (.int .i64 k) ∧ v.cell? ⟨g, 1, none⟩ = some (.int .i64 r) ∧ v.cell? ⟨g, 2, none⟩ = some (.int .i64 c) ∧ v.cell? ⟨g, 3, none⟩ = some (.int .i64 (Q : Int)) ∧ v.cell? ⟨g, 4, none⟩ = some (.slice (some ⟨l, 0, none⟩) n cl)) (go_keep)
          ((go_at_call 44; refine (HZ _).mono ?_; rintro e wc ⟨rfl, hc⟩; have hc' := below_then HBA.out (of_drew hc); have HBX : Hid (Below w0.heap.size w0 wc) := hc'; clear q0 q1 q2 q3 x0 x1 x2 x3 x4 x5 x6 x8; obtain ⟨q0, q1, q2, q3⟩ := SX.out _ hc'; obtain ⟨x0, x1, x2, x3, x4, x5, x6, x8⟩ := SGG.out _ hc'; clear hc hc'))
        all_goals go_wp2_with fail
        all_goals go_ret
        all_goals
          have hB := below_then b0 HBX.out
          exact ⟨rfl, ⟨Y, ⟨l, cl, wl, A, C, HH.out.only (X := fun _ => False) (.of_below hB) (fun _ _ h => h)⟩, fun b hb => .inl hb⟩, .of_below hB⟩
  · rw [hoff] at k5
    have HE : Hid (wr1 N Q S st ⟨d, o, s, b⟩ = (9, st)) := by show _ = _; unfold wr1; rw [if_pos hoff]
    rw [HE.out]
    clear h h0 hr hy hm hn a0 a1 a2 a3 a4 a5 s0 s1 s2 s3
    go_enter Try.func47, Try.ntmps47
    go_wp2_with fail
    rw [← hw0]
    clear hw0
    go_ret
    exact ⟨rfl, ⟨Y, ⟨l, cl, wl, A, C, HH.out.only (X := fun _ => False) (.of_below b0) (fun _ _ h => h)⟩, fun b hb => .inl hb⟩, .of_below b0⟩
end
end Go.Proofs.Ytdicogmjjboilaa
