/- One raw write made. -/
import Derived.Test.YtdicogmjjboilaaDskI
namespace Go.Proofs.Ytdicogmjjboilaa
open Go.RowKit

theorem DkA.putted {Y : Nat → Prop} {v wp : World} {g l cl : Nat} {k r c : Int} {N Q S : Nat} {A A' : Nat → Option Addr} {C C' : Nat → Nat} {left : Int} {st : St} {F' : Nat → List UInt8} (h : DkA v Y g l cl k r c N Q S A C left st)
    (hs : Slots wp (fun x => (Y x ∧ x ≠ g) ∨ (v.heap.size ≤ x ∧ x < wp.heap.size)) l (N * Q * 2) A' C' F') (ho : Only (fun x => x = l) v wp) (hf : Fit (N * Q * 2) S F') : DkA wp (fun x => Y x ∨ (v.heap.size ≤ x ∧ x < wp.heap.size)) g l cl k r c N Q S A' C' left { st with F := F' } := by
  refine ⟨h.blk.only ho h.ngl, hs.mono fun b hb => ?_, h.lf, h.cap, .inl h.own, fun b hb => ?_, hf, h.pm⟩
  · rcases hb with h1 | h1
    · exact ⟨.inl h1.1, h1.2⟩
    · exact ⟨.inr h1, by have := h.lt _ h.own; omega⟩
  · rcases hb with h1 | h1
    · exact Nat.lt_of_lt_of_le (h.lt b h1) ho.size
    · exact h1.2
section
variable {Y : Nat → Prop} {w : World} {g : Nat} {k r c : Int} {N Q S : Nat} {st : St}
/-- What a raw write ends in. -/
def Wr (w : World) (Y : Nat → Prop) (g : Nat) (k r c : Int) (N Q S : Nat) (y : Int × St) (e : Ending) (w' : World) : Prop :=
  e = .returned (.int .i64 y.1) ∧ (∃ Y', Dk w' Y' g k r c N Q S y.2 ∧ ∀ b, Y' b → Y b ∨ w.heap.size ≤ b) ∧ Only Y w w'
set_option maxHeartbeats 1000000 in
set_option maxRecDepth 100000 in
theorem writeOne_any (h : Dk w Y g k r c N Q S st) (d o s : Int) (ao : Option Addr) (m cp : Nat) (b : List UInt8) (hm : m = b.length) (hr : RdB w ao b) (hnil : ao = none → b = [] ∧ cp = 0) (hy : b ≠ [] → ∀ a, ao = some a → ¬ Y a.block) :
    Calls Try.prog 46 #[.pointer (some ⟨g, 0, none⟩), .agg #[.int .i64 d, .int .i64 o, .int .i64 s, .slice ao m cp]] w (Wr w Y g k r c N Q S (wr1 N Q S st ⟨d, o, s, b⟩)) := by
  obtain ⟨w0, hw0⟩ : ∃ w0, w0 = w.alloc (.cells #[.int .i64 d, .int .i64 o, .int .i64 s, .slice ao m cp] 45) := ⟨_, rfl⟩
  have b0 : Below w.heap.size w w0 := by rw [hw0]; exact below_alloc _ _
  have z0 : w0.heap.size = w.heap.size + 1 := by rw [hw0]; simp
  obtain ⟨l, cl, A, C, left, h⟩ := h
  have h0 := h.only (X := fun _ => False) (.of_below b0) (fun _ _ h => h)
  obtain ⟨c0, c1, c2, c3, c4, c21, c22, c23, c24⟩ := cells_dk h0.blk
  obtain ⟨s0, s1, s2, s3⟩ := x_held hw0 (Below.refl _ _)
  have hg : g < w.heap.size := h.lt _ h.own
  have k21 : ∀ o, (w.alloc o).cell? ⟨g, 21, none⟩ = some (.bool st.off) := fun o => held (cells_dk h.blk).2.2.2.2.2.1 (below_alloc w o)
  have hl : l < w.heap.size := h.sl.row.lt
  obtain ⟨_, _, _, hN, _, hQ, _⟩ := h.size
  have hS2 : S ≤ 140 := h.pm.bounds.2.2.2.2.2.1
  cases hoff : st.off
  · rw [hoff] at c21 k21
    have HT := fun w' c0 c1 c2 c3 => takes_any h.pm d o s ao m cp b hm w' g c0 c1 c2 c3
    have SX : Hid (∀ v, Below w0.heap.size w0 v → v.cell? ⟨w.heap.size, 0, none⟩ = some (.int .i64 d) ∧ v.cell? ⟨w.heap.size, 1, none⟩ = some (.int .i64 o) ∧ v.cell? ⟨w.heap.size, 2, none⟩ = some (.int .i64 s) ∧ v.cell? ⟨w.heap.size, 3, none⟩ = some (.slice ao m cp)) := fun v hv => ⟨held s0 hv, held s1 hv, held s2 hv, held s3 hv⟩
    cases ht : takB N Q S ⟨d, o, s, b⟩
    · rw [ht] at HT
      have HE : Hid (wr1 N Q S st ⟨d, o, s, b⟩ = (80, st)) := by show _ = _; unfold wr1; rw [if_neg (by rw [hoff]; decide), if_neg (by rw [ht]; decide)]
      rw [HE.out]
      have HH : Hid (DkA w Y g l cl k r c N Q S A C left st) := h
      clear h h0 hr hnil hy c4 c22 c23 c24 HE hm
      go_enter Try.func46, Try.ntmps46
      go_wp2_with fail
      rw [← hw0]
      clear hw0
      go_region_held3 (fun v => v.cell? ⟨w.heap.size, 0, none⟩ = some (.int .i64 d) ∧ v.cell? ⟨w.heap.size, 1, none⟩ = some (.int .i64 o) ∧ v.cell? ⟨w.heap.size, 2, none⟩ = some (.int .i64 s) ∧ v.cell? ⟨w.heap.size, 3, none⟩ = some (.slice ao m cp)) (go_keep)
        ((go_at_call 62; refine (HT w0.drew c0 c1 c2 c3).mono ?_; rintro e wa ⟨rfl, ha⟩; obtain ⟨q0, q1, q2, q3⟩ := SX.out _ (of_drew ha)))
      all_goals (go_wp2; go_ret)
      all_goals
        have hB := below_then b0 (of_drew ha)
        exact ⟨rfl, ⟨Y, ⟨l, cl, A, C, left, HH.out.only (X := fun _ => False) (.of_below hB) (fun _ _ h => h)⟩, fun b hb => .inl hb⟩, .of_below hB⟩
    · rw [ht] at HT
      unfold takB at ht
      rw [Bool.and_eq_true] at ht
      obtain ⟨hh, hbl⟩ := ht
      have hbl : b.length = S := of_decide_eq_true hbl
      have HP := fun (v : World) (Z : Nat → Prop) A C F hs hr c3 c4 => put_any hN hQ d o s hh ao m cp b hm (by omega) v Z g l cl A C F hs h.ngl hr hnil c3 c4
      have HF2 : Hid (Fit (N * Q * 2) S (upd (plc Q d o s) b st.F)) := fun i hi => by
        by_cases e : i = plc Q d o s
        · subst e; rw [upd_at]; exact .inr hbl
        · rw [upd_ne _ _ e]; exact h.fit i hi
      have HY : Hid (b ≠ [] → ∀ a, ao = some a → ¬ a.block = g) := fun hb a ha e => hy hb a ha (e ▸ h.own)
      have HR : Hid (RdB w ao b) := hr
      have HH : Hid (DkA w Y g l cl k r c N Q S A C left st) := h
      have htk : takB N Q S ⟨d, o, s, b⟩ = true := by unfold takB; rw [hh]; exact decide_eq_true hbl
      have hlf := h.lf
      clear h h0 hr hnil hy c4 c22 c23 c24 hm
      cases hc : st.cut with
      | none =>
        have HE : Hid (wr1 N Q S st ⟨d, o, s, b⟩ = (0, { st with F := upd (plc Q d o s) b st.F, wr := wrap64 (st.wr + 1) })) := by show _ = _; unfold wr1; rw [if_neg (by rw [hoff]; decide), if_pos htk, hc]
        rw [HE.out]
        clear HE hlf htk
        go_enter Try.func46, Try.ntmps46
        go_wp2_with fail
        rw [← hw0]
        clear hw0
        go_region_held3 (fun v => v.cell? ⟨w.heap.size, 0, none⟩ = some (.int .i64 d) ∧ v.cell? ⟨w.heap.size, 1, none⟩ = some (.int .i64 o) ∧ v.cell? ⟨w.heap.size, 2, none⟩ = some (.int .i64 s) ∧ v.cell? ⟨w.heap.size, 3, none⟩ = some (.slice ao m cp)) (go_keep)
          ((go_at_call 62; refine (HT w0.drew c0 c1 c2 c3).mono ?_; rintro e wa ⟨rfl, ha⟩; obtain ⟨q0, q1, q2, q3⟩ := SX.out _ (of_drew ha)))
        all_goals
          have hB := below_then b0 (of_drew ha)
          have h1 := HH.out.only (X := fun _ => False) (.of_below hB) (fun _ _ h => h)
          have H1 : Hid (DkA wa Y g l cl k r c N Q S A C left st) := h1
          obtain ⟨_, _, _, x3, x4, x21, x22, x23, x24⟩ := cells_dk h1.blk
          rw [hoff] at x21
          rw [hc] at x22
          have f := h1.blk.free
          have hza := hB.size
          have HRa : Hid (RdB wa ao b) := HR.out.below hB
          clear h1
          go_wp2_with fail
          have HO1 : Hid (Only (fun b => b = g) wa wa) := Only.refl _ _
          have HV : Hid (DkA wa Y g l cl k r c N Q S A C left st) := H1.out
          have hzv : wa.heap.size = wa.heap.size := rfl
          have HRv : Hid (RdB wa ao b) := HRa.out
          obtain ⟨v0, v1, v2, v3⟩ : wa.cell? ⟨w.heap.size, 0, none⟩ = some (.int .i64 d) ∧ wa.cell? ⟨w.heap.size, 1, none⟩ = some (.int .i64 o) ∧ wa.cell? ⟨w.heap.size, 2, none⟩ = some (.int .i64 s) ∧ wa.cell? ⟨w.heap.size, 3, none⟩ = some (.slice ao m cp) := ⟨q0, q1, q2, q3⟩
          obtain ⟨_, _, _, y3, y4, _, _, _, y24⟩ := cells_dk HV.out.blk
          have HP := HP wa.drew _ A C st.F (HV.out.sl.only (X := fun _ => False) (.of_below (below_drew _ _)) (fun _ _ h => h)) (HRv.out.below (below_drew _ _)) y3 y4
          go_region_held3 (fun v => v.cell? ⟨w.heap.size, 0, none⟩ = some (.int .i64 d) ∧ v.cell? ⟨w.heap.size, 1, none⟩ = some (.int .i64 o) ∧ v.cell? ⟨w.heap.size, 2, none⟩ = some (.int .i64 s) ∧ v.cell? ⟨w.heap.size, 3, none⟩ = some (.slice ao m cp)) (go_keep)
            ((go_at_call 63; refine HP.mono ?_; rintro e wp ⟨rfl, hs, ho⟩; have ho' : Only (fun x => x = l) wa wp := (Only.of_below (below_drew _ _)).trans ho; have p0 := ho'.cell v0 (by show ¬ w.heap.size = l; omega); have p1 := ho'.cell v1 (by show ¬ w.heap.size = l; omega); have p2 := ho'.cell v2 (by show ¬ w.heap.size = l; omega); have p3 := ho'.cell v3 (by show ¬ w.heap.size = l; omega); have p24 := ho'.cell y24 HV.out.ngl; have pf := (HV.out.blk.only ho' HV.out.ngl).free 24; have HS : Hid (∃ A' C', Slots wp (fun x => (Y x ∧ x ≠ g) ∨ (wa.drew.heap.size ≤ x ∧ x < wp.heap.size)) l (N * Q * 2) A' C' (upd (plc Q d o s) b st.F)) := hs; have HO2 : Hid (Only (fun x => x = l) wa wp) := ho'; clear hs ho ho'))
          all_goals go_wp2_with fail
          all_goals go_ret
          all_goals
            obtain ⟨A', C', hs⟩ := HS.out
            have h2 : DkA wp (fun x => Y x ∨ (wa.heap.size ≤ x ∧ x < wp.heap.size)) g l cl k r c N Q S A' C' left { st with F := upd (plc Q d o s) b st.F } := HV.out.putted hs HO2.out HF2.out
            refine ⟨rfl, ⟨_, ⟨l, cl, A', C', left, h2.reb (only_set (Only.refl _ _) 24 _) (h2.blk.set 24 _) rfl h2.lf⟩, fun x hx => ?_⟩, ?_⟩
            · rcases hx with hx | hx
              · exact .inl hx
              · exact .inr (by omega)
            · exact (((Only.of_below hB).trans (only_own HO1.out H1.out.own)).trans (HO2.out.mono fun x _ e => e ▸ HV.out.sl.own.1)).trans (only_own (only_set (Only.refl _ _) 24 _) HV.out.own)
      | some n =>
        cases n with
        | zero =>
          have HE : Hid (wr1 N Q S st ⟨d, o, s, b⟩ = (9, { st with off := true, cut := none })) := by show _ = _; unfold wr1; rw [if_neg (by rw [hoff]; decide), if_pos htk, hc]
          rw [HE.out]
          obtain rfl : left = 0 := (hlf 0 hc).1
          clear HE hlf htk HP
          go_enter Try.func46, Try.ntmps46
          go_wp2_with fail
          rw [← hw0]
          clear hw0
          go_region_held3 (fun v => v.cell? ⟨w.heap.size, 0, none⟩ = some (.int .i64 d) ∧ v.cell? ⟨w.heap.size, 1, none⟩ = some (.int .i64 o) ∧ v.cell? ⟨w.heap.size, 2, none⟩ = some (.int .i64 s) ∧ v.cell? ⟨w.heap.size, 3, none⟩ = some (.slice ao m cp)) (go_keep)
            ((go_at_call 62; refine (HT w0.drew c0 c1 c2 c3).mono ?_; rintro e wa ⟨rfl, ha⟩; obtain ⟨q0, q1, q2, q3⟩ := SX.out _ (of_drew ha)))
          all_goals
            have hB := below_then b0 (of_drew ha)
            have h1 := HH.out.only (X := fun _ => False) (.of_below hB) (fun _ _ h => h)
            have H1 : Hid (DkA wa Y g l cl k r c N Q S A C 0 st) := h1
            obtain ⟨_, _, _, _, _, x21, x22, x23, _⟩ := cells_dk h1.blk
            rw [hoff] at x21
            rw [hc] at x22
            have f := h1.blk.free
            clear h1
            go_wp2_with fail
            go_ret
            refine ⟨rfl, ⟨Y, ⟨l, cl, A, C, 0, ?_⟩, fun b hb => .inl hb⟩, (Only.of_below hB).trans (only_own (only_set (only_set (Only.refl _ _) 21 _) 22 _) H1.out.own)⟩
            exact H1.out.reb (only_set (only_set (Only.refl _ _) 21 _) 22 _) ((H1.out.blk.set 21 _).set 22 _) rfl fun m hm => by cases hm
        | succ n =>
          have HE : Hid (wr1 N Q S st ⟨d, o, s, b⟩ = (0, { st with F := upd (plc Q d o s) b st.F, cut := some n, wr := wrap64 (st.wr + 1) })) := by show _ = _; unfold wr1; rw [if_neg (by rw [hoff]; decide), if_pos htk, hc]
          rw [HE.out]
          obtain ⟨hl1, hl2⟩ := hlf (n + 1) hc
          have HL : Hid (left - 1 = (n : Int)) := by show _ = _; omega
          have l1 : 1 ≤ left := by omega
          have l2 : left ≤ 9223372036854775807 := by omega
          have l3 : (left == 0) = false := by simp; omega
          clear HE hlf htk hl1 hl2
          go_enter Try.func46, Try.ntmps46
          go_wp2_with fail
          rw [← hw0]
          clear hw0
          go_region_held3 (fun v => v.cell? ⟨w.heap.size, 0, none⟩ = some (.int .i64 d) ∧ v.cell? ⟨w.heap.size, 1, none⟩ = some (.int .i64 o) ∧ v.cell? ⟨w.heap.size, 2, none⟩ = some (.int .i64 s) ∧ v.cell? ⟨w.heap.size, 3, none⟩ = some (.slice ao m cp)) (go_keep)
            ((go_at_call 62; refine (HT w0.drew c0 c1 c2 c3).mono ?_; rintro e wa ⟨rfl, ha⟩; obtain ⟨q0, q1, q2, q3⟩ := SX.out _ (of_drew ha)))
          all_goals
            have hB := below_then b0 (of_drew ha)
            have h1 := HH.out.only (X := fun _ => False) (.of_below hB) (fun _ _ h => h)
            have H1 : Hid (DkA wa Y g l cl k r c N Q S A C left st) := h1
            obtain ⟨_, _, _, x3, x4, x21, x22, x23, x24⟩ := cells_dk h1.blk
            rw [hoff] at x21
            rw [hc] at x22
            have f := h1.blk.free
            have hza := hB.size
            have HRa : Hid (RdB wa ao b) := HR.out.below hB
            clear h1
            go_wp2_with fail
            obtain ⟨wv, hwv⟩ : ∃ wv, wv = wa.setCell ⟨g, 23, none⟩ (.int .i64 (left - 1)) := ⟨_, rfl⟩
            rw [← hwv]
            have HO1 : Hid (Only (fun b => b = g) wa wv) := by rw [hwv]; exact only_set (Only.refl _ _) 23 _
            have HV : Hid (DkA wv Y g l cl k r c N Q S A C (left - 1) { st with cut := some n }) := by
              have hb2 := H1.out.blk.set 23 (.int .i64 (left - 1))
              rw [← hwv] at hb2
              rw [hc] at hb2
              exact H1.out.reb HO1.out hb2 rfl fun j hj => by have e := Option.some.inj hj; have := HL.out; omega
            have hzv : wv.heap.size = wa.heap.size := by rw [hwv]; simp [World.setCell]
            have HRv : Hid (RdB wv ao b) := HRa.out.only2 HO1.out HY.out
            have v0 := HO1.out.cell q0 (by show ¬ w.heap.size = g; omega)
            have v1 := HO1.out.cell q1 (by show ¬ w.heap.size = g; omega)
            have v2 := HO1.out.cell q2 (by show ¬ w.heap.size = g; omega)
            have v3 := HO1.out.cell q3 (by show ¬ w.heap.size = g; omega)
            obtain ⟨_, _, _, y3, y4, _, _, _, y24⟩ := cells_dk HV.out.blk
            clear hwv x3 x4 x21 x22 x23 x24 q0 q1 q2 q3 f
            have HP := HP wv.drew _ A C st.F (HV.out.sl.only (X := fun _ => False) (.of_below (below_drew _ _)) (fun _ _ h => h)) (HRv.out.below (below_drew _ _)) y3 y4
            go_region_held3 (fun v => v.cell? ⟨w.heap.size, 0, none⟩ = some (.int .i64 d) ∧ v.cell? ⟨w.heap.size, 1, none⟩ = some (.int .i64 o) ∧ v.cell? ⟨w.heap.size, 2, none⟩ = some (.int .i64 s) ∧ v.cell? ⟨w.heap.size, 3, none⟩ = some (.slice ao m cp)) (go_keep)
              ((go_at_call 63; refine HP.mono ?_; rintro e wp ⟨rfl, hs, ho⟩; have ho' : Only (fun x => x = l) wv wp := (Only.of_below (below_drew _ _)).trans ho; have p0 := ho'.cell v0 (by show ¬ w.heap.size = l; omega); have p1 := ho'.cell v1 (by show ¬ w.heap.size = l; omega); have p2 := ho'.cell v2 (by show ¬ w.heap.size = l; omega); have p3 := ho'.cell v3 (by show ¬ w.heap.size = l; omega); have p24 := ho'.cell y24 HV.out.ngl; have pf := (HV.out.blk.only ho' HV.out.ngl).free 24; have HS : Hid (∃ A' C', Slots wp (fun x => (Y x ∧ x ≠ g) ∨ (wv.drew.heap.size ≤ x ∧ x < wp.heap.size)) l (N * Q * 2) A' C' (upd (plc Q d o s) b st.F)) := hs; have HO2 : Hid (Only (fun x => x = l) wv wp) := ho'; clear hs ho ho'))
            all_goals go_wp2_with fail
            all_goals go_ret
            all_goals
              obtain ⟨A', C', hs⟩ := HS.out
              have h2 : DkA wp (fun x => Y x ∨ (wv.heap.size ≤ x ∧ x < wp.heap.size)) g l cl k r c N Q S A' C' (left - 1) { { st with cut := some n } with F := upd (plc Q d o s) b st.F } := HV.out.putted hs HO2.out HF2.out
              refine ⟨rfl, ⟨_, ⟨l, cl, A', C', (left - 1), h2.reb (only_set (Only.refl _ _) 24 _) (h2.blk.set 24 _) rfl h2.lf⟩, fun x hx => ?_⟩, ?_⟩
              · rcases hx with hx | hx
                · exact .inl hx
                · exact .inr (by omega)
              · exact (((Only.of_below hB).trans (only_own HO1.out H1.out.own)).trans (HO2.out.mono fun x _ e => e ▸ HV.out.sl.own.1)).trans (only_own (only_set (Only.refl _ _) 24 _) HV.out.own)
  · rw [hoff] at c21 k21
    have HE : Hid (wr1 N Q S st ⟨d, o, s, b⟩ = (9, st)) := by show _ = _; unfold wr1; rw [if_pos hoff]
    rw [HE.out]
    have HH : Hid (DkA w Y g l cl k r c N Q S A C left st) := h
    clear h h0 hr hnil hy c0 c1 c2 c3 c4 c22 c23 c24 HE hm
    go_enter Try.func46, Try.ntmps46
    go_wp2_with fail
    rw [← hw0]
    clear hw0
    go_ret
    exact ⟨rfl, ⟨Y, ⟨l, cl, A, C, left, HH.out.only (X := fun _ => False) (.of_below b0) (fun _ _ h => h)⟩, fun b hb => .inl hb⟩, .of_below b0⟩
end
end Go.Proofs.Ytdicogmjjboilaa
