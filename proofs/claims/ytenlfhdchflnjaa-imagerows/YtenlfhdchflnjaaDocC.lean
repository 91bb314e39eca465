/- The number of a slot, and whether a raw write may be, as the document tells them. -/
import Derived.Test.YtenlfhdchflnjaaDocB
namespace Go.Proofs.Ytenlfhdchflnjaa
open Go.RowKit

def numZ (N Q : Nat) (d o s : Int) : Int := if hasB N Q d o s = true then (plc Q d o s : Int) else -1
set_option maxHeartbeats 2000000 in
set_option maxRecDepth 100000 in
theorem Number_any {k r c q : Int} {N Q S : Nat} (h : Pm k r c q N Q S) (d o s : Int) (w : World) :
    Calls Try.prog 54 #[.agg #[.int .i64 k, .int .i64 r, .int .i64 c, .int .i64 q], .int .i64 d, .int .i64 o, .int .i64 s] w fun e w' => e = .returned (.int .i64 (numZ N Q d o s)) ∧ Below w.heap.size w w' := by
  have hbn := h.bounds
  have HN : Hid (∀ v, Calls Try.prog 55 #[.agg #[.int .i64 k, .int .i64 r, .int .i64 c, .int .i64 q]] v fun e w' => e = .returned (.int .i64 (N : Int)) ∧ Below v.heap.size v w') := fun v => N_any c q h.2.1 hbn.2.1 v
  obtain rfl : q = (Q : Int) := h.2.2.1.symm
  have hN := hbn.2.1
  have hQ := hbn.2.2.2.1
  clear h hbn
  obtain ⟨w0, hw0⟩ : ∃ w0, w0 = w.alloc (.cells #[.int .i64 k, .int .i64 r, .int .i64 c, .int .i64 (Q : Int)] 24) := ⟨_, rfl⟩
  have HB0 : Hid (Below w.heap.size w w0) := by rw [hw0]; exact below_alloc _ _
  have SH : Hid (∀ v, Below w0.heap.size w0 v → v.cell? ⟨w.heap.size, 0, none⟩ = some (.int .i64 k) ∧ v.cell? ⟨w.heap.size, 1, none⟩ = some (.int .i64 r) ∧ v.cell? ⟨w.heap.size, 2, none⟩ = some (.int .i64 c) ∧ v.cell? ⟨w.heap.size, 3, none⟩ = some (.int .i64 (Q : Int))) := fun v hv => par_held hw0 hv
  by_cases hh : hasB N Q d o s = true
  · obtain ⟨⟨d1, d2⟩, ⟨o1, o2⟩, s1, s2⟩ := has_true hh
    obtain ⟨p, hp, hp2⟩ : ∃ p : Nat, d * (Q : Int) = (p : Int) ∧ p ≤ 4096 := by
      obtain ⟨a, rfl⟩ := Int.eq_ofNat_of_zero_le d1
      have : a * Q ≤ 16 * 256 := Nat.mul_le_mul (by omega) hQ
      exact ⟨a * Q, by simp, by omega⟩
    have HR : Hid (((p : Int) + o) * 2 + s = numZ N Q d o s) := by show _ = _; unfold numZ; rw [if_pos hh, plc_cast d1 o1 s1, hp]
    have hv : Value.int .i64 (wrap64 (d * (Q : Int))) = .int .i64 (p : Int) := by rw [hp, w64 _ (by omega)]
    clear hp hh
    go_enter Try.func54, Try.ntmps54
    go_wp2_with (go_at_call 55; rw [← hw0]; clear hw0; refine (HN.out _).mono ?_; rintro e wa ⟨rfl, ha⟩; have HA : Hid (Below w.heap.size w wa) := below_then HB0.out ha; obtain ⟨c0, c1, c2, c3⟩ := SH.out wa ha; clear ha)
    all_goals first
      | (exfalso; omega)
      | (go_ret; exact ⟨ret_int HR.out, HA.out⟩)
  · have HR : Hid (numZ N Q d o s = -1) := by show _ = _; unfold numZ; rw [if_neg hh]
    have hh2 : ¬ ((0 ≤ d ∧ d < (N : Int)) ∧ (0 ≤ o ∧ o < (Q : Int)) ∧ (0 ≤ s ∧ s < 2)) := fun h => hh (decide_eq_true h)
    have HH : Hid (¬ ((0 ≤ d ∧ d < (N : Int)) ∧ (0 ≤ o ∧ o < (Q : Int)) ∧ (0 ≤ s ∧ s < 2))) := hh2
    clear hh hh2
    by_cases hd : d < 0
    · go_enter Try.func54, Try.ntmps54
      go_wp2_with fail
      all_goals first
        | (exfalso; omega)
        | (go_ret; exact ⟨ret_int HR.out.symm, by rw [← hw0]; exact HB0.out⟩)
    · go_enter Try.func54, Try.ntmps54
      go_wp2_with (go_at_call 55; rw [← hw0]; clear hw0; refine (HN.out _).mono ?_; rintro e wa ⟨rfl, ha⟩; have HA : Hid (Below w.heap.size w wa) := below_then HB0.out ha; obtain ⟨c0, c1, c2, c3⟩ := SH.out wa ha; clear ha)
      all_goals first
        | (go_ret; exact ⟨ret_int HR.out.symm, HA.out⟩)
        | (exfalso; have := HH.out; omega)
theorem numZ_ge {N Q : Nat} {d o s : Int} : (decide (numZ N Q d o s ≥ 0)) = hasB N Q d o s := by
  unfold numZ
  cases h : hasB N Q d o s
  · simp
  · simp
set_option maxHeartbeats 2000000 in
set_option maxRecDepth 100000 in
theorem MayPut_any {k r c q : Int} {N Q S : Nat} (h : Pm k r c q N Q S) (y : Pt) (ao : Option Addr) (cp : Nat) (w : World) :
    Calls Try.prog 53 #[.agg #[.int .i64 k, .int .i64 r, .int .i64 c, .int .i64 q], .agg #[.int .i64 y.d, .int .i64 y.r, .int .i64 y.s, .slice ao y.b.length cp]] w fun e w' => e = .returned (.bool (takB N Q S y)) ∧ Below w.heap.size w w' := by
  have HNU : Hid (∀ v, Calls Try.prog 54 #[.agg #[.int .i64 k, .int .i64 r, .int .i64 c, .int .i64 q], .int .i64 y.d, .int .i64 y.r, .int .i64 y.s] v fun e w' => e = .returned (.int .i64 (numZ N Q y.d y.r y.s)) ∧ Below v.heap.size v w') := fun v => Number_any h _ _ _ v
  have HSZ : Hid (∀ v, Calls Try.prog 57 #[.agg #[.int .i64 k, .int .i64 r, .int .i64 c, .int .i64 q]] v fun e w' => e = .returned (.int .i64 (S : Int)) ∧ Below v.heap.size v w') := fun v => Size_any h v
  obtain ⟨t, ht⟩ : ∃ t, t = takB N Q S y := ⟨_, rfl⟩
  rw [← ht]
  obtain ⟨nz, hnz⟩ : ∃ nz, nz = numZ N Q y.d y.r y.s := ⟨_, rfl⟩
  rw [← hnz] at HNU
  obtain ⟨bl, hbl⟩ : ∃ bl, bl = y.b.length := ⟨_, rfl⟩
  obtain ⟨z, hz⟩ : ∃ z, z = decide (y.b.length = S) := ⟨_, rfl⟩
  have hz2 : ((bl : Int) == (S : Int)) = z := by
    rw [hz, hbl]
    by_cases e : y.b.length = S
    · simp [e]
    · rw [decide_eq_false e]; exact beq_eq_false_iff_ne.2 (by omega)
  have hge : decide (nz ≥ 0) = hasB N Q y.d y.r y.s := by rw [hnz]; exact numZ_ge
  have htz : t = (hasB N Q y.d y.r y.s && z) := by rw [ht, hz]; rfl
  rw [← hbl]
  obtain ⟨w0, hw0⟩ : ∃ w0, w0 = w.alloc (.cells #[.int .i64 k, .int .i64 r, .int .i64 c, .int .i64 q] 24) := ⟨_, rfl⟩
  obtain ⟨w2, hw2⟩ : ∃ w2, w2 = w0.alloc (.cells #[.int .i64 y.d, .int .i64 y.r, .int .i64 y.s, .slice ao bl cp] 35) := ⟨_, rfl⟩
  have s0 : w0.heap.size = w.heap.size + 1 := by rw [hw0]; simp
  have b0 : Below w.heap.size w w0 := by rw [hw0]; exact below_alloc _ _
  have b2 : Below w0.heap.size w0 w2 := by rw [hw2]; exact below_alloc _ _
  have HB2 : Hid (Below w.heap.size w w2) := below_then b0 b2
  have SH : Hid (∀ v, Below w2.heap.size w2 v → v.cell? ⟨w.heap.size, 0, none⟩ = some (.int .i64 k) ∧ v.cell? ⟨w.heap.size, 1, none⟩ = some (.int .i64 r) ∧ v.cell? ⟨w.heap.size, 2, none⟩ = some (.int .i64 c) ∧ v.cell? ⟨w.heap.size, 3, none⟩ = some (.int .i64 q) ∧ v.cell? ⟨w.heap.size + 1, 0, none⟩ = some (.int .i64 y.d) ∧ v.cell? ⟨w.heap.size + 1, 1, none⟩ = some (.int .i64 y.r) ∧ v.cell? ⟨w.heap.size + 1, 2, none⟩ = some (.int .i64 y.s) ∧ v.cell? ⟨w.heap.size + 1, 3, none⟩ = some (.slice ao bl cp)) := fun v hv => by
    obtain ⟨a0, a1, a2, a3⟩ := par_held hw0 (below_then b2 hv)
    rw [← s0]
    exact ⟨a0, a1, a2, a3, blk_held hw2 hv 0 rfl, blk_held hw2 hv 1 rfl, blk_held hw2 hv 2 rfl, blk_held hw2 hv 3 rfl⟩
  clear b0 b2 s0 hnz hbl hz ht
  cases hb : hasB N Q y.d y.r y.s with
  | true =>
    rw [hb] at hge htz
    have HT : Hid (t = z) := by rw [htz]; rfl
    clear htz hb
    go_enter Try.func53, Try.ntmps53
    go_wp2_with fail
    rw [← hw0, ← hw2]
    clear hw0 hw2
    refine wp_region_held_drew (S := (fun v => v.cell? ⟨w.heap.size, 0, none⟩ = some (.int .i64 k) ∧ v.cell? ⟨w.heap.size, 1, none⟩ = some (.int .i64 r) ∧ v.cell? ⟨w.heap.size, 2, none⟩ = some (.int .i64 c) ∧ v.cell? ⟨w.heap.size, 3, none⟩ = some (.int .i64 q) ∧ v.cell? ⟨w.heap.size + 1, 0, none⟩ = some (.int .i64 y.d) ∧ v.cell? ⟨w.heap.size + 1, 1, none⟩ = some (.int .i64 y.r) ∧ v.cell? ⟨w.heap.size + 1, 2, none⟩ = some (.int .i64 y.s) ∧ v.cell? ⟨w.heap.size + 1, 3, none⟩ = some (.slice ao bl cp))) (by kernel_rfl) (SH.out _ (below_drew _ _)) (fun hHeld => ?_)
    refine wpAnyH_take (i := 0) (oi := _) (v := .agg #[.int .i64 k, .int .i64 r, .int .i64 c, .int .i64 q]) rfl (by kernel_rfl) (by kernel_rfl) (by kernel_rfl) (fun _ _ _ h => h) (Or.inl ⟨by rfl, ?_⟩) (by assumption) ?_
    · intro w' hSw
      try dsimp only at hSw
      go_simp <;> first | with_reducible rfl | assumption
    simp only [Act.put]
    refine wpAnyH_take (i := 1) (oi := _) (v := .pointer (some ⟨w.heap.size + 1, 0, none⟩)) rfl (by kernel_rfl) (by kernel_rfl) (by kernel_rfl) (fun _ _ _ h => h) (Or.inl ⟨by rfl, ?_⟩) (by assumption) ?_
    · intro w' hSw
      try dsimp only at hSw
      go_simp <;> first | with_reducible rfl | assumption
    simp only [Act.put]
    refine wpAnyH_take (i := 2) (oi := _) (v := .int .i64 y.d) rfl (by kernel_rfl) (by kernel_rfl) (by kernel_rfl) (fun _ _ _ h => h) (Or.inl ⟨by rfl, ?_⟩) (by assumption) ?_
    · intro w' hSw
      try dsimp only at hSw
      go_simp <;> first | with_reducible rfl | assumption
    simp only [Act.put]
    refine wpAnyH_take (i := 3) (oi := _) (v := .pointer (some ⟨w.heap.size + 1, 1, none⟩)) rfl (by kernel_rfl) (by kernel_rfl) (by kernel_rfl) (fun _ _ _ h => h) (Or.inl ⟨by rfl, ?_⟩) (by assumption) ?_
    · intro w' hSw
      try dsimp only at hSw
      go_simp <;> first | with_reducible rfl | assumption
    simp only [Act.put]
    refine wpAnyH_take (i := 4) (oi := _) (v := .int .i64 y.r) rfl (by kernel_rfl) (by kernel_rfl) (by kernel_rfl) (fun _ _ _ h => h) (Or.inl ⟨by rfl, ?_⟩) (by assumption) ?_
    · intro w' hSw
      try dsimp only at hSw
      go_simp <;> first | with_reducible rfl | assumption
    simp only [Act.put]
    refine wpAnyH_take (i := 5) (oi := _) (v := .pointer (some ⟨w.heap.size + 1, 2, none⟩)) rfl (by kernel_rfl) (by kernel_rfl) (by kernel_rfl) (fun _ _ _ h => h) (Or.inl ⟨by rfl, ?_⟩) (by assumption) ?_
    · intro w' hSw
      try dsimp only at hSw
      go_simp <;> first | with_reducible rfl | assumption
    simp only [Act.put]
    refine wpAnyH_take (i := 6) (oi := _) (v := .int .i64 y.s) rfl (by kernel_rfl) (by kernel_rfl) (by kernel_rfl) (fun _ _ _ h => h) (Or.inl ⟨by rfl, ?_⟩) (by assumption) ?_
    · intro w' hSw
      try dsimp only at hSw
      go_simp <;> first | with_reducible rfl | assumption
    simp only [Act.put]
    refine wpAnyH_ready (rs := [7]) (by kernel_rfl) (by simp) ?_
    refine AllReadyH.cons (o := _) rfl (fun K hK => ?_) AllReadyH.nil
    go_simp
    refine (HNU.out _).mono ?_
    rintro e wa ⟨rfl, ha⟩
    have HA : Hid (Below w2.heap.size w2 wa) := of_drew ha
    clear ha
    refine hK.out _ _ (SH.out _ HA.out) (fun hHeld => ?_)
    clear hK K
    try simp only [Act.put]
    refine wpAnyH_take (i := 8) (oi := _) (v := .bool true) rfl (by kernel_rfl) (by kernel_rfl) (by kernel_rfl) (fun _ _ _ h => h) (Or.inl ⟨by rfl, ?_⟩) (by assumption) ?_
    · intro w' hSw
      try dsimp only at hSw
      go_simp <;> first | with_reducible rfl | assumption
    simp only [Act.put]
    refine wpAnyH_take (i := 9) (oi := _) (v := .bool true) rfl (by kernel_rfl) (by kernel_rfl) (by kernel_rfl) (fun _ _ _ h => h) (Or.inl ⟨by rfl, ?_⟩) (by assumption) ?_
    · intro w' hSw
      try dsimp only at hSw
      go_simp <;> first | with_reducible rfl | assumption
    simp only [Act.put]
    refine wpAnyH_take (i := 10) (oi := { dst := some 15, op := Op.fieldAddr 35 (Operand.tmp 3) 3, type := 0, pos := "ref.go:64", after := #[{ on := 9, ground := Ground.guard }], guard := some (9, true) }) (v := .pointer (some ⟨w.heap.size + 1, 3, none⟩)) rfl (by kernel_rfl) (by kernel_rfl) (by kernel_rfl) (fun _ _ _ h => h) (Or.inl ⟨by rfl, ?_⟩) (by assumption) ?_
    · intro w' hSw
      try dsimp only at hSw
      go_simp <;> first | with_reducible rfl | assumption
    simp only [Act.put]
    refine wpAnyH_take (i := 11) (oi := { dst := some 16, op := Op.load 33 (Operand.tmp 15), type := 33, pos := "ref.go:64", after := #[{ on := 10, ground := Ground.data }, { on := 9, ground := Ground.guard }], guard := some (9, true) }) (v := .slice ao bl cp) rfl (by kernel_rfl) (by kernel_rfl) (by kernel_rfl) (fun _ _ _ h => h) (Or.inl ⟨by rfl, ?_⟩) (by assumption) ?_
    · intro w' hSw
      try dsimp only at hSw
      go_simp <;> first | with_reducible rfl | assumption
    simp only [Act.put]
    refine wpAnyH_take (i := 12) (oi := { dst := some 17, op := Op.call { callee := Callee.builtin Builtin.len, args := #[Operand.tmp 16], argTypes := #[33] }, type := 3, pos := "ref.go:64", after := #[{ on := 11, ground := Ground.data }, { on := 9, ground := Ground.guard }], guard := some (9, true) }) (v := .int .i64 (bl : Int)) rfl (by kernel_rfl) (by kernel_rfl) (by kernel_rfl) (fun _ _ _ h => h) (Or.inl ⟨by rfl, ?_⟩) (by assumption) ?_
    · intro w' hSw
      try dsimp only at hSw
      go_simp <;> first | with_reducible rfl | assumption
    simp only [Act.put]
    refine wpAnyH_take (i := 13) (oi := { dst := some 18, op := Op.load 24 (Operand.tmp 2), type := 24, pos := "ref.go:64", after := #[{ on := 9, ground := Ground.guard }], guard := some (9, true) }) (v := .agg #[.int .i64 k, .int .i64 r, .int .i64 c, .int .i64 q]) rfl (by kernel_rfl) (by kernel_rfl) (by kernel_rfl) (fun _ _ _ h => h) (Or.inl ⟨by rfl, ?_⟩) (by assumption) ?_
    · intro w' hSw
      try dsimp only at hSw
      go_simp <;> first | with_reducible rfl | assumption
    simp only [Act.put]
    refine wpAnyH_ready (rs := [14]) (by kernel_rfl) (by simp) ?_
    refine AllReadyH.cons (o := { dst := some 19, op := Op.call { callee := Callee.value (Operand.func 57), args := #[Operand.tmp 18], argTypes := #[24] }, type := 3, pos := "ref.go:64", after := #[{ on := 13, ground := Ground.data }, { on := 9, ground := Ground.chain }, { on := 9, ground := Ground.guard }], guard := some (9, true) }) rfl (fun K hK => ?_) AllReadyH.nil
    go_simp
    refine (HSZ.out _).mono ?_
    rintro e wb ⟨rfl, hb⟩
    have HB : Hid (Below w2.heap.size w2 wb) := below_then HA.out hb
    clear hb
    refine hK.out _ _ (SH.out _ HB.out) (fun hHeld => ?_)
    clear hK K
    try simp only [Act.put]
    refine wpAnyH_take (i := 15) (oi := { dst := some 20, op := Op.binOp BinOp.eql 3 (Operand.tmp 17) (Operand.tmp 19) 3, type := 4, pos := "ref.go:64", after := #[{ on := 12, ground := Ground.data }, { on := 14, ground := Ground.data }, { on := 9, ground := Ground.guard }], guard := some (9, true) }) (v := .bool z) rfl (by kernel_rfl) (by kernel_rfl) (by kernel_rfl) (fun _ _ _ h => h) (Or.inl ⟨by rfl, ?_⟩) (by assumption) ?_
    · intro w' hSw
      try dsimp only at hSw
      go_simp <;> first | with_reducible rfl | assumption
    simp only [Act.put]
    refine wpAnyH_take (i := 16) (oi := { dst := some 21, op := Op.pick (Operand.tmp 14) (Operand.tmp 20) (Operand.const (Value.bool false)), type := 4, pos := "ref.go:64", after := #[{ on := 9, ground := Ground.data }, { on := 15, ground := Ground.data }], guard := none }) (v := .bool z) rfl (by kernel_rfl) (by kernel_rfl) (by kernel_rfl) (fun _ _ _ h => h) (Or.inl ⟨by rfl, ?_⟩) (by assumption) ?_
    · intro w' hSw
      try dsimp only at hSw
      go_simp <;> first | with_reducible rfl | assumption
    simp only [Act.put]
    refine wpAnyH_take (i := 17) (oi := { dst := some 4, op := Op.assign (Operand.tmp 21), type := 4, pos := "ref.go:64", after := #[{ on := 16, ground := Ground.data }, { on := 14, ground := Ground.chain }, { on := 0, ground := Ground.phase }, { on := 1, ground := Ground.phase }, { on := 2, ground := Ground.phase }, { on := 3, ground := Ground.phase }, { on := 4, ground := Ground.phase }, { on := 5, ground := Ground.phase }, { on := 6, ground := Ground.phase }, { on := 7, ground := Ground.phase }, { on := 8, ground := Ground.phase }, { on := 9, ground := Ground.phase }, { on := 10, ground := Ground.phase }, { on := 11, ground := Ground.phase }, { on := 12, ground := Ground.phase }, { on := 13, ground := Ground.phase }, { on := 14, ground := Ground.phase }, { on := 15, ground := Ground.phase }, { on := 16, ground := Ground.phase }], guard := none }) (v := .bool z) rfl (by kernel_rfl) (by kernel_rfl) (by kernel_rfl) (fun _ _ _ h => h) (Or.inl ⟨by rfl, ?_⟩) (by assumption) ?_
    · intro w' hSw
      try dsimp only at hSw
      go_simp <;> first | with_reducible rfl | assumption
    simp only [Act.put]
    refine wpAnyH_done (by kernel_rfl) ?_ _
    go_wp2_with fail
    go_ret
    exact ⟨ret_bool HT.out.symm, below_then HB2.out HB.out⟩
  | false =>
    rw [hb] at hge htz
    have HT : Hid (t = false) := htz
    clear htz hb
    go_enter Try.func53, Try.ntmps53
    go_wp2_with fail
    rw [← hw0, ← hw2]
    clear hw0 hw2
    refine wp_region_held_drew (S := (fun v => v.cell? ⟨w.heap.size, 0, none⟩ = some (.int .i64 k) ∧ v.cell? ⟨w.heap.size, 1, none⟩ = some (.int .i64 r) ∧ v.cell? ⟨w.heap.size, 2, none⟩ = some (.int .i64 c) ∧ v.cell? ⟨w.heap.size, 3, none⟩ = some (.int .i64 q) ∧ v.cell? ⟨w.heap.size + 1, 0, none⟩ = some (.int .i64 y.d) ∧ v.cell? ⟨w.heap.size + 1, 1, none⟩ = some (.int .i64 y.r) ∧ v.cell? ⟨w.heap.size + 1, 2, none⟩ = some (.int .i64 y.s) ∧ v.cell? ⟨w.heap.size + 1, 3, none⟩ = some (.slice ao bl cp))) (by kernel_rfl) (SH.out _ (below_drew _ _)) (fun hHeld => ?_)
    refine wpAnyH_take (i := 0) (oi := _) (v := .agg #[.int .i64 k, .int .i64 r, .int .i64 c, .int .i64 q]) rfl (by kernel_rfl) (by kernel_rfl) (by kernel_rfl) (fun _ _ _ h => h) (Or.inl ⟨by rfl, ?_⟩) (by assumption) ?_
    · intro w' hSw
      try dsimp only at hSw
      go_simp <;> first | with_reducible rfl | assumption
    simp only [Act.put]
    refine wpAnyH_take (i := 1) (oi := _) (v := .pointer (some ⟨w.heap.size + 1, 0, none⟩)) rfl (by kernel_rfl) (by kernel_rfl) (by kernel_rfl) (fun _ _ _ h => h) (Or.inl ⟨by rfl, ?_⟩) (by assumption) ?_
    · intro w' hSw
      try dsimp only at hSw
      go_simp <;> first | with_reducible rfl | assumption
    simp only [Act.put]
    refine wpAnyH_take (i := 2) (oi := _) (v := .int .i64 y.d) rfl (by kernel_rfl) (by kernel_rfl) (by kernel_rfl) (fun _ _ _ h => h) (Or.inl ⟨by rfl, ?_⟩) (by assumption) ?_
    · intro w' hSw
      try dsimp only at hSw
      go_simp <;> first | with_reducible rfl | assumption
    simp only [Act.put]
    refine wpAnyH_take (i := 3) (oi := _) (v := .pointer (some ⟨w.heap.size + 1, 1, none⟩)) rfl (by kernel_rfl) (by kernel_rfl) (by kernel_rfl) (fun _ _ _ h => h) (Or.inl ⟨by rfl, ?_⟩) (by assumption) ?_
    · intro w' hSw
      try dsimp only at hSw
      go_simp <;> first | with_reducible rfl | assumption
    simp only [Act.put]
    refine wpAnyH_take (i := 4) (oi := _) (v := .int .i64 y.r) rfl (by kernel_rfl) (by kernel_rfl) (by kernel_rfl) (fun _ _ _ h => h) (Or.inl ⟨by rfl, ?_⟩) (by assumption) ?_
    · intro w' hSw
      try dsimp only at hSw
      go_simp <;> first | with_reducible rfl | assumption
    simp only [Act.put]
    refine wpAnyH_take (i := 5) (oi := _) (v := .pointer (some ⟨w.heap.size + 1, 2, none⟩)) rfl (by kernel_rfl) (by kernel_rfl) (by kernel_rfl) (fun _ _ _ h => h) (Or.inl ⟨by rfl, ?_⟩) (by assumption) ?_
    · intro w' hSw
      try dsimp only at hSw
      go_simp <;> first | with_reducible rfl | assumption
    simp only [Act.put]
    refine wpAnyH_take (i := 6) (oi := _) (v := .int .i64 y.s) rfl (by kernel_rfl) (by kernel_rfl) (by kernel_rfl) (fun _ _ _ h => h) (Or.inl ⟨by rfl, ?_⟩) (by assumption) ?_
    · intro w' hSw
      try dsimp only at hSw
      go_simp <;> first | with_reducible rfl | assumption
    simp only [Act.put]
    refine wpAnyH_ready (rs := [7]) (by kernel_rfl) (by simp) ?_
    refine AllReadyH.cons (o := _) rfl (fun K hK => ?_) AllReadyH.nil
    go_simp
    refine (HNU.out _).mono ?_
    rintro e wa ⟨rfl, ha⟩
    have HA : Hid (Below w2.heap.size w2 wa) := of_drew ha
    clear ha
    refine hK.out _ _ (SH.out _ HA.out) (fun hHeld => ?_)
    clear hK K
    try simp only [Act.put]
    refine wpAnyH_take (i := 8) (oi := _) (v := .bool false) rfl (by kernel_rfl) (by kernel_rfl) (by kernel_rfl) (fun _ _ _ h => h) (Or.inl ⟨by rfl, ?_⟩) (by assumption) ?_
    · intro w' hSw
      try dsimp only at hSw
      go_simp <;> first | with_reducible rfl | assumption
    simp only [Act.put]
    refine wpAnyH_take (i := 9) (oi := _) (v := .bool false) rfl (by kernel_rfl) (by kernel_rfl) (by kernel_rfl) (fun _ _ _ h => h) (Or.inl ⟨by rfl, ?_⟩) (by assumption) ?_
    · intro w' hSw
      try dsimp only at hSw
      go_simp <;> first | with_reducible rfl | assumption
    simp only [Act.put]
    refine wpAnyH_take (i := 10) (oi := { dst := some 15, op := Op.fieldAddr 35 (Operand.tmp 3) 3, type := 0, pos := "ref.go:64", after := #[{ on := 9, ground := Ground.guard }], guard := some (9, true) }) (v := undef) rfl (by kernel_rfl) (by kernel_rfl) (by kernel_rfl) (fun _ _ _ h => h) (Or.inr ⟨by kernel_rfl, rfl⟩) (by assumption) ?_
    simp only [Act.put]
    refine wpAnyH_take (i := 11) (oi := { dst := some 16, op := Op.load 33 (Operand.tmp 15), type := 33, pos := "ref.go:64", after := #[{ on := 10, ground := Ground.data }, { on := 9, ground := Ground.guard }], guard := some (9, true) }) (v := undef) rfl (by kernel_rfl) (by kernel_rfl) (by kernel_rfl) (fun _ _ _ h => h) (Or.inr ⟨by kernel_rfl, rfl⟩) (by assumption) ?_
    simp only [Act.put]
    refine wpAnyH_take (i := 12) (oi := { dst := some 17, op := Op.call { callee := Callee.builtin Builtin.len, args := #[Operand.tmp 16], argTypes := #[33] }, type := 3, pos := "ref.go:64", after := #[{ on := 11, ground := Ground.data }, { on := 9, ground := Ground.guard }], guard := some (9, true) }) (v := undef) rfl (by kernel_rfl) (by kernel_rfl) (by kernel_rfl) (fun _ _ _ h => h) (Or.inr ⟨by kernel_rfl, rfl⟩) (by assumption) ?_
    simp only [Act.put]
    refine wpAnyH_take (i := 13) (oi := { dst := some 18, op := Op.load 24 (Operand.tmp 2), type := 24, pos := "ref.go:64", after := #[{ on := 9, ground := Ground.guard }], guard := some (9, true) }) (v := undef) rfl (by kernel_rfl) (by kernel_rfl) (by kernel_rfl) (fun _ _ _ h => h) (Or.inr ⟨by kernel_rfl, rfl⟩) (by assumption) ?_
    simp only [Act.put]
    refine wpAnyH_take (i := 14) (oi := { dst := some 19, op := Op.call { callee := Callee.value (Operand.func 57), args := #[Operand.tmp 18], argTypes := #[24] }, type := 3, pos := "ref.go:64", after := #[{ on := 13, ground := Ground.data }, { on := 9, ground := Ground.chain }, { on := 9, ground := Ground.guard }], guard := some (9, true) }) (v := undef) rfl (by kernel_rfl) (by kernel_rfl) (by kernel_rfl) (fun _ _ _ h => h) (Or.inr ⟨by kernel_rfl, rfl⟩) (by assumption) ?_
    simp only [Act.put]
    refine wpAnyH_take (i := 15) (oi := { dst := some 20, op := Op.binOp BinOp.eql 3 (Operand.tmp 17) (Operand.tmp 19) 3, type := 4, pos := "ref.go:64", after := #[{ on := 12, ground := Ground.data }, { on := 14, ground := Ground.data }, { on := 9, ground := Ground.guard }], guard := some (9, true) }) (v := undef) rfl (by kernel_rfl) (by kernel_rfl) (by kernel_rfl) (fun _ _ _ h => h) (Or.inr ⟨by kernel_rfl, rfl⟩) (by assumption) ?_
    simp only [Act.put]
    refine wpAnyH_take (i := 16) (oi := { dst := some 21, op := Op.pick (Operand.tmp 14) (Operand.tmp 20) (Operand.const (Value.bool false)), type := 4, pos := "ref.go:64", after := #[{ on := 9, ground := Ground.data }, { on := 15, ground := Ground.data }], guard := none }) (v := .bool false) rfl (by kernel_rfl) (by kernel_rfl) (by kernel_rfl) (fun _ _ _ h => h) (Or.inl ⟨by rfl, ?_⟩) (by assumption) ?_
    · intro w' hSw
      try dsimp only at hSw
      go_simp <;> first | with_reducible rfl | assumption
    simp only [Act.put]
    refine wpAnyH_take (i := 17) (oi := { dst := some 4, op := Op.assign (Operand.tmp 21), type := 4, pos := "ref.go:64", after := #[{ on := 16, ground := Ground.data }, { on := 14, ground := Ground.chain }, { on := 0, ground := Ground.phase }, { on := 1, ground := Ground.phase }, { on := 2, ground := Ground.phase }, { on := 3, ground := Ground.phase }, { on := 4, ground := Ground.phase }, { on := 5, ground := Ground.phase }, { on := 6, ground := Ground.phase }, { on := 7, ground := Ground.phase }, { on := 8, ground := Ground.phase }, { on := 9, ground := Ground.phase }, { on := 10, ground := Ground.phase }, { on := 11, ground := Ground.phase }, { on := 12, ground := Ground.phase }, { on := 13, ground := Ground.phase }, { on := 14, ground := Ground.phase }, { on := 15, ground := Ground.phase }, { on := 16, ground := Ground.phase }], guard := none }) (v := .bool false) rfl (by kernel_rfl) (by kernel_rfl) (by kernel_rfl) (fun _ _ _ h => h) (Or.inl ⟨by rfl, ?_⟩) (by assumption) ?_
    · intro w' hSw
      try dsimp only at hSw
      go_simp <;> first | with_reducible rfl | assumption
    simp only [Act.put]
    refine wpAnyH_done (by kernel_rfl) ?_ _
    go_wp2_with fail
    go_ret
    exact ⟨by simp [HT.out], below_then HB2.out HA.out⟩
end Go.Proofs.Ytenlfhdchflnjaa
