/- Slots of drives: copied, whether a raw write may be made, one slot written, one read. -/
import Derived.Test.YtdicogmjjboilaaDskB
import Derived.Deep.RegionWith
namespace Go.Proofs.Ytdicogmjjboilaa
open Go.RowKit

def upto (i : Nat) (F : Nat → List UInt8) (j : Nat) : List UInt8 := if j < i then F j else []
theorem upto_zero (F : Nat → List UInt8) : upto 0 F = fun _ => [] := by funext j; exact if_neg (Nat.not_lt_zero j)
theorem upto_all {n : Nat} (F : Nat → List UInt8) (j : Nat) (h : j < n) : upto n F j = F j := if_pos h
theorem upto_succ (i : Nat) (F : Nat → List UInt8) (j : Nat) : upd i (F i) (upto i F) j = upto (i + 1) F j := by
  unfold upd upto
  by_cases e : j = i
  · subst e; rw [if_pos rfl, if_pos (by omega)]
  · rw [if_neg e]
    by_cases h : j < i
    · rw [if_pos h, if_pos (by omega)]
    · rw [if_neg h, if_neg (by omega)]
set_option maxHeartbeats 1000000 in
set_option maxRecDepth 100000 in
theorem allCopied_any (w : World) (lo : Option Addr) (n cl : Nat) (A : Nat → Option Addr) (C : Nat → Nat) (F : Nat → List UInt8) (hn : n ≤ 1000000) (hl : Lst w lo n A C F) (hf : ∀ i, i < n → (F i).length ≤ 1000000) :
    Calls Try.prog 43 #[.slice lo n cl] w fun e w' => e = .returned (.slice (some ⟨w.heap.size, 0, none⟩) n n) ∧ (∃ A' C', Slots w' (fun b => w.heap.size ≤ b ∧ b < w'.heap.size) w.heap.size n A' C' F ∧ ∀ i, i < n → OwB w.heap.size w' (A' i) (C' i) (F i)) ∧ Below w.heap.size w w' := by
  obtain ⟨i0, hi, hz0, hz1, hz2⟩ := info_parts info43
  have HL : Hid (Lst w lo n A C F) := hl
  have HF : Hid (∀ i, i < n → (F i).length ≤ 1000000) := hf
  have hmk := run_make_row (P := Try.prog) 24 43 i0 (.slice none 0 0) Try.underlying24 hi hz0 hz1 (by rfl) .i64 .i64 n (by rw [hz2]; omega) (by omega) w
  obtain ⟨w0, hw0⟩ : ∃ w0, w0 = w.alloc (.cells (madeCells #[.slice none 0 0] n) 43) := ⟨_, rfl⟩
  have b0 : Below w.heap.size w w0 := by rw [hw0]; exact below_alloc _ _
  have z0 : w0.heap.size = w.heap.size + 1 := by rw [hw0]; simp
  have HS : Hid (Slots w0 (fun b => w.heap.size ≤ b) w.heap.size n (fun _ => none) (fun _ => 0) (upto 0 F)) := by
    refine ⟨?_, fun i hi => ?_, (fun i a _ h => by cases h), fun i hi _ => ⟨by rw [upto_zero], rfl⟩, Nat.le_refl _⟩
    · rw [hw0, upto_zero]; exact World.rowIs_made w _ n 43
    · rw [upto_zero]; exact rdb_nil _ _
  rw [← hw0] at hmk
  clear hl hf hw0
  go_enter Try.func43, Try.ntmps43
  go_wp2_with fail
  go_loopw [4, 5, 11] (fun _ _ x wr => ∃ i : Nat, i ≤ n ∧ x = .int .i64 i ∧ Hid (∃ A' C', Slots wr (fun b => w.heap.size ≤ b) w.heap.size n A' C' (upto i F) ∧ (∀ j, j < i → OwB (w.heap.size + 1) wr (A' j) (C' j) (F j))) ∧ Hid (Below w.heap.size w wr) ∧ Hid (w.heap.size + 1 ≤ wr.heap.size)) (fun _ _ x _ => n - (intOf x).toNat)
  case atStart => exact ⟨0, Nat.zero_le _, rfl, ⟨_, _, HS.out, fun j hj => absurd hj (Nat.not_lt_zero _)⟩, b0, by show _ ≤ _; omega⟩
  case round =>
    obtain ⟨i, hi, rfl, hs, hb, hz⟩ := hrel
    by_cases hlt : i < n
    · obtain ⟨b, off, rfl, hc⟩ := HL.out.at_ (by omega)
      have ck := (HL.out.below hb.out).at_ (by omega)
      obtain ⟨b', off', e', hc'⟩ := ck
      cases e'
      have ck := hc' i hlt
      have HC := copied_any wr (A i) (F i).length (C i) (F i) ((HL.out.rd i hlt).below hb.out) rfl (HL.out.nil i hlt) (HF.out i hlt)
      clear hc hc'
      have i1 : (0 : Int) ≤ (i : Int) := by omega
      have i2 : (i : Int) < (n : Int) := by omega
      go_wp2_with fail
      refine HC.mono ?_
      rintro e wa ⟨ao, cap, rfl, ho, ha⟩
      obtain ⟨A', C', hs1, hs2⟩ := hs.out
      have HX : Hid (Slots wa (fun b => w.heap.size ≤ b) w.heap.size n A' C' (upto i F)) := hs1.only (X := fun _ => False) (.of_below ha) (fun _ _ h => h)
      have cc : wa.cell? ⟨w.heap.size, i, none⟩ = some (.slice (A' i) (upto i F i).length (C' i)) := HX.out.row.cell hlt
      have cf := HX.out.row.frozen i
      have HO : Hid (OwB (w.heap.size + 1) wa ao cap (F i)) := ho.mono hz.out
      have HA : Hid (Below wr.heap.size wr wa) := ha
      have HS2 : Hid (∀ j, j < i → OwB (w.heap.size + 1) wa (A' j) (C' j) (F j)) := fun j hj => (hs2 j hj).below ha
      clear hs1 hs2 ho ha
      go_wp2_with fail
      go_roundw
      case rel =>
        refine ⟨i + 1, by omega, by go_num, ⟨upd i ao A', upd i cap C', ?_, fun j hj => ?_⟩, ?_, ?_⟩
        · refine (HX.out.put i ao cap (F i) HO.out.rd (fun a ha => ?_) HO.out.nil).congr fun j _ => upto_succ i F j
          have := (HO.out.at_ ha).1
          exact ⟨by omega, by omega⟩
        · have hoth : ∀ x c y, OwB (w.heap.size + 1) wa x c y → OwB (w.heap.size + 1) (wa.setCell ⟨w.heap.size, i, none⟩ (.slice ao (F i).length cap)) x c y := fun x c y h => h.stay fun g hg _ => Below.heap_setCell _ _ _ _ (by show g ≠ w.heap.size; omega)
          by_cases e : j = i
          · subst e; rw [upd_at, upd_at]; exact hoth _ _ _ HO.out
          · rw [upd_ne _ _ e, upd_ne _ _ e]; exact hoth _ _ _ (HS2.out j (by omega))
        · exact (below_step hb.out HA.out hb.out.size).setCell (Nat.le_refl _) _
        · have h1 := HA.out.size
          have h2 := hz.out
          show _ ≤ (wa.setCell _ _).heap.size
          simp [World.setCell]
          omega
      case measure => simp [intOf]; omega
    · obtain rfl : i = n := by omega
      go_wp2_with fail
      go_ret
      obtain ⟨A', C', hs1, hs2⟩ := hs.out
      refine ⟨rfl, ⟨A', C', ?_, fun j hj => (hs2 j hj).mono (by omega)⟩, hb.out⟩
      have h1 := hs1.congr (G := F) fun j hj => upto_all F j hj
      refine ⟨h1.row, h1.rd, fun j a hj ha => ⟨⟨(h1.at_ j a hj ha).1, ((hs2 j hj).at_ ha).2⟩, (h1.at_ j a hj ha).2⟩, h1.nil, ⟨Nat.le_refl _, h1.row.lt⟩⟩
theorem x_held {w w0 w1 : World} {d o s : Int} {sl : Value} (h0 : w0 = w.alloc (.cells #[.int .i64 d, .int .i64 o, .int .i64 s, sl] 45)) (hb : Below w0.heap.size w0 w1) :
    w1.cell? ⟨w.heap.size, 0, none⟩ = some (.int .i64 d) ∧ w1.cell? ⟨w.heap.size, 1, none⟩ = some (.int .i64 o) ∧ w1.cell? ⟨w.heap.size, 2, none⟩ = some (.int .i64 s) ∧ w1.cell? ⟨w.heap.size, 3, none⟩ = some sl := par_held h0 hb
set_option maxHeartbeats 1000000 in
set_option maxRecDepth 100000 in
theorem takes_any {k r c : Int} {N Q S : Nat} (h : Pm k r c Q N Q S) (d o s : Int) (ao : Option Addr) (n cp : Nat) (b : List UInt8) (hn : n = b.length) (w : World) (g : Nat) (c0 : w.cell? ⟨g, 0, none⟩ = some (.int .i64 k)) (c1 : w.cell? ⟨g, 1, none⟩ = some (.int .i64 r)) (c2 : w.cell? ⟨g, 2, none⟩ = some (.int .i64 c)) (c3 : w.cell? ⟨g, 3, none⟩ = some (.int .i64 (Q : Int))) :
    Calls Try.prog 62 #[.pointer (some ⟨g, 0, none⟩), .agg #[.int .i64 d, .int .i64 o, .int .i64 s, .slice ao n cp]] w fun e w' => e = .returned (.bool (takB N Q S ⟨d, o, s, b⟩)) ∧ Below w.heap.size w w' := by
  have HC := fun w c0 c1 c2 c3 => has_any h d o s w g c0 c1 c2 c3
  have HZ := fun w => slotSize_any h w
  have HT : Hid (takB N Q S ⟨d, o, s, b⟩ = (hasB N Q d o s && decide (n = S))) := by show _ = _; unfold takB; rw [hn]
  clear h hn
  obtain ⟨w0, hw0⟩ : ∃ w0, w0 = w.alloc (.cells #[.int .i64 d, .int .i64 o, .int .i64 s, .slice ao n cp] 45) := ⟨_, rfl⟩
  have b0 : Below w.heap.size w w0 := by rw [hw0]; exact below_alloc _ _
  obtain ⟨s0, s1, s2, s3⟩ := x_held hw0 (Below.refl _ _)
  have t0 := held c0 b0
  have t1 := held c1 b0
  have t2 := held c2 b0
  have t3 := held c3 b0
  have SH : Hid (∀ v, Below w0.heap.size w0 v → v.cell? ⟨w.heap.size, 0, none⟩ = some (.int .i64 d) ∧ v.cell? ⟨w.heap.size, 1, none⟩ = some (.int .i64 o) ∧ v.cell? ⟨w.heap.size, 2, none⟩ = some (.int .i64 s) ∧ v.cell? ⟨w.heap.size, 3, none⟩ = some (.slice ao n cp) ∧ v.cell? ⟨g, 0, none⟩ = some (.int .i64 k) ∧ v.cell? ⟨g, 1, none⟩ = some (.int .i64 r) ∧ v.cell? ⟨g, 2, none⟩ = some (.int .i64 c) ∧ v.cell? ⟨g, 3, none⟩ = some (.int .i64 (Q : Int))) :=
    fun v hv => ⟨held s0 hv, held s1 hv, held s2 hv, held s3 hv, held t0 hv, held t1 hv, held t2 hv, held t3 hv⟩
  clear c0 c1 c2 c3
  cases hh : hasB N Q d o s
  · rw [hh] at HC
    go_enter Try.func62, Try.ntmps62
    go_wp2_with fail
    rw [← hw0]
    clear hw0
    refine wp_region_held_drew (S := fun v => v.cell? ⟨w.heap.size, 0, none⟩ = some (.int .i64 d) ∧ v.cell? ⟨w.heap.size, 1, none⟩ = some (.int .i64 o) ∧ v.cell? ⟨w.heap.size, 2, none⟩ = some (.int .i64 s)) (by kernel_rfl) ⟨s0, s1, s2⟩ (fun hHeld => ?_)
    refine wpAnyH_take (i := 0) (oi := _) (v := .pointer (some ⟨g, 0, none⟩)) rfl (by kernel_rfl) (by kernel_rfl) (by kernel_rfl) (fun _ _ _ h => h) (Or.inl ⟨by rfl, ?_⟩) (by assumption) ?_
    · intro w' hSw
      try dsimp only at hSw
      go_simp <;> first | with_reducible rfl | assumption
    simp only [Act.put]
    refine wpAnyH_take (i := 1) (oi := _) (v := .pointer (some ⟨w.heap.size, 0, none⟩)) rfl (by kernel_rfl) (by kernel_rfl) (by kernel_rfl) (fun _ _ _ h => h) (Or.inl ⟨by rfl, ?_⟩) (by assumption) ?_
    · intro w' hSw
      try dsimp only at hSw
      go_simp <;> first | with_reducible rfl | assumption
    simp only [Act.put]
    refine wpAnyH_take (i := 2) (oi := _) (v := .int .i64 d) rfl (by kernel_rfl) (by kernel_rfl) (by kernel_rfl) (fun _ _ _ h => h) (Or.inl ⟨by rfl, ?_⟩) (by assumption) ?_
    · intro w' hSw
      try dsimp only at hSw
      go_simp <;> first | with_reducible rfl | assumption
    simp only [Act.put]
    refine wpAnyH_take (i := 3) (oi := _) (v := .pointer (some ⟨w.heap.size, 1, none⟩)) rfl (by kernel_rfl) (by kernel_rfl) (by kernel_rfl) (fun _ _ _ h => h) (Or.inl ⟨by rfl, ?_⟩) (by assumption) ?_
    · intro w' hSw
      try dsimp only at hSw
      go_simp <;> first | with_reducible rfl | assumption
    simp only [Act.put]
    refine wpAnyH_take (i := 4) (oi := _) (v := .int .i64 o) rfl (by kernel_rfl) (by kernel_rfl) (by kernel_rfl) (fun _ _ _ h => h) (Or.inl ⟨by rfl, ?_⟩) (by assumption) ?_
    · intro w' hSw
      try dsimp only at hSw
      go_simp <;> first | with_reducible rfl | assumption
    simp only [Act.put]
    refine wpAnyH_take (i := 5) (oi := _) (v := .pointer (some ⟨w.heap.size, 2, none⟩)) rfl (by kernel_rfl) (by kernel_rfl) (by kernel_rfl) (fun _ _ _ h => h) (Or.inl ⟨by rfl, ?_⟩) (by assumption) ?_
    · intro w' hSw
      try dsimp only at hSw
      go_simp <;> first | with_reducible rfl | assumption
    simp only [Act.put]
    refine wpAnyH_take (i := 6) (oi := _) (v := .int .i64 s) rfl (by kernel_rfl) (by kernel_rfl) (by kernel_rfl) (fun _ _ _ h => h) (Or.inl ⟨by rfl, ?_⟩) (by assumption) ?_
    · intro w' hSw
      try dsimp only at hSw
      go_simp <;> first | with_reducible rfl | assumption
    simp only [Act.put]
    refine wpAnyH_ready (rs := [7]) (by kernel_rfl) (by simp) ?_
    refine AllReadyH.cons (o := _) rfl (fun K hK => ?_) AllReadyH.nil
    go_simp
    refine (HC w0.drew t0 t1 t2 t3).mono ?_
    rintro e wa ⟨rfl, ha⟩
    obtain ⟨q0, q1, q2, q3, q4, q5, q6, q7⟩ := SH.out _ (of_drew ha)
    refine hK.out _ _ ⟨q0, q1, q2⟩ (fun hHeld => ?_)
    clear hK K
    try simp only [Act.put]
    refine wpAnyH_take (i := 8) (oi := _) (v := .bool false) rfl (by kernel_rfl) (by kernel_rfl) (by kernel_rfl) (fun _ _ _ h => h) (Or.inl ⟨by rfl, ?_⟩) (by assumption) ?_
    · intro w' hSw
      try dsimp only at hSw
      go_simp <;> first | with_reducible rfl | assumption
    simp only [Act.put]
    refine wpAnyH_take (i := 9) (oi := _) (v := undef) rfl (by kernel_rfl) (by kernel_rfl) (by kernel_rfl) (fun _ _ _ h => h) (Or.inr ⟨by rfl, rfl⟩) (by assumption) ?_
    simp only [Act.put]
    refine wpAnyH_take (i := 10) (oi := _) (v := undef) rfl (by kernel_rfl) (by kernel_rfl) (by kernel_rfl) (fun _ _ _ h => h) (Or.inr ⟨by rfl, rfl⟩) (by assumption) ?_
    simp only [Act.put]
    refine wpAnyH_take (i := 11) (oi := _) (v := undef) rfl (by kernel_rfl) (by kernel_rfl) (by kernel_rfl) (fun _ _ _ h => h) (Or.inr ⟨by rfl, rfl⟩) (by assumption) ?_
    simp only [Act.put]
    refine wpAnyH_take (i := 12) (oi := _) (v := undef) rfl (by kernel_rfl) (by kernel_rfl) (by kernel_rfl) (fun _ _ _ h => h) (Or.inr ⟨by rfl, rfl⟩) (by assumption) ?_
    simp only [Act.put]
    refine wpAnyH_take (i := 13) (oi := _) (v := undef) rfl (by kernel_rfl) (by kernel_rfl) (by kernel_rfl) (fun _ _ _ h => h) (Or.inr ⟨by rfl, rfl⟩) (by assumption) ?_
    simp only [Act.put]
    refine wpAnyH_take (i := 14) (oi := _) (v := undef) rfl (by kernel_rfl) (by kernel_rfl) (by kernel_rfl) (fun _ _ _ h => h) (Or.inr ⟨by rfl, rfl⟩) (by assumption) ?_
    simp only [Act.put]
    refine wpAnyH_take (i := 15) (oi := _) (v := undef) rfl (by kernel_rfl) (by kernel_rfl) (by kernel_rfl) (fun _ _ _ h => h) (Or.inr ⟨by rfl, rfl⟩) (by assumption) ?_
    simp only [Act.put]
    refine wpAnyH_ready (rs := [16]) (by kernel_rfl) (by simp) ?_
    refine AllReadyH.cons (o := _) rfl (fun K hK => ?_) AllReadyH.nil
    go_simp
    refine hK.out _ _ ⟨q0, q1, q2⟩ (fun hHeld => ?_)
    clear hK K
    try simp only [Act.put]
    refine wpAnyH_take (i := 17) (oi := _) (v := undef) rfl (by kernel_rfl) (by kernel_rfl) (by kernel_rfl) (fun _ _ _ h => h) (Or.inr ⟨by rfl, rfl⟩) (by assumption) ?_
    simp only [Act.put]
    refine wpAnyH_take (i := 18) (oi := _) (v := .bool false) rfl (by kernel_rfl) (by kernel_rfl) (by kernel_rfl) (fun _ _ _ h => h) (Or.inl ⟨by rfl, ?_⟩) (by assumption) ?_
    · intro w' hSw
      try dsimp only at hSw
      go_simp <;> first | with_reducible rfl | assumption
    simp only [Act.put]
    refine wpAnyH_ready (rs := [19]) (by kernel_rfl) (by simp) ?_
    refine AllReadyH.cons (o := _) rfl (fun K hK => ?_) AllReadyH.nil
    go_simp
    refine hK.out _ _ ⟨q0, q1, q2⟩ (fun hHeld => ?_)
    clear hK K
    try simp only [Act.put]
    refine wpAnyH_done (by kernel_rfl) ?_ _
    go_wp2
    go_ret
    refine ⟨ret_bool ?_, below_then b0 (of_drew ha)⟩
    rw [HT.out, hh]; rfl
  · rw [hh] at HC
    have HE : Hid (((n : Int) == (S : Int)) = decide (n = S)) := by
      show _ = _
      rw [Bool.eq_iff_iff]; simp; omega
    obtain ⟨eb, heb⟩ : ∃ eb, decide (n = S) = eb := ⟨_, rfl⟩
    rw [heb] at HE HT
    have he : ((n : Int) == (S : Int)) = eb := HE.out
    go_enter Try.func62, Try.ntmps62
    go_wp2_with fail
    rw [← hw0]
    clear hw0 HE heb
    go_region_held3 (fun v => v.cell? ⟨w.heap.size, 0, none⟩ = some (.int .i64 d) ∧ v.cell? ⟨w.heap.size, 1, none⟩ = some (.int .i64 o) ∧ v.cell? ⟨w.heap.size, 2, none⟩ = some (.int .i64 s) ∧ v.cell? ⟨w.heap.size, 3, none⟩ = some (.slice ao n cp) ∧ v.cell? ⟨g, 0, none⟩ = some (.int .i64 k) ∧ v.cell? ⟨g, 1, none⟩ = some (.int .i64 r) ∧ v.cell? ⟨g, 2, none⟩ = some (.int .i64 c) ∧ v.cell? ⟨g, 3, none⟩ = some (.int .i64 (Q : Int))) (go_keep)
      (first | (go_at_call 48; refine (HC w0.drew t0 t1 t2 t3).mono ?_; rintro e wa ⟨rfl, ha⟩; obtain ⟨q0, q1, q2, q3, q4, q5, q6, q7⟩ := SH.out _ (of_drew ha)) | (go_at_call 60; refine (HZ _).mono ?_; rintro e wb ⟨rfl, hb⟩; obtain ⟨p0, p1, p2, p3, p4, p5, p6, p7⟩ := SH.out _ (below_then (of_drew ha) hb)))
    all_goals (go_wp2; go_ret; refine ⟨ret_bool ?_, below_then b0 (below_then (of_drew ha) hb)⟩; rw [HT.out, hh, Bool.true_and])
end Go.Proofs.Ytdicogmjjboilaa
