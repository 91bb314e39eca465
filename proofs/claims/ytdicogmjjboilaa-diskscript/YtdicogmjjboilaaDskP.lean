/- Whether parameters are great; two disks of one image; whether two disks hold and tell the same. -/
import Derived.Test.YtdicogmjjboilaaDskK
import Derived.Test.YtdicogmjjboilaaDskO
namespace Go.Proofs.Ytdicogmjjboilaa
open Go.RowKit

set_option maxHeartbeats 1000000 in
set_option maxRecDepth 100000 in
theorem big_any (k r c q : Int) (w : World) : Calls Try.prog 9 #[.agg #[.int .i64 k, .int .i64 r, .int .i64 c, .int .i64 q]] w fun e w' => (∃ b, e = .returned (.bool b)) ∧ Below w.heap.size w w' := by
  have HM := fun w => May_any k r c q w
  obtain ⟨w0, hw0⟩ : ∃ w0, w0 = w.alloc (.cells #[.int .i64 k, .int .i64 r, .int .i64 c, .int .i64 q] 23) := ⟨_, rfl⟩
  have b0 : Below w.heap.size w w0 := by rw [hw0]; exact below_alloc _ _
  obtain ⟨s0, s1, s2, s3⟩ := par_held hw0 (Below.refl _ _)
  have SH : Hid (∀ v, Below w0.heap.size w0 v → v.cell? ⟨w.heap.size, 0, none⟩ = some (.int .i64 k) ∧ v.cell? ⟨w.heap.size, 1, none⟩ = some (.int .i64 r) ∧ v.cell? ⟨w.heap.size, 2, none⟩ = some (.int .i64 c) ∧ v.cell? ⟨w.heap.size, 3, none⟩ = some (.int .i64 q)) := fun v hv => par_held hw0 hv
  cases hm : may k r c q
  · rw [hm] at HM
    go_enter Try.func9, Try.ntmps9
    go_wp2_with fail
    rw [← hw0]
    clear hw0
    refine wp_region_held_drew (S := fun v => v.cell? ⟨w.heap.size, 0, none⟩ = some (.int .i64 k) ∧ v.cell? ⟨w.heap.size, 1, none⟩ = some (.int .i64 r) ∧ v.cell? ⟨w.heap.size, 2, none⟩ = some (.int .i64 c) ∧ v.cell? ⟨w.heap.size, 3, none⟩ = some (.int .i64 q)) (by kernel_rfl) ⟨s0, s1, s2, s3⟩ (fun hHeld => ?_)
    refine wpAnyH_take (i := 0) (oi := _) (v := .agg #[.int .i64 k, .int .i64 r, .int .i64 c, .int .i64 q]) rfl (by kernel_rfl) (by kernel_rfl) (by kernel_rfl) (fun _ _ _ h => h) (Or.inl ⟨by rfl, ?_⟩) (by assumption) ?_
    · intro w' hSw
      try dsimp only at hSw
      go_simp <;> first | with_reducible rfl | assumption
    simp only [Act.put]
    refine wpAnyH_ready (rs := [1]) (by kernel_rfl) (by simp) ?_
    refine AllReadyH.cons (o := _) rfl (fun K hK => ?_) AllReadyH.nil
    go_simp
    refine (HM _).mono ?_
    rintro e wa ⟨rfl, ha⟩
    obtain ⟨q0, q1, q2, q3⟩ := SH.out _ (of_drew ha)
    refine hK.out _ _ ⟨q0, q1, q2, q3⟩ (fun hHeld => ?_)
    clear hK K
    try simp only [Act.put]
    refine wpAnyH_take (i := 2) (oi := _) (v := .bool false) rfl (by kernel_rfl) (by kernel_rfl) (by kernel_rfl) (fun _ _ _ h => h) (Or.inl ⟨by rfl, ?_⟩) (by assumption) ?_
    · intro w' hSw
      try dsimp only at hSw
      go_simp <;> first | with_reducible rfl | assumption
    simp only [Act.put]
    refine wpAnyH_take (i := 3) (oi := _) (v := undef) rfl (by kernel_rfl) (by kernel_rfl) (by kernel_rfl) (fun _ _ _ h => h) (Or.inr ⟨by rfl, rfl⟩) (by assumption) ?_
    simp only [Act.put]
    refine wpAnyH_take (i := 5) (oi := _) (v := undef) rfl (by kernel_rfl) (by kernel_rfl) (by kernel_rfl) (fun _ _ _ h => h) (Or.inr ⟨by rfl, rfl⟩) (by assumption) ?_
    simp only [Act.put]
    refine wpAnyH_take (i := 6) (oi := _) (v := undef) rfl (by kernel_rfl) (by kernel_rfl) (by kernel_rfl) (fun _ _ _ h => h) (Or.inr ⟨by rfl, rfl⟩) (by assumption) ?_
    simp only [Act.put]
    refine wpAnyH_ready (rs := [4]) (by kernel_rfl) (by simp) ?_
    refine AllReadyH.cons (o := _) rfl (fun K hK => ?_) AllReadyH.nil
    go_simp
    refine hK.out _ _ ⟨q0, q1, q2, q3⟩ (fun hHeld => ?_)
    clear hK K
    try simp only [Act.put]
    refine wpAnyH_take (i := 7) (oi := _) (v := undef) rfl (by kernel_rfl) (by kernel_rfl) (by kernel_rfl) (fun _ _ _ h => h) (Or.inr ⟨by rfl, rfl⟩) (by assumption) ?_
    simp only [Act.put]
    refine wpAnyH_take (i := 8) (oi := _) (v := undef) rfl (by kernel_rfl) (by kernel_rfl) (by kernel_rfl) (fun _ _ _ h => h) (Or.inr ⟨by rfl, rfl⟩) (by assumption) ?_
    simp only [Act.put]
    refine wpAnyH_take (i := 9) (oi := _) (v := .bool false) rfl (by kernel_rfl) (by kernel_rfl) (by kernel_rfl) (fun _ _ _ h => h) (Or.inl ⟨by rfl, ?_⟩) (by assumption) ?_
    · intro w' hSw
      try dsimp only at hSw
      go_simp <;> first | with_reducible rfl | assumption
    simp only [Act.put]
    refine wpAnyH_ready (rs := [10]) (by kernel_rfl) (by simp) ?_
    refine AllReadyH.cons (o := _) rfl (fun K hK => ?_) AllReadyH.nil
    go_simp
    refine hK.out _ _ ⟨q0, q1, q2, q3⟩ (fun hHeld => ?_)
    clear hK K
    try simp only [Act.put]
    refine wpAnyH_done (by kernel_rfl) ?_ _
    go_wp2
    go_ret
    exact ⟨⟨_, rfl⟩, below_then b0 (of_drew ha)⟩
  · rw [hm] at HM
    obtain ⟨N, Q, S, hp⟩ := pm_of hm
    have hb := hp.bounds
    have HN := fun w => N_any c q hp.2.1 hb.2.1 w
    obtain ⟨p, hpp⟩ : ∃ p, p = N * Q := ⟨_, rfl⟩
    rw [← hpp] at hb
    obtain rfl : q = (Q : Int) := hp.2.2.1.symm
    have hv : Value.int .i64 (IntKind.i64.wrap ((N : Int) * (Q : Int))) = .int .i64 (p : Int) := by rw [show (N : Int) * (Q : Int) = ((p : Nat) : Int) by rw [hpp]; simp, show IntKind.i64.wrap (p : Int) = (p : Int) by rw [IntKind.wrap_i64]; omega]
    clear hpp hb hm hp
    go_enter Try.func9, Try.ntmps9
    go_wp2_with fail
    rw [← hw0]
    clear hw0
    go_region_held3 (fun v => v.cell? ⟨w.heap.size, 0, none⟩ = some (.int .i64 k) ∧ v.cell? ⟨w.heap.size, 1, none⟩ = some (.int .i64 r) ∧ v.cell? ⟨w.heap.size, 2, none⟩ = some (.int .i64 c) ∧ v.cell? ⟨w.heap.size, 3, none⟩ = some (.int .i64 (Q : Int))) (go_keep)
      (first | (go_at_call 40; refine (HM _).mono ?_; rintro e wa ⟨rfl, ha⟩; obtain ⟨q0, q1, q2, q3⟩ := SH.out _ (of_drew ha)) | (go_at_call 41; refine (HN _).mono ?_; rintro e wb ⟨rfl, hb⟩; obtain ⟨p0, p1, p2, p3⟩ := SH.out _ (below_then (of_drew ha) hb)))
    all_goals (go_wp2; go_ret; exact ⟨⟨_, rfl⟩, below_then b0 (below_then (of_drew ha) hb)⟩)
/-- Two disks of one image, apart. -/
def Two (w0 w : World) (g1 g2 : Nat) (k r c : Int) (N Q S : Nat) (s1 s2 : St) : Prop := ∃ Y1 Y2, Dk w Y1 g1 k r c N Q S s1 ∧ Dk w Y2 g2 k r c N Q S s2 ∧ (∀ b, Y1 b → ¬ Y2 b) ∧ (∀ b, Y1 b → w0.heap.size ≤ b) ∧ (∀ b, Y2 b → w0.heap.size ≤ b) ∧ Below w0.heap.size w0 w
theorem bad_zero {k r c q : Int} {n : Nat} {F : Nat → List UInt8} (h : ErI k r c q n F 0) : ∃ N Q S, q = ((Q : Nat) : Int) ∧ n = N * Q * 2 ∧ Pm k r c Q N Q S ∧ Fit (N * Q * 2) S F := by
  rcases h with ⟨_, h⟩ | ⟨h, o, _⟩ | ⟨_, _, h⟩
  · cases h
  · obtain ⟨N, Q, S, hp⟩ := pm_of h
    obtain ⟨h1, h2⟩ := (okm_pm hp).1 o
    have e := hp.2.2.1
    subst e
    exact ⟨N, Q, S, rfl, h1, hp, h1 ▸ h2⟩
  · cases h
set_option maxHeartbeats 1000000 in
set_option maxRecDepth 100000 in
theorem two_any (k r c q : Int) (lo : Option Addr) (n cl : Nat) (A : Nat → Option Addr) (C : Nat → Nat) (F : Nat → List UInt8) (w : World) (hl : Lst w lo n A C F) :
    Calls Try.prog 34 #[.agg #[.int .i64 k, .int .i64 r, .int .i64 c, .int .i64 q, .slice lo n cl]] w fun e w' => (∃ x y, e = .returned (.tuple #[x, y, .bool false]) ∧ Below w.heap.size w w') ∨ (∃ g1 g2 N Q S, e = .returned (.tuple #[.pointer (some ⟨g1, 0, none⟩), .pointer (some ⟨g2, 0, none⟩), .bool true]) ∧ q = ((Q : Nat) : Int) ∧ Two w w' g1 g2 k r c N Q S (newSt F) (newSt F)) := by
  have HB := fun w => big_any k r c q w
  obtain ⟨w0, hw0⟩ : ∃ w0, w0 = w.alloc (.cells #[.int .i64 k, .int .i64 r, .int .i64 c, .int .i64 q, .slice lo n cl] 26) := ⟨_, rfl⟩
  have b0 : Below w.heap.size w w0 := by rw [hw0]; exact below_alloc _ _
  have SH : Hid (∀ v, Below w0.heap.size w0 v → v.cell? ⟨w.heap.size, 0, none⟩ = some (.int .i64 k) ∧ v.cell? ⟨w.heap.size, 1, none⟩ = some (.int .i64 r) ∧ v.cell? ⟨w.heap.size, 2, none⟩ = some (.int .i64 c) ∧ v.cell? ⟨w.heap.size, 3, none⟩ = some (.int .i64 q) ∧ v.cell? ⟨w.heap.size, 4, none⟩ = some (.slice lo n cl)) := fun v hv => img_held hw0 hv
  obtain ⟨x, hx⟩ := eri_any k r c q n F
  by_cases h0 : x = 0
  · subst h0
    obtain ⟨N, Q, S, rfl, rfl, hp, hf⟩ := bad_zero hx
    have HO := fun (v : World) hl => Of_ok hp lo cl A C F hf v hl
    have HL : Hid (Lst w lo (N * Q * 2) A C F) := hl
    generalize N * Q * 2 = n at *
    clear hl hp hf hx
    go_enter Try.func34, Try.ntmps34
    go_wp2_with fail
    rw [← hw0]
    clear hw0
    refine (HB _).mono ?_
    rintro e wa ⟨⟨bb, rfl⟩, ha⟩
    obtain ⟨q0, q1, q2, q3, q4⟩ := SH.out _ ha
    cases bb
    · go_wp2_with fail
      refine (HO wa (HL.out.below (below_then b0 ha))).mono ?_
      rintro e wb ⟨g1, rfl, hd1, hb⟩
      have ha2 := below_then ha hb
      obtain ⟨p0, p1, p2, p3, p4⟩ := SH.out _ ha2
      have HD1 : Hid (Dk wb (fun b => wa.heap.size ≤ b ∧ b < wb.heap.size) g1 k r c N Q S (newSt F)) := hd1
      clear hd1 q0 q1 q2 q3 q4
      go_wp2_with fail
      refine (HO wb (HL.out.below (below_then b0 ha2))).mono ?_
      rintro e wc ⟨g2, rfl, hd2, hc⟩
      have HD2 : Hid (Dk wc (fun b => wb.heap.size ≤ b ∧ b < wc.heap.size) g2 k r c N Q S (newSt F)) := hd2
      clear hd2
      go_wp2_with fail
      refine bodyPost_ret (v := .tuple #[.pointer (some ⟨g1, 0, none⟩), .pointer (some ⟨g2, 0, none⟩), .bool true]) (by simp [results, Try.results34, go_sem]) rfl ?_
      have hz := (below_then b0 ha).size
      have hz2 := hb.size
      exact .inr ⟨g1, g2, N, Q, S, rfl, rfl, _, _, HD1.out.below hc, HD2.out, (fun b h1 h2 => by omega), (fun b h1 => by omega), (fun b h1 => by omega), below_then (below_then b0 ha2) hc⟩
    · go_wp2_with fail
      refine bodyPost_ret (v := .tuple #[.pointer none, .pointer none, .bool false]) (by simp [results, Try.results34, go_sem]) rfl ?_
      exact .inl ⟨_, _, rfl, below_then b0 ha⟩
  · have HO := fun (v : World) hl => Of_bad lo n cl A C F x hx h0 v hl
    have HL : Hid (Lst w lo n A C F) := hl
    have e1 : (x == 0) = false := by simp; exact h0
    clear hl hx
    go_enter Try.func34, Try.ntmps34
    go_wp2_with fail
    rw [← hw0]
    clear hw0
    refine (HB _).mono ?_
    rintro e wa ⟨⟨bb, rfl⟩, ha⟩
    obtain ⟨q0, q1, q2, q3, q4⟩ := SH.out _ ha
    cases bb
    · go_wp2_with fail
      refine (HO wa (HL.out.below (below_then b0 ha))).mono ?_
      rintro e wb ⟨rfl, hb⟩
      have ha2 := below_then ha hb
      obtain ⟨p0, p1, p2, p3, p4⟩ := SH.out _ ha2
      clear q0 q1 q2 q3 q4
      go_wp2_with fail
      refine (HO wb (HL.out.below (below_then b0 ha2))).mono ?_
      rintro e wc ⟨rfl, hc⟩
      go_wp2_with fail
      refine bodyPost_ret (v := .tuple #[.pointer none, .pointer none, .bool false]) (by simp [results, Try.results34, go_sem]) rfl ?_
      exact .inl ⟨_, _, rfl, below_then (below_then b0 ha2) hc⟩
    · go_wp2_with fail
      refine bodyPost_ret (v := .tuple #[.pointer none, .pointer none, .bool false]) (by simp [results, Try.results34, go_sem]) rfl ?_
      exact .inl ⟨_, _, rfl, below_then b0 ha⟩
set_option maxHeartbeats 1000000 in
set_option maxRecDepth 100000 in
theorem alike_any (w : World) (Y1 Y2 : Nat → Prop) (g1 g2 : Nat) (k r c : Int) (N Q S : Nat) (s1 s2 : St) (h1 : Dk w Y1 g1 k r c N Q S s1) (h2 : Dk w Y2 g2 k r c N Q S s2) (hF : ∀ i, i < N * Q * 2 → s1.F i = s2.F i) (hw : s1.wr = s2.wr) (ho : s1.off = s2.off) :
    Calls Try.prog 35 #[.pointer (some ⟨g1, 0, none⟩), .pointer (some ⟨g2, 0, none⟩)] w fun e w' => e = .returned (.bool true) ∧ Below w.heap.size w w' := by
  have HI1 := Image_any h1
  have HI2 := fun w' (hb : Below w.heap.size w w') => Image_any (h2.below hb)
  have HW1 := fun w' (hb : Below w.heap.size w w') => Writes_any (h1.below hb)
  have HW2 := fun w' (hb : Below w.heap.size w w') => Writes_any (h2.below hb)
  have HO1 := fun w' (hb : Below w.heap.size w w') => Off_any (h1.below hb)
  have HO2 := fun w' (hb : Below w.heap.size w w') => Off_any (h2.below hb)
  rw [← hw] at HW2
  rw [← ho] at HO2
  have hn2 : N * Q * 2 ≤ 8192 := h1.pm.bounds.2.2.2.2.2.2.2
  have HF : Hid (∀ i, i < N * Q * 2 → s1.F i = s2.F i) := hF
  generalize s1.wr = wv at *
  generalize s1.off = ov at *
  have e1 : (wv != wv) = false := by simp
  generalize N * Q * 2 = n at *
  clear h1 h2 hF
  go_enter Try.func35, Try.ntmps35
  go_wp2_with fail
  refine HI1.mono ?_
  rintro e wa ⟨m1, A1, C1, rfl, hs1, _, ha⟩
  have HS1 : Hid (Slots wa (fun b => w.heap.size ≤ b ∧ b < wa.heap.size) m1 n A1 C1 s1.F) := hs1
  clear hs1
  go_wp2_with fail
  obtain ⟨wb, hwb⟩ : ∃ wb, wb = wa.alloc (.cells #[.int .i64 k, .int .i64 r, .int .i64 c, .int .i64 (Q : Int), .slice (some ⟨m1, 0, none⟩) n n] 26) := ⟨_, rfl⟩
  rw [← hwb]
  have hb : Below wa.heap.size wa wb := by rw [hwb]; exact below_alloc _ _
  have zb : wb.heap.size = wa.heap.size + 1 := by rw [hwb]; simp
  refine (HI2 wb (below_then ha hb)).mono ?_
  rintro e wc ⟨m2, A2, C2, rfl, hs2, _, hc⟩
  have HS2 : Hid (Slots wc (fun b => wb.heap.size ≤ b ∧ b < wc.heap.size) m2 n A2 C2 s2.F) := hs2
  obtain ⟨i0, i1, i2, i3, i4⟩ := img_held hwb hc
  clear hs2 hwb
  have k0 := fun o => held i0 (below_alloc wc o)
  have k1 := fun o => held i1 (below_alloc wc o)
  have k2 := fun o => held i2 (below_alloc wc o)
  have k3 := fun o => held i3 (below_alloc wc o)
  have k4 := fun o => held i4 (below_alloc wc o)
  have HB : Hid (Below w.heap.size w wc) := below_then (below_then ha hb) hc
  have HB1 : Hid (Below wa.heap.size wa wc) := below_then hb hc
  clear ha hb hc i0 i1 i2 i3 i4
  go_wp2_with (first
    | (go_at_call_of 37 (Value.pointer (some ⟨g1, 0, none⟩)); refine (HW1 _ (below_then HB.out (below_alloc wc _))).mono ?_; rintro e w' ⟨rfl, hw'⟩; obtain rfl := hw'.symm)
    | (go_at_call_of 37 (Value.pointer (some ⟨g2, 0, none⟩)); refine (HW2 _ (below_then HB.out (below_alloc wc _))).mono ?_; rintro e w' ⟨rfl, hw'⟩; obtain rfl := hw'.symm)
    | (go_at_call_of 36 (Value.pointer (some ⟨g1, 0, none⟩)); refine (HO1 _ (below_then HB.out (below_alloc wc _))).mono ?_; rintro e w' ⟨rfl, hw'⟩; obtain rfl := hw'.symm)
    | (go_at_call_of 36 (Value.pointer (some ⟨g2, 0, none⟩)); refine (HO2 _ (below_then HB.out (below_alloc wc _))).mono ?_; rintro e w' ⟨rfl, hw'⟩; obtain rfl := hw'.symm))
  obtain ⟨wd, hwd⟩ : ∃ wd, wd = wc.alloc (.cells #[.int .i64 k, .int .i64 r, .int .i64 c, .int .i64 (Q : Int), .slice (some ⟨m2, 0, none⟩) n n] 26) := ⟨_, rfl⟩
  rw [← hwd]
  have hd : Below wc.heap.size wc wd := by rw [hwd]; exact below_alloc _ _
  have x4 : wd.cell? ⟨wa.heap.size, 4, none⟩ = some (.slice (some ⟨m1, 0, none⟩) n n) := by rw [hwd]; exact k4 _
  obtain ⟨_, _, _, _, y4⟩ := img_held hwd (Below.refl _ _)
  have HD : Hid (Below w.heap.size w wd) := below_then HB.out hd
  have HT1 : Hid (Slots wd (fun b => w.heap.size ≤ b ∧ b < wa.heap.size) m1 n A1 C1 s1.F) := HS1.out.only (X := fun _ => False) (.of_below (below_then HB1.out hd)) (fun _ _ h => h)
  have HT2 : Hid (Slots wd (fun b => wb.heap.size ≤ b ∧ b < wc.heap.size) m2 n A2 C2 s2.F) := HS2.out.only (X := fun _ => False) (.of_below hd) (fun _ _ h => h)
  clear hwd hd k0 k1 k2 k3 k4 HS1 HS2 HB HB1 HI1 HI2 HW1 HW2 HO1 HO2
  go_loopw [9] (fun x wr => ∃ i : Nat, i ≤ n ∧ x = .int .i64 i ∧ Hid (∃ q, wr = wd.drewN q)) (fun x _ => n - (intOf x).toNat)
  case atStart => exact ⟨0, Nat.zero_le _, rfl, 0, rfl⟩
  case round =>
    obtain ⟨i, hi, rfl, hq⟩ := hrel
    have hdr : ∀ a, wr.cell? a = wd.cell? a := by obtain ⟨q, rfl⟩ := hq.out; exact fun _ => rfl
    have z4 : wr.cell? ⟨wa.heap.size, 4, none⟩ = some (.slice (some ⟨m1, 0, none⟩) n n) := by rw [hdr]; exact x4
    have t4 : wr.cell? ⟨wc.heap.size, 4, none⟩ = some (.slice (some ⟨m2, 0, none⟩) n n) := by rw [hdr]; exact y4
    by_cases hlt : i < n
    · have d1 : wr.cell? ⟨m1, i, none⟩ = some (.slice (A1 i) (s1.F i).length (C1 i)) := by rw [hdr]; exact HT1.out.row.cell hlt
      have d2 : wr.cell? ⟨m2, i, none⟩ = some (.slice (A2 i) (s2.F i).length (C2 i)) := by rw [hdr]; exact HT2.out.row.cell hlt
      obtain ⟨X, hX⟩ : ∃ X, X = s1.F i := ⟨_, rfl⟩
      have hbd : ∀ m, Below wd.heap.size wd (wr.drewN m) := by obtain ⟨q, rfl⟩ := hq.out; exact fun m => ⟨rfl, rfl, rfl, Nat.le_refl _, fun _ _ => rfl⟩
      have v1 : ∀ m, (convert 43 9 (.slice (A1 i) X.length (C1 i))).run Try.prog (wr.drewN m) = .ok (.string (sOf X)) (wr.drewN m) := fun m => by rw [hX]; exact conv_any ((HT1.out.rd i hlt).below (hbd m)) _ _ rfl
      have v2 : ∀ m, (convert 43 9 (.slice (A2 i) X.length (C2 i))).run Try.prog (wr.drewN m) = .ok (.string (sOf X)) (wr.drewN m) := fun m => by rw [hX, HF.out i hlt]; exact conv_any ((HT2.out.rd i hlt).below (hbd m)) _ _ rfl
      rw [← hX] at d1
      rw [← HF.out i hlt, ← hX] at d2
      have i1 : (0 : Int) ≤ (i : Int) := by omega
      have i2 : (i : Int) < (n : Int) := by omega
      clear hX hdr hbd x4 y4
      go_wp2
      go_quiet (fail)
      go_wp2
      go_roundw
      case rel =>
        obtain ⟨q, hq2⟩ := hq.out
        exact ⟨i + 1, by omega, by go_num, q + nq, by rw [hq2]; simp [World.drewN, Nat.add_assoc]⟩
      case measure => simp [intOf]; omega
    · obtain rfl : i = n := by omega
      clear hdr x4 y4
      go_wp2
      go_ret
      obtain ⟨q, rfl⟩ := hq.out
      exact ⟨rfl, below_then HD.out ⟨rfl, rfl, rfl, Nat.le_refl _, fun _ _ => rfl⟩⟩
end Go.Proofs.Ytdicogmjjboilaa
