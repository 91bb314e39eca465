/- The document's disk: places, errors of images, cuts, power, wipes forgotten, slots read. -/
import Derived.Test.YtdicogmjjboilaaDskW
namespace Go.Proofs.Ytdicogmjjboilaa
open Go.RowKit

def thr (N Q : Nat) (d o s : Int) : Int := if hasB N Q d o s = true then ((plc Q d o s : Nat) : Int) else -1
set_option maxHeartbeats 1000000 in
set_option maxRecDepth 100000 in
theorem There_any {k r c : Int} {N Q S : Nat} (hp : Pm k r c Q N Q S) (d o s : Int) (w : World) :
    Calls Try.prog 50 #[.agg #[.int .i64 k, .int .i64 r, .int .i64 c, .int .i64 (Q : Int)], .int .i64 d, .int .i64 o, .int .i64 s] w fun e w' => e = .returned (.int .i64 (thr N Q d o s)) ∧ Below w.heap.size w w' := by
  obtain ⟨hN1, hN2, hQ1, hQ2, _⟩ := hp.bounds
  have HN := fun w => N_any (k := k) (r := r) c (Q : Int) hp.2.1 hN2 w
  obtain ⟨w0, hw0⟩ : ∃ w0, w0 = w.alloc (.cells #[.int .i64 k, .int .i64 r, .int .i64 c, .int .i64 (Q : Int)] 23) := ⟨_, rfl⟩
  have b0 : Below w.heap.size w w0 := by rw [hw0]; exact below_alloc _ _
  have SH : Hid (∀ v, Below w0.heap.size w0 v → v.cell? ⟨w.heap.size, 0, none⟩ = some (.int .i64 k) ∧ v.cell? ⟨w.heap.size, 1, none⟩ = some (.int .i64 r) ∧ v.cell? ⟨w.heap.size, 2, none⟩ = some (.int .i64 c) ∧ v.cell? ⟨w.heap.size, 3, none⟩ = some (.int .i64 (Q : Int))) := fun v hv => par_held hw0 hv
  clear hp
  cases hh : hasB N Q d o s
  · have HT : Hid (thr N Q d o s = -1) := by show _ = _; unfold thr; rw [hh]; rfl
    have HNO : Hid (¬ ((0 ≤ d ∧ d < (N : Int)) ∧ (0 ≤ o ∧ o < (Q : Int)) ∧ (0 ≤ s ∧ s < 2))) := by have := of_decide_eq_false hh; exact this
    by_cases hd0 : d < 0
    · go_enter Try.func50, Try.ntmps50
      go_wp2_with fail
      all_goals (go_ret; refine ⟨ret_int HT.out.symm, ?_⟩; exact below_alloc _ _)
    · have hd1 : 0 ≤ d := by omega
      go_enter Try.func50, Try.ntmps50
      go_wp2_with fail
      rw [← hw0]
      clear hw0
      refine (HN _).mono ?_
      rintro e wa ⟨rfl, ha⟩
      obtain ⟨p0, p1, p2, p3⟩ := SH.out _ ha
      have HB : Hid (Below w.heap.size w wa) := below_then b0 ha
      clear ha b0
      by_cases h2 : (N : Int) ≤ d
      · go_wp2_with fail
        all_goals (go_ret; exact ⟨ret_int HT.out.symm, HB.out⟩)
      · have h2' : d < (N : Int) := by omega
        by_cases h3 : o < 0
        · go_wp2_with fail
          all_goals (go_ret; exact ⟨ret_int HT.out.symm, HB.out⟩)
        · have h3' : 0 ≤ o := by omega
          by_cases h4 : (Q : Int) ≤ o
          · go_wp2_with fail
            all_goals (go_ret; exact ⟨ret_int HT.out.symm, HB.out⟩)
          · have h4' : o < (Q : Int) := by omega
            by_cases h5 : s < 0
            · go_wp2_with fail
              all_goals (go_ret; exact ⟨ret_int HT.out.symm, HB.out⟩)
            · have h5' : 0 ≤ s := by omega
              have h6 : 1 < s := by have := HNO.out; omega
              go_wp2_with fail
              all_goals (go_ret; exact ⟨ret_int HT.out.symm, HB.out⟩)
  · obtain ⟨⟨h1, h2⟩, ⟨h3, h4⟩, h5, h6⟩ := has_true hh
    obtain ⟨p, hpd, hp2⟩ : ∃ p : Nat, d * (Q : Int) = (p : Int) ∧ p ≤ 4096 := by
      obtain ⟨a, rfl⟩ := Int.eq_ofNat_of_zero_le h1
      have : a * Q ≤ 16 * 256 := Nat.mul_le_mul (by omega) hQ2
      exact ⟨a * Q, by simp, by omega⟩
    have HT : Hid (((p : Int) + o) * 2 + s = thr N Q d o s) := by show _ = _; unfold thr; rw [if_pos hh, plc_cast h1 h3 h5, hpd]
    have hv : Value.int .i64 (wrap64 (d * (Q : Int))) = .int .i64 (p : Int) := by rw [hpd, w64 _ (by omega)]
    have g1 : ¬ d < 0 := by omega
    have g2 : ¬ (N : Int) ≤ d := by omega
    have g3 : ¬ o < 0 := by omega
    have g4 : ¬ (Q : Int) ≤ o := by omega
    have g5 : ¬ s < 0 := by omega
    have g6 : ¬ 1 < s := by omega
    clear hpd hh
    go_enter Try.func50, Try.ntmps50
    go_wp2_with fail
    rw [← hw0]
    clear hw0
    refine (HN _).mono ?_
    rintro e wa ⟨rfl, ha⟩
    obtain ⟨p0, p1, p2, p3⟩ := SH.out _ ha
    have HB : Hid (Below w.heap.size w wa) := below_then b0 ha
    clear ha b0
    go_wp2_with fail
    go_ret
    exact ⟨ret_int HT.out, HB.out⟩
set_option maxHeartbeats 1000000 in
set_option maxRecDepth 100000 in
theorem RCheck_bad (k r c q : Int) (hm : may k r c q = false) (lo : Option Addr) (n cl : Nat) (w : World) :
    Calls Try.prog 13 #[.agg #[.int .i64 k, .int .i64 r, .int .i64 c, .int .i64 q, .slice lo n cl]] w fun e w' => e = .returned (.int .i64 2) ∧ Below w.heap.size w w' := by
  have HC := fun w => May_any k r c q w
  rw [hm] at HC
  obtain ⟨w0, hw0⟩ : ∃ w0, w0 = w.alloc (.cells #[.int .i64 k, .int .i64 r, .int .i64 c, .int .i64 q, .slice lo n cl] 26) := ⟨_, rfl⟩
  have b0 : Below w.heap.size w w0 := by rw [hw0]; exact below_alloc _ _
  clear hm
  go_enter Try.func13, Try.ntmps13
  go_wp2_with fail
  rw [← hw0]
  refine (HC _).mono ?_
  rintro e wa ⟨rfl, ha⟩
  clear hw0
  go_wp2_with fail
  go_ret
  exact ⟨rfl, below_then b0 ha⟩
set_option maxHeartbeats 2000000 in
set_option maxRecDepth 100000 in
theorem RCheck_any {k r c q : Int} {N Q S : Nat} (h : Pm k r c q N Q S) (lo : Option Addr) (n cl : Nat) (A : Nat → Option Addr) (C : Nat → Nat) (F : Nat → List UInt8) (w : World) (hl : Lst w lo n A C F) (hn3 : n ≤ 9223372036854775807) (x : Int) (hx : ((n = N * Q * 2 ∧ Fit n S F) ∧ x = 0) ∨ (¬ (n = N * Q * 2 ∧ Fit n S F) ∧ x = 90)) :
    Calls Try.prog 13 #[.agg #[.int .i64 k, .int .i64 r, .int .i64 c, .int .i64 q, .slice lo n cl]] w fun e w' => e = .returned (.int .i64 x) ∧ Below w.heap.size w w' := by
  have HM := fun w => May_any k r c q w
  rw [h.1] at HM
  obtain ⟨hN1, hN2, hQ1, hQ2, _, hS2, hb1, hb2⟩ := h.bounds
  have HNN := fun w => N_any (k := k) (r := r) c q h.2.1 hN2 w
  have HZ := fun w => Size_any h w
  obtain ⟨p, hp⟩ : ∃ p, p = N * Q := ⟨_, rfl⟩
  rw [← hp] at hx hb1 hb2
  obtain rfl : q = (Q : Int) := h.2.2.1.symm
  have hv : Value.int .i64 (IntKind.i64.wrap ((N : Int) * (Q : Int))) = .int .i64 (p : Int) := by rw [show (N : Int) * (Q : Int) = ((p : Nat) : Int) by rw [hp]; simp, show IntKind.i64.wrap (p : Int) = (p : Int) by rw [IntKind.wrap_i64]; omega]
  have hv2 : IntKind.i64.wrap ((p : Int) * 2) = (p : Int) * 2 := by rw [IntKind.wrap_i64]; omega
  have HL : Hid (Lst w lo n A C F) := hl
  have HX : Hid (((n = p * 2 ∧ Fit n S F) ∧ x = 0) ∨ (¬ (n = p * 2 ∧ Fit n S F) ∧ x = 90)) := hx
  obtain ⟨w0, hw0⟩ : ∃ w0, w0 = w.alloc (.cells #[.int .i64 k, .int .i64 r, .int .i64 c, .int .i64 (Q : Int), .slice lo n cl] 26) := ⟨_, rfl⟩
  have b0 : Below w.heap.size w w0 := by rw [hw0]; exact below_alloc _ _
  have SH : Hid (∀ v, Below w0.heap.size w0 v → v.cell? ⟨w.heap.size, 0, none⟩ = some (.int .i64 k) ∧ v.cell? ⟨w.heap.size, 1, none⟩ = some (.int .i64 r) ∧ v.cell? ⟨w.heap.size, 2, none⟩ = some (.int .i64 c) ∧ v.cell? ⟨w.heap.size, 3, none⟩ = some (.int .i64 (Q : Int)) ∧ v.cell? ⟨w.heap.size, 4, none⟩ = some (.slice lo n cl)) := fun v hv => img_held hw0 hv
  clear h hp hl hx
  obtain ⟨bn, hbn⟩ : ∃ bn, bn = ((n : Int) != (p : Int) * 2) := ⟨_, rfl⟩
  have he : ((n : Int) != (p : Int) * 2) = bn := hbn.symm
  have HBN : Hid (bn = ((n : Int) != (p : Int) * 2)) := hbn
  clear hbn
  go_enter Try.func13, Try.ntmps13
  go_wp2_with fail
  rw [← hw0]
  clear hw0
  refine (HM _).mono ?_
  rintro e wa ⟨rfl, ha⟩
  obtain ⟨s0, s1, s2, s3, s4⟩ := SH.out _ ha
  go_wp2_with fail
  go_region_held3 (fun v => v.cell? ⟨w.heap.size, 0, none⟩ = some (.int .i64 k) ∧ v.cell? ⟨w.heap.size, 1, none⟩ = some (.int .i64 r) ∧ v.cell? ⟨w.heap.size, 2, none⟩ = some (.int .i64 c) ∧ v.cell? ⟨w.heap.size, 3, none⟩ = some (.int .i64 (Q : Int)) ∧ v.cell? ⟨w.heap.size, 4, none⟩ = some (.slice lo n cl)) (go_keep)
    ((go_at_call 41; refine (HNN _).mono ?_; rintro e wb ⟨rfl, hb⟩; have hb' := below_then ha (of_drew hb); obtain ⟨p0, p1, p2, p3, p4⟩ := SH.out _ hb'; have HB0 : Hid (Below w0.heap.size w0 wb) := hb'; clear hb hb'))
  all_goals
    clear s0 s1 s2 s3 s4 ha
    have HB : Hid (Below w.heap.size w wb) := below_then b0 HB0.out
  cases bn
  · have hnp : n = p * 2 := by have := HBN.out; simp at this; omega
    have hn2 : n ≤ 8192 := by omega
    have HNP : Hid (n = p * 2) := hnp
    clear hnp he
    go_wp2_with fail
    go_loopw [3] (fun y wr => ∃ i : Nat, i ≤ n ∧ y = .int .i64 i ∧ Hid (∀ j, j < i → (F j).length = 0 ∨ (F j).length = S) ∧ Hid (Below wb.heap.size wb wr)) (fun y _ => n - (intOf y).toNat)
    case atStart => exact ⟨0, Nat.zero_le _, rfl, fun j hj => absurd hj (Nat.not_lt_zero _), Below.refl _ _⟩
    case round =>
      obtain ⟨i, hi, rfl, hg, hbr⟩ := hrel
      obtain ⟨t0, t1, t2, t3, t4⟩ := SH.out _ (below_then HB0.out hbr.out)
      have HBW : Hid (Below w.heap.size w wr) := below_then HB.out hbr.out
      by_cases hlt : i < n
      · obtain ⟨b, off, rfl, hc⟩ := (HL.out.below HBW.out).at_ (by omega)
        have ck := hc i hlt
        obtain ⟨L, hL⟩ : ∃ L, L = (F i).length := ⟨_, rfl⟩
        have HLi : Hid (L = (F i).length) := hL
        rw [← hL] at ck
        have i1 : (0 : Int) ≤ (i : Int) := by omega
        have i2 : (i : Int) < (n : Int) := by omega
        clear hc hL
        by_cases h0 : L = 0
        · subst h0
          go_wp2_with fail
          refine wp_region_held_drew (S := fun v => v.cell? ⟨w.heap.size, 4, none⟩ = some (.slice (some ⟨b, off, none⟩) n cl) ∧ v.cell? ⟨b, off + i, none⟩ = some (.slice (A i) 0 (C i))) (by kernel_rfl) ⟨t4, ck⟩ (fun hHeld => ?_)
          refine wpAnyH_take (i := 0) (oi := _) (v := .pointer (some ⟨w.heap.size, 4, none⟩)) rfl (by kernel_rfl) (by kernel_rfl) (by kernel_rfl) (fun _ _ _ h => h) (Or.inl ⟨by rfl, ?_⟩) (by assumption) ?_
          · intro w' hSw
            try dsimp only at hSw
            go_simp <;> first | with_reducible rfl | assumption
          simp only [Act.put]
          refine wpAnyH_take (i := 1) (oi := _) (v := .slice (some ⟨b, off, none⟩) n cl) rfl (by kernel_rfl) (by kernel_rfl) (by kernel_rfl) (fun _ _ _ h => h) (Or.inl ⟨by rfl, ?_⟩) (by assumption) ?_
          · intro w' hSw
            try dsimp only at hSw
            go_simp <;> first | with_reducible rfl | assumption
          simp only [Act.put]
          refine wpAnyH_take (i := 2) (oi := _) (v := .int .i64 (i : Int)) rfl (by kernel_rfl) (by kernel_rfl) (by kernel_rfl) (fun _ _ _ h => h) (Or.inl ⟨by rfl, ?_⟩) (by assumption) ?_
          · intro w' hSw
            try dsimp only at hSw
            go_simp <;> first | with_reducible rfl | assumption
          simp only [Act.put]
          refine wpAnyH_take (i := 3) (oi := _) (v := .pointer (some ⟨b, off + i, none⟩)) rfl (by kernel_rfl) (by kernel_rfl) (by kernel_rfl) (fun _ _ _ h => h) (Or.inl ⟨by rfl, ?_⟩) (by assumption) ?_
          · intro w' hSw
            try dsimp only at hSw
            go_simp <;> first | with_reducible rfl | assumption
          simp only [Act.put]
          refine wpAnyH_take (i := 4) (oi := _) (v := .slice (A i) 0 (C i)) rfl (by kernel_rfl) (by kernel_rfl) (by kernel_rfl) (fun _ _ _ h => h) (Or.inl ⟨by rfl, ?_⟩) (by assumption) ?_
          · intro w' hSw
            try dsimp only at hSw
            go_simp <;> first | with_reducible rfl | assumption
          simp only [Act.put]
          refine wpAnyH_take (i := 5) (oi := _) (v := .int .i64 0) rfl (by kernel_rfl) (by kernel_rfl) (by kernel_rfl) (fun _ _ _ h => h) (Or.inl ⟨by rfl, ?_⟩) (by assumption) ?_
          · intro w' hSw
            try dsimp only at hSw
            go_simp <;> first | with_reducible rfl | assumption
          simp only [Act.put]
          refine wpAnyH_take (i := 6) (oi := _) (v := .bool false) rfl (by kernel_rfl) (by kernel_rfl) (by kernel_rfl) (fun _ _ _ h => h) (Or.inl ⟨by rfl, ?_⟩) (by assumption) ?_
          · intro w' hSw
            try dsimp only at hSw
            go_simp <;> first | with_reducible rfl | assumption
          simp only [Act.put]
          refine wpAnyH_take (i := 7) (oi := _) (v := .bool false) rfl (by kernel_rfl) (by kernel_rfl) (by kernel_rfl) (fun _ _ _ h => h) (Or.inl ⟨by rfl, ?_⟩) (by assumption) ?_
          · intro w' hSw
            try dsimp only at hSw
            go_simp <;> first | with_reducible rfl | assumption
          simp only [Act.put]
          refine wpAnyH_take (i := 8) (oi := _) (v := undef) rfl (by kernel_rfl) (by kernel_rfl) (by kernel_rfl) (fun _ _ _ h => h) (Or.inr ⟨by kernel_rfl, rfl⟩) (by assumption) ?_
          simp only [Act.put]
          refine wpAnyH_take (i := 9) (oi := _) (v := undef) rfl (by kernel_rfl) (by kernel_rfl) (by kernel_rfl) (fun _ _ _ h => h) (Or.inr ⟨by kernel_rfl, rfl⟩) (by assumption) ?_
          simp only [Act.put]
          refine wpAnyH_take (i := 10) (oi := _) (v := undef) rfl (by kernel_rfl) (by kernel_rfl) (by kernel_rfl) (fun _ _ _ h => h) (Or.inr ⟨by kernel_rfl, rfl⟩) (by assumption) ?_
          simp only [Act.put]
          refine wpAnyH_take (i := 11) (oi := _) (v := undef) rfl (by kernel_rfl) (by kernel_rfl) (by kernel_rfl) (fun _ _ _ h => h) (Or.inr ⟨by kernel_rfl, rfl⟩) (by assumption) ?_
          simp only [Act.put]
          refine wpAnyH_take (i := 12) (oi := _) (v := undef) rfl (by kernel_rfl) (by kernel_rfl) (by kernel_rfl) (fun _ _ _ h => h) (Or.inr ⟨by kernel_rfl, rfl⟩) (by assumption) ?_
          simp only [Act.put]
          refine wpAnyH_take (i := 13) (oi := _) (v := undef) rfl (by kernel_rfl) (by kernel_rfl) (by kernel_rfl) (fun _ _ _ h => h) (Or.inr ⟨by kernel_rfl, rfl⟩) (by assumption) ?_
          simp only [Act.put]
          refine wpAnyH_take (i := 14) (oi := _) (v := undef) rfl (by kernel_rfl) (by kernel_rfl) (by kernel_rfl) (fun _ _ _ h => h) (Or.inr ⟨by kernel_rfl, rfl⟩) (by assumption) ?_
          simp only [Act.put]
          refine wpAnyH_take (i := 15) (oi := _) (v := undef) rfl (by kernel_rfl) (by kernel_rfl) (by kernel_rfl) (fun _ _ _ h => h) (Or.inr ⟨by kernel_rfl, rfl⟩) (by assumption) ?_
          simp only [Act.put]
          refine wpAnyH_ready (rs := [16]) (by kernel_rfl) (by simp) ?_
          refine AllReadyH.cons (o := _) rfl (fun K hK => ?_) AllReadyH.nil
          go_simp
          refine hK.out _ _ ⟨t4, ck⟩ (fun hHeld => ?_)
          clear hK K
          try simp only [Act.put]
          refine wpAnyH_take (i := 17) (oi := _) (v := undef) rfl (by kernel_rfl) (by kernel_rfl) (by kernel_rfl) (fun _ _ _ h => h) (Or.inr ⟨by kernel_rfl, rfl⟩) (by assumption) ?_
          simp only [Act.put]
          refine wpAnyH_take (i := 18) (oi := _) (v := .bool false) rfl (by kernel_rfl) (by kernel_rfl) (by kernel_rfl) (fun _ _ _ h => h) (Or.inl ⟨by rfl, ?_⟩) (by assumption) ?_
          · intro w' hSw
            try dsimp only at hSw
            go_simp <;> first | with_reducible rfl | assumption
          simp only [Act.put]
          refine wpAnyH_done (by kernel_rfl) ?_ _
          go_wp2_with fail
          go_roundw
          case rel => exact ⟨i + 1, by omega, by go_num, fun j hj => by rcases Nat.lt_succ_iff_lt_or_eq.1 hj with g | rfl; exact hg.out j g; exact .inl HLi.out.symm, hbr.out.drew⟩
          case measure => simp [intOf]; omega
        · have k0 : ((L : Int) != 0) = true := by simp; omega
          have ck' : ∀ v, Below wr.heap.size wr v → v.cell? ⟨b, off + i, none⟩ = some (.slice (A i) L (C i)) := fun v hv => held ck hv
          have HCK : Hid (∀ v, Below wr.heap.size wr v → v.cell? ⟨b, off + i, none⟩ = some (.slice (A i) L (C i))) := ck'
          clear ck'
          obtain ⟨bs, hbs⟩ : ∃ bs, bs = ((L : Int) != (S : Int)) := ⟨_, rfl⟩
          have k1 : ((L : Int) != (S : Int)) = bs := hbs.symm
          have HBS : Hid (bs = ((L : Int) != (S : Int))) := hbs
          clear hbs
          go_wp2_with fail
          go_region_held3 (fun v => v.cell? ⟨w.heap.size, 0, none⟩ = some (.int .i64 k) ∧ v.cell? ⟨w.heap.size, 1, none⟩ = some (.int .i64 r) ∧ v.cell? ⟨w.heap.size, 2, none⟩ = some (.int .i64 c) ∧ v.cell? ⟨w.heap.size, 3, none⟩ = some (.int .i64 (Q : Int)) ∧ v.cell? ⟨w.heap.size, 4, none⟩ = some (.slice (some ⟨b, off, none⟩) n cl) ∧ v.cell? ⟨b, off + i, none⟩ = some (.slice (A i) L (C i))) (go_keep)
            ((go_at_call 44; refine (HZ _).mono ?_; rintro e wc ⟨rfl, hc⟩; obtain ⟨u0, u1, u2, u3, u4⟩ := SH.out _ (below_then HB0.out (below_then hbr.out (of_drew hc))); have u5 := HCK.out _ (of_drew hc); have HBC : Hid (Below wr.heap.size wr wc) := of_drew hc; clear hc))
          all_goals
            clear t0 t1 t2 t3 t4 ck
          cases bs
          · have HLS : Hid (L = S) := by have := HBS.out; simp at this; show _ = _; omega
            clear k1
            go_wp2_with fail
            go_roundw
            case rel => exact ⟨i + 1, by omega, by go_num, fun j hj => by rcases Nat.lt_succ_iff_lt_or_eq.1 hj with g | rfl; exact hg.out j g; exact .inr (HLi.out.symm.trans HLS.out), below_then hbr.out HBC.out⟩
            case measure => simp [intOf]; omega
          · have HF : Hid (x = 90) := by
              rcases HX.out with ⟨⟨_, hf⟩, _⟩ | ⟨_, e⟩
              · have h1 := hf i hlt
                have h2 := HBS.out
                rw [← HLi.out] at h1
                simp at h2
                omega
              · exact e
            clear k1
            go_wp2_with fail
            go_ret
            exact ⟨ret_int HF.out.symm, below_then HBW.out HBC.out⟩
      · obtain rfl : i = n := by omega
        have HF : Hid (x = 0) := by
          rcases HX.out with ⟨_, e⟩ | ⟨hf, _⟩
          · exact e
          · exact absurd ⟨HNP.out, hg.out⟩ hf
        go_wp2_with fail
        go_ret
        exact ⟨ret_int HF.out.symm, HBW.out⟩
  · have HF : Hid (x = 90) := by
      rcases HX.out with ⟨⟨h1, _⟩, _⟩ | ⟨_, e⟩
      · have h2 := HBN.out
        rw [h1] at h2
        simp at h2
      · exact e
    go_wp2_with fail
    go_ret
    exact ⟨ret_int HF.out.symm, HB.out⟩
end Go.Proofs.Ytdicogmjjboilaa
