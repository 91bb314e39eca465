/- The walk of DiskCuts: where the power fails. -/
import Derived.Test.YtdicogmjjboilaaDskQ
namespace Go.Proofs.Ytdicogmjjboilaa
open Go.RowKit

theorem rdErr_off {N Q : Nat} {st : St} (h : st.off = true) (d o s : Int) : rdErr N Q st d o s = 9 := if_pos h
set_option maxHeartbeats 4000000 in
set_option maxRecDepth 100000 in
theorem cuts_walk (W : World) (k r c q : Int) (lo : Option Addr) (mn cl : Nat) (A : Nat → Option Addr) (C : Nat → Nat) (F : Nat → List UInt8) (hl : Lst W lo mn A C F) (po : Option Addr) (m pc : Nat) (D : Nat → Pt) (B : Nat → Option Addr) (K : Nat → Nat) (hp : Pts W (fun b => b < W.heap.size) po m D B K) (hm : m ≤ pc) (_hpc : pc ≤ 9223372036854775807) (_hpn : po = none → m = 0 ∧ pc = 0) (n : Int) (_hn1 : -9223372036854775808 ≤ n) (hn2 : n ≤ 9223372036854775807) :
    Calls Try.prog 5 #[.agg #[.int .i64 k, .int .i64 r, .int .i64 c, .int .i64 q, .slice lo mn cl], .slice po m pc, .int .i64 n] W fun e w' => e = .returned (.bool true) ∧ Below W.heap.size W w' := by
  have HL : Hid (Lst W lo mn A C F) := hl
  have HP : Hid (Pts W (fun b => b < W.heap.size) po m D B K) := hp
  obtain ⟨w0, hw0⟩ : ∃ w0, w0 = W.alloc (.cells #[.int .i64 k, .int .i64 r, .int .i64 c, .int .i64 q, .slice lo mn cl] 26) := ⟨_, rfl⟩
  have b0 : Below W.heap.size W w0 := by rw [hw0]; exact below_alloc _ _
  have SH : Hid (∀ v, Below w0.heap.size w0 v → v.cell? ⟨W.heap.size, 0, none⟩ = some (.int .i64 k) ∧ v.cell? ⟨W.heap.size, 1, none⟩ = some (.int .i64 r) ∧ v.cell? ⟨W.heap.size, 2, none⟩ = some (.int .i64 c) ∧ v.cell? ⟨W.heap.size, 3, none⟩ = some (.int .i64 q) ∧ v.cell? ⟨W.heap.size, 4, none⟩ = some (.slice lo mn cl)) := fun v hv => img_held hw0 hv
  have HW := awake_any w0
  clear hl hp
  go_enter Try.func5, Try.ntmps5
  go_wp2_with fail
  rw [← hw0]
  clear hw0
  refine HW.mono ?_
  rintro e wa ⟨rfl, ha⟩
  obtain ⟨q0, q1, q2, q3, q4⟩ := SH.out _ ha
  have HB : Hid (Below W.heap.size W wa) := below_then b0 ha
  clear ha b0 HW
  by_cases h200 : 200 < m
  · have e1 : (200 : Int) < (m : Int) := by omega
    go_wp2_with fail
    go_ret
    exact ⟨rfl, HB.out⟩
  have e1 : ¬ (200 : Int) < (m : Int) := by omega
  have e2 : (m : Int) ≤ 200 := by omega
  go_wp2_with fail
  refine (two_any k r c q lo mn cl A C F wa (HL.out.below HB.out)).mono ?_
  rintro e wb (⟨x, y, rfl, hb⟩ | ⟨g1, g2, N, Q, S, rfl, rfl, ht⟩)
  · have HB2 : Hid (Below W.heap.size W wb) := below_then HB.out hb
    clear hb
    go_wp2_with fail
    go_ret
    exact ⟨rfl, HB2.out⟩
  have HT : Hid (Two W wb g1 g2 k r c N Q S (newSt F) (newSt F)) := ht.mono HB.out
  clear ht q0 q1 q2 q3 q4 SH HL HB
  go_wp2_with fail
  refine (two_cut HT.out n hn2).mono ?_
  rintro e wc (⟨h0, rfl, rfl⟩ | ⟨h0, rfl, ht⟩)
  · go_wp2_with (go_at_call 35; refine (two_alike HT.out rfl rfl rfl).mono ?_; rintro e wd ⟨rfl, hd⟩)
    go_ret
    exact ⟨rfl, below_then HT.out.bel hd⟩
  obtain ⟨j, rfl⟩ := Int.eq_ofNat_of_zero_le h0
  have HT2 : Hid (Two W wc g1 g2 k r c N Q S (cutSt j (newSt F)) (newSt F)) := ht
  clear ht HT h0
  obtain ⟨mm, hmm⟩ : ∃ mm, mm = min j m := ⟨_, rfl⟩
  obtain ⟨fF, fw, fo, fc⟩ := cut_math (N := N) (Q := Q) (S := S) (pl D 0 m) j (newSt F) rfl rfl
  rw [pl_take, ← hmm] at fF fw fo fc
  rw [pl_length, ← hmm] at fc
  have hjm0 : mm ≤ m ∧ (j ≤ m → mm = j) ∧ (m < j → mm = m) := by omega
  clear hmm
  obtain ⟨yA, hyA⟩ : ∃ yA, yA = wrs N Q S (cutSt j (newSt F)) (pl D 0 m) := ⟨_, rfl⟩
  obtain ⟨yB, hyB⟩ : ∃ yB, yB = wrs N Q S (newSt F) (pl D 0 mm) := ⟨_, rfl⟩
  rw [← hyA, ← hyB] at fF fw fc
  rw [← hyB] at fo
  have HFF : Hid (yA.2.F = yB.2.F) := fF
  have HFW : Hid (yA.2.wr = yB.2.wr) := fw
  have HFO : Hid (yB.2.off = false) := fo
  have HFC : Hid ((yB.1 = 80 ∧ yA.1 = 80 ∧ yA.2.off = false) ∨ (yB.1 = 0 ∧ yB.2.wr = bump (newSt F).wr mm ∧ ((m ≤ j ∧ yA.1 = 0 ∧ yA.2.off = false) ∨ (j < m ∧ yA.1 = 80 ∧ yA.2.off = false) ∨ (j < m ∧ yA.1 = 9 ∧ yA.2.off = true)))) := fc
  have HYB : Hid (yB = wrs N Q S (newSt F) (pl D 0 mm)) := hyB
  clear fF fw fo fc hyB
  go_wp2_with fail
  refine (two_write HT2.out po m pc D B K (by omega) HP.out).mono ?_
  rw [← hyA]
  rintro e wd ⟨rfl, ht⟩
  have HT3 : Hid (Two W wd g1 g2 k r c N Q S yA.2 (newSt F)) := ht
  clear ht HT2 hyA
  rcases (show j ≤ m ∨ m < j by omega) with hjm | hjm
  · obtain rfl : mm = j := hjm0.2.1 hjm
    clear hjm0
    have z1 : (mm : Int) ≤ (m : Int) := by omega
    have z2 : (mm : Int) ≤ (pc : Int) := by omega
    have z3 : (0 : Int) ≤ (mm : Int) := by omega
    go_wp2_with fail
    refine (two_write HT3.out.symm po mm pc D B K (by omega) (pts_less HP.out (by omega))).mono ?_
    rw [← HYB.out]
    rintro e we ⟨rfl, ht⟩
    have HT4 : Hid (Two W we g1 g2 k r c N Q S yA.2 yB.2) := ht.symm
    have HO1 := two_off HT4.out
    have HW1 := two_writes HT4.out
    have HW2 := two_writes HT4.out.symm
    clear ht HT3 HYB
    rcases HFC.out with ⟨f1, f2, f3⟩ | ⟨f1, f2, f4⟩
    · rw [f3] at HO1
      have HF3 : Hid (yA.2.off = false) := f3
      clear f3
      go_wp2_with (first
        | (go_at_call 36; refine HO1.mono ?_; rintro e w' ⟨rfl, hw'⟩; obtain rfl := hw'.symm)
        | (go_at_call 35; refine (two_alike HT4.out HFF.out HFW.out (HF3.out.trans HFO.out.symm)).mono ?_; rintro e wf ⟨rfl, hf⟩))
      go_ret
      exact ⟨rfl, below_then HT4.out.bel hf⟩
    · have hbw : yB.2.wr = (mm : Int) := by rw [f2, show (newSt F).wr = 0 from rfl, bump_add _ _ (by omega) (by omega)]; omega
      rw [HFW.out, hbw] at HW1
      rw [hbw] at HW2
      clear f2 hbw
      have e5 : ((mm : Int) != (mm : Int)) = false := by simp
      rcases f4 with ⟨f5, f6, f7⟩ | ⟨f5, f6, f7⟩ | ⟨f5, f6, f7⟩
      · obtain rfl : mm = m := by omega
        have z9 : ((mm : Int) == (mm : Int)) = true := by simp
        rw [f7] at HO1
        have HF3 : Hid (yA.2.off = false) := f7
        clear f7
        go_wp2_with (first
          | (go_at_call_of 37 (Value.pointer (some ⟨g1, 0, none⟩)); refine HW1.mono ?_; rintro e w' ⟨rfl, hw'⟩; obtain rfl := hw'.symm)
          | (go_at_call_of 37 (Value.pointer (some ⟨g2, 0, none⟩)); refine HW2.mono ?_; rintro e w' ⟨rfl, hw'⟩; obtain rfl := hw'.symm)
          | (go_at_call 35; refine (two_alike HT4.out HFF.out HFW.out (HF3.out.trans HFO.out.symm)).mono ?_; rintro e wf ⟨rfl, hf⟩))
        go_ret
        exact ⟨rfl, below_then HT4.out.bel hf⟩
      · have z9 : ((mm : Int) == (m : Int)) = false := by simp; omega
        rw [f7] at HO1
        have HF3 : Hid (yA.2.off = false) := f7
        clear f7
        go_wp2_with (first
          | (go_at_call_of 37 (Value.pointer (some ⟨g1, 0, none⟩)); refine HW1.mono ?_; rintro e w' ⟨rfl, hw'⟩; obtain rfl := hw'.symm)
          | (go_at_call_of 37 (Value.pointer (some ⟨g2, 0, none⟩)); refine HW2.mono ?_; rintro e w' ⟨rfl, hw'⟩; obtain rfl := hw'.symm)
          | (go_at_call 36; refine HO1.mono ?_; rintro e w' ⟨rfl, hw'⟩; obtain rfl := hw'.symm)
          | (go_at_call 35; refine (two_alike HT4.out HFF.out HFW.out (HF3.out.trans HFO.out.symm)).mono ?_; rintro e wf ⟨rfl, hf⟩))
        go_ret
        exact ⟨rfl, below_then HT4.out.bel hf⟩
      · have z9 : ((mm : Int) == (m : Int)) = false := by simp; omega
        have HRD := two_read HT4.out
        rw [f7] at HO1
        have HF3 : Hid (yA.2.off = true) := f7
        clear f7
        go_wp2_with (first
          | (go_at_call_of 37 (Value.pointer (some ⟨g1, 0, none⟩)); refine HW1.mono ?_; rintro e w' ⟨rfl, hw'⟩; obtain rfl := hw'.symm)
          | (go_at_call_of 37 (Value.pointer (some ⟨g2, 0, none⟩)); refine HW2.mono ?_; rintro e w' ⟨rfl, hw'⟩; obtain rfl := hw'.symm)
          | (go_at_call 36; refine HO1.mono ?_; rintro e w' ⟨rfl, hw'⟩; obtain rfl := hw'.symm))
        refine (two_write HT4.out none 0 0 D B K (by omega) (pts_zero _ _ _ _)).mono ?_
        rintro e wf ⟨rfl, ht⟩
        rw [pl_nil] at ht ⊢
        have HT5 : Hid (Two W wf g1 g2 k r c N Q S yA.2 yB.2) := ht
        rw [show (wrs N Q S yA.2 []).1 = 0 from rfl]
        clear ht HT4 HRD HO1 HW1 HW2
        go_wp2_with fail
        refine (two_read HT5.out 0 0 0).mono ?_
        rintro e wg ⟨ao, cap, rfl, _, hg⟩
        rw [rdErr_off HF3.out]
        generalize (rdB N Q yA.2 0 0 0).length = rl
        have HT6 : Hid (Two W wg g1 g2 k r c N Q S yA.2 yB.2) := HT5.out.below hg
        clear hg HT5
        go_wp2_with fail
        refine (two_on HT6.out).mono ?_
        rintro e wh ⟨rfl, ht⟩
        have HT7 : Hid (Two W wh g1 g2 k r c N Q S (onSt yA.2) yB.2) := ht
        clear ht HT6
        go_wp2_with (go_at_call 35; refine (two_alike HT7.out HFF.out HFW.out HFO.out.symm).mono ?_; rintro e wi ⟨rfl, hi⟩)
        go_ret
        exact ⟨rfl, below_then HT7.out.bel hi⟩
  · obtain rfl : mm = m := hjm0.2.2 hjm
    clear hjm0
    have z1 : (mm : Int) < (j : Int) := by omega
    have z2 : (mm : Int) ≤ (pc : Int) := by omega
    have z3 : (0 : Int) ≤ (mm : Int) := by omega
    go_wp2_with fail
    refine (two_write HT3.out.symm po mm pc D B K (by omega) (pts_less HP.out (by omega))).mono ?_
    rw [← HYB.out]
    rintro e we ⟨rfl, ht⟩
    have HT4 : Hid (Two W we g1 g2 k r c N Q S yA.2 yB.2) := ht.symm
    have HO1 := two_off HT4.out
    have HW1 := two_writes HT4.out
    have HW2 := two_writes HT4.out.symm
    clear ht HT3 HYB
    rcases HFC.out with ⟨f1, f2, f3⟩ | ⟨f1, f2, f4⟩
    · rw [f3] at HO1
      have HF3 : Hid (yA.2.off = false) := f3
      clear f3
      go_wp2_with (first
        | (go_at_call 36; refine HO1.mono ?_; rintro e w' ⟨rfl, hw'⟩; obtain rfl := hw'.symm)
        | (go_at_call 35; refine (two_alike HT4.out HFF.out HFW.out (HF3.out.trans HFO.out.symm)).mono ?_; rintro e wf ⟨rfl, hf⟩))
      go_ret
      exact ⟨rfl, below_then HT4.out.bel hf⟩
    · have hbw : yB.2.wr = (mm : Int) := by rw [f2, show (newSt F).wr = 0 from rfl, bump_add _ _ (by omega) (by omega)]; omega
      rw [HFW.out, hbw] at HW1
      rw [hbw] at HW2
      clear f2 hbw
      have e5 : ((mm : Int) != (mm : Int)) = false := by simp
      rcases f4 with ⟨f5, f6, f7⟩ | ⟨f5, f6, f7⟩ | ⟨f5, f6, f7⟩
      · have z9 : ((mm : Int) == (mm : Int)) = true := by simp
        rw [f7] at HO1
        have HF3 : Hid (yA.2.off = false) := f7
        clear f7
        go_wp2_with (first
          | (go_at_call_of 37 (Value.pointer (some ⟨g1, 0, none⟩)); refine HW1.mono ?_; rintro e w' ⟨rfl, hw'⟩; obtain rfl := hw'.symm)
          | (go_at_call_of 37 (Value.pointer (some ⟨g2, 0, none⟩)); refine HW2.mono ?_; rintro e w' ⟨rfl, hw'⟩; obtain rfl := hw'.symm)
          | (go_at_call 35; refine (two_alike HT4.out HFF.out HFW.out (HF3.out.trans HFO.out.symm)).mono ?_; rintro e wf ⟨rfl, hf⟩))
        go_ret
        exact ⟨rfl, below_then HT4.out.bel hf⟩
      · exfalso; omega
      · exfalso; omega
end Go.Proofs.Ytdicogmjjboilaa
