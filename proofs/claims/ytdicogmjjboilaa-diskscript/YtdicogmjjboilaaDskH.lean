/- The wiped drives told; a drive wiped. -/
import Derived.Test.YtdicogmjjboilaaDskE
namespace Go.Proofs.Ytdicogmjjboilaa
open Go.RowKit

set_option maxHeartbeats 1000000 in
set_option maxRecDepth 100000 in
theorem wiped_d (w : World) (g : Nat) (G : Nat → Bool) (hc : ∀ i, i < 16 → w.cell? ⟨g, 5 + i, none⟩ = some (.bool (G i))) :
    Calls Try.prog 59 #[.pointer (some ⟨g, 0, none⟩)] w fun e w' => ∃ ao cap, e = .returned (.slice ao (gl 16 G).length cap) ∧ OwI w.heap.size w' ao cap (gl 16 G) ∧ Below w.heap.size w w' := by
  obtain ⟨i0, hi, hz0, hz1, hz2⟩ := info_parts info3
  have c5 := hc 0 (by decide)
  have c6 := hc 1 (by decide)
  have c7 := hc 2 (by decide)
  have c8 := hc 3 (by decide)
  have c9 := hc 4 (by decide)
  have c10 := hc 5 (by decide)
  have c11 := hc 6 (by decide)
  have c12 := hc 7 (by decide)
  have c13 := hc 8 (by decide)
  have c14 := hc 9 (by decide)
  have c15 := hc 10 (by decide)
  have c16 := hc 11 (by decide)
  have c17 := hc 12 (by decide)
  have c18 := hc 13 (by decide)
  have c19 := hc 14 (by decide)
  have c20 := hc 15 (by decide)
  simp only [Nat.reduceAdd] at c5 c6 c7 c8 c9 c10 c11 c12 c13 c14 c15 c16 c17 c18 c19 c20
  obtain ⟨XS, hXS⟩ : ∃ XS, XS = XSof G := ⟨_, rfl⟩
  have HI : Hid (∀ w (i : Nat), i < 16 → (Instr.index 67 (.agg XS) (.int .i64 (i : Int))).run Try.prog w = .ok (.bool (G i)) w) := by rw [hXS]; exact fun w => idx_any G w
  have HX : Hid (XS = XSof G) := hXS
  clear hc hXS
  go_enter Try.func59, Try.ntmps59
  go_wp2_with fail
  rw [show (#[.bool (G 0), .bool (G 1), .bool (G 2), .bool (G 3), .bool (G 4), .bool (G 5), .bool (G 6), .bool (G 7), .bool (G 8), .bool (G 9), .bool (G 10), .bool (G 11), .bool (G 12), .bool (G 13), .bool (G 14), .bool (G 15)] : Array Value) = XS from HX.out.symm]
  clear c5 c6 c7 c8 c9 c10 c11 c12 c13 c14 c15 c16 c17 c18 c19 c20 HX
  go_loopw [3, 4, 5, 10] (fun x _ _ y wr => ∃ i : Nat, i ≤ 16 ∧ y = .int .i64 i ∧ (∃ ao cap, x = .slice ao (gl i G).length cap ∧ Hid (OwI w.heap.size wr ao cap (gl i G))) ∧ Hid (Below w.heap.size w wr)) (fun _ _ _ y _ => 16 - (intOf y).toNat)
  case atStart => exact ⟨0, Nat.zero_le _, rfl, ⟨none, 0, rfl, World.ownsRow_nil _ _ _ _⟩, Below.refl _ _⟩
  case round =>
    obtain ⟨i, hi', rfl, ⟨ao, cap, rfl, ho⟩, hb⟩ := hrel
    have hws := hb.out.size
    obtain ⟨n, hn⟩ : ∃ n, n = (gl i G).length := ⟨_, rfl⟩
    have hn2 : n ≤ 16 := by have := gl_len i G; omega
    have HN : Hid (n = (gl i G).length) := hn
    by_cases hlt : i < 16
    · have hix := fun w => HI.out w i hlt
      cases hg : G i
      · rw [hg] at hix
        have HG : Hid (gl (i + 1) G = gl i G) := by show _ = _; rw [gl_succ, hg]; exact List.append_nil _
        go_wp2_with fail
        go_roundw
        case rel => exact ⟨i + 1, by omega, by go_num, ⟨ao, cap, by rw [HG.out], by rw [HG.out]; exact ho⟩, hb⟩
        case measure => simp [intOf]; omega
      · rw [hg] at hix
        have HG : Hid (gl (i + 1) G = gl i G ++ [(i : Int)]) := by show _ = _; rw [gl_succ, hg]; rfl
        obtain ⟨V, hV⟩ : ∃ V, V = ints (gl i G) := ⟨_, rfl⟩
        have HV : Hid (V = ints (gl i G)) := hV
        have HO : Hid (∀ o, (wr.alloc o).ownsRow w.heap.size 3 1 (.slice ao n cap) n V) := fun o => by rw [hn, hV]; exact World.ownsRow.alloc ho.out o
        rw [← hn]
        clear hn hV ho hg
        go_wp2_with (at_builtin; refine wpList_append_lies _ (by rfl) (.tmp 15) (.tmp 17) 65 (by rfl) w.heap.size 3 i0 (.int .i64 0) 1 8 Try.underlying65 hi hz0 hz1 hz2 (by rfl) (by decide) (.slice ao n cap) n V (by rfl) (HO.out _) ⟨wr.heap.size, 0, none⟩ 1 1 [.int .i64 (i : Int)] (by rfl) (by rfl) (World.news_of_block (heap_alloc_new wr _)) (by simp [Value.oneCell']) (by decide) (by unfold maxLen; omega) (by omega) (by simp; omega) (wr.heap.size + 1) (by simp) ?_; intro g2 cap2 w2 hown2 hgrow2 _ _; have HO2 : Hid (w2.ownsRow w.heap.size 3 1 (.slice (some ⟨g2, 0, none⟩) (n + 1) cap2) (n + 1) (V ++ [.int .i64 (i : Int)])) := hown2; have HB2 : Hid (Below w.heap.size w w2) := (hb.out.alloc hws _).grown hgrow2 (by simp; omega) (fun r hr => ((HO.out (.cells #[] 3)).lt r hr).1); clear hown2 hgrow2)
        go_roundw
        case rel =>
          have e1 : (gl (i + 1) G).length = n + 1 := by rw [HG.out, List.length_append, ← HN.out]; rfl
          refine ⟨i + 1, by omega, by go_num, ⟨some ⟨g2, 0, none⟩, cap2, by rw [e1], ?_⟩, HB2.out⟩
          show OwI _ _ _ _ _
          unfold OwI
          rw [e1, HG.out, show ints (gl i G ++ [(i : Int)]) = V ++ [.int .i64 (i : Int)] by rw [HV.out]; simp [ints]]
          exact HO2.out
        case measure => simp [intOf]; omega
    · obtain rfl : i = 16 := by omega
      go_wp2_with fail
      go_ret
      exact ⟨ao, cap, rfl, ho.out, hb.out⟩
theorem run_zero43 (w : World) : (zeroValue 43).run Try.prog w = .ok (.slice none 0 0) w := by kernel_rfl
set_option maxHeartbeats 1000000 in
set_option maxRecDepth 100000 in
theorem wipe_d {N Q : Nat} (hN : N ≤ 16) (hQ1 : 1 ≤ Q) (hQ : Q ≤ 256) (d : Nat) (hd : d < N) (w : World) (Y : Nat → Prop) (g l cl : Nat) (A : Nat → Option Addr) (C : Nat → Nat) (F : Nat → List UInt8) (gd : Bool)
    (hs : Slots w Y l (N * Q * 2) A C F) (hcl : N * Q * 2 ≤ cl) (hgl : g ≠ l) (c3 : w.cell? ⟨g, 3, none⟩ = some (.int .i64 (Q : Int))) (c4 : w.cell? ⟨g, 4, none⟩ = some (.slice (some ⟨l, 0, none⟩) (N * Q * 2 : Nat) cl)) (cg : w.cell? ⟨g, 5 + d, none⟩ = some (.bool gd)) (cf : w.frozen? ⟨g, 5 + d, none⟩ = false) :
    Calls Try.prog 53 #[.pointer (some ⟨g, 0, none⟩), .int .i64 (d : Int)] w fun e w' => e = .returned (.tuple #[]) ∧ ∃ v, w' = v.setCell ⟨g, 5 + d, none⟩ (.bool true) ∧ (∃ A' C', Slots v Y l (N * Q * 2) A' C' (wpF Q d F)) ∧ Only (fun x => x = l) w v := by
  obtain ⟨a, ha⟩ : ∃ a, a = plc Q (d : Int) 0 0 := ⟨_, rfl⟩
  obtain ⟨b, hb⟩ : ∃ b, b = plc Q ((d : Int) + 1) 0 0 := ⟨_, rfl⟩
  have HA1 := fun w c3 => at_any Q hQ (d : Int) 0 0 (by omega) (by omega) (by omega) (by omega) (by omega) (by omega) w g c3
  have HA2 := fun w c3 => at_any Q hQ ((d : Int) + 1) 0 0 (by omega) (by omega) (by omega) (by omega) (by omega) (by omega) w g c3
  rw [← ha] at HA1
  rw [← hb] at HA2
  have ea : a = d * Q * 2 := by rw [ha]; unfold plc; simp
  have eb : b = d * Q * 2 + 2 * Q := by rw [hb]; unfold plc; rw [show ((d : Int) + 1).toNat = d + 1 by omega, show (0 : Int).toNat = 0 from rfl]; have := Nat.add_mul d 1 Q; omega
  have hle : (d + 1) * Q ≤ N * Q := Nat.mul_le_mul_right Q hd
  rw [Nat.add_mul, Nat.one_mul] at hle
  obtain ⟨n, hn⟩ : ∃ n, n = N * Q * 2 := ⟨_, rfl⟩
  rw [← hn] at c4 hs hcl ⊢
  have i1 : (0 : Int) ≤ (a : Int) := by omega
  have i2 : (a : Int) ≤ (b : Int) := by omega
  have i3 : (b : Int) ≤ (cl : Int) := by omega
  have i4 : ¬ cl = a := by omega
  have i5 : b ≤ n := by omega
  have i6 : a < b := by omega
  have e1 : IntKind.i64.wrap ((d : Int) + 1) = (d : Int) + 1 := by rw [IntKind.wrap_i64]; omega
  have HW : Hid (∀ i, i < n → wpF Q d F i = if a ≤ i ∧ i < a + (b - a) then [] else F i) := fun i _ => by
    unfold wpF
    have e2 : (i / (2 * Q) = d) ↔ (a ≤ i ∧ i < a + (b - a)) := by
      rw [ea, eb, Nat.div_eq_iff (by omega : 0 < 2 * Q), show d * (2 * Q) = d * Q * 2 by rw [Nat.mul_comm 2 Q, Nat.mul_assoc]]
      omega
    by_cases h : i / (2 * Q) = d
    · rw [if_pos h, if_pos (e2.1 h)]
    · rw [if_neg h, if_neg (fun h' => h (e2.2 h'))]
  have hl0 : l < w.heap.size := hs.row.lt
  have hcr := fun ty => Lib.run_clear_slice (P := Try.prog) w.drew 24 43 ty (.slice none 0 0) Try.underlying24 run_zero43 rfl rfl l a (b - a) (cl - a) (by omega) (fun j hj => by rw [show w.drew.cell? ⟨l, a + j, none⟩ = some (.slice (A (a + j)) (F (a + j)).length (C (a + j))) from hs.row.cell (by omega)]; rfl) (fun j _ => hs.row.frozen _)
  obtain ⟨hS1, hS2⟩ := slots_wipe (b - a) a w.drew A C F (hs.only (X := fun _ => False) (.of_below (below_drew _ _)) (fun _ _ h => h))
  have HS1 : Hid (∃ A' C', Slots (w.drew.setCells l a (List.replicate (b - a) (.slice none 0 0))) Y l n A' C' (fun j => if a ≤ j ∧ j < a + (b - a) then [] else F j)) := hS1
  have HS2 : Hid (Only (fun x => x = l) w.drew (w.drew.setCells l a (List.replicate (b - a) (.slice none 0 0)))) := hS2
  obtain ⟨v, hv⟩ : ∃ v, v = w.drew.setCells l a (List.replicate (b - a) (.slice none 0 0)) := ⟨_, rfl⟩
  rw [← hv] at HS1 HS2 hcr
  have q3 : v.cell? ⟨g, 3, none⟩ = some (.int .i64 (Q : Int)) := HS2.out.cell c3 hgl
  have q4 : v.cell? ⟨g, 4, none⟩ = some (.slice (some ⟨l, 0, none⟩) n cl) := HS2.out.cell c4 hgl
  have q5 : v.cell? ⟨g, 5 + d, none⟩ = some (.bool gd) := HS2.out.cell cg hgl
  have q6 : v.frozen? ⟨g, 5 + d, none⟩ = false := (World.frozen?_of_block (HS2.out.block g (World.block_lt_of_cell? w _ c3) hgl)).trans cf
  have j1 : (0 : Int) ≤ (d : Int) := by omega
  have j2 : (d : Int) < 16 := by omega
  clear hs hn hS1 hS2 hv ea eb hle cg cf HA1 HA2
  subst ha hb
  go_enter Try.func53, Try.ntmps53
  go_wp2_with fail
  go_region_held3 (fun v => v.cell? ⟨g, 3, none⟩ = some (.int .i64 (Q : Int)) ∧ v.cell? ⟨g, 4, none⟩ = some (.slice (some ⟨l, 0, none⟩) n cl)) (go_keep)
    (first | (go_at_call_of 64 (Value.pointer (some ⟨g, 0, none⟩)); refine (at_any Q hQ _ 0 0 ?_ ?_ (by omega) (by omega) (by omega) (by omega) _ _ ?_).mono ?_; omega; omega; exact c3; rintro e w' ⟨rfl, hw'⟩; obtain rfl := hw'.symm))
  all_goals (go_wp2_with fail)
  all_goals
    refine bodyPost_end (results_none rfl _ _ _) rfl ⟨rfl, v, rfl, ?_, (Only.of_below (below_drew _ _)).trans HS2.out⟩
    obtain ⟨A', C', h1⟩ := HS1.out
    exact ⟨A', C', h1.congr fun i hi => (HW.out i hi).symm⟩
end Go.Proofs.Ytdicogmjjboilaa
