/- The document's wiped drives; whether two images, a disk and the document's one, are the same. -/
import Derived.Test.YtdicogmjjboilaaDskV
import Derived.Test.YtdicogmjjboilaaDskP
namespace Go.Proofs.Ytdicogmjjboilaa
open Go.RowKit

set_option maxHeartbeats 1000000 in
set_option maxRecDepth 100000 in
theorem Gone_any {Y : Nat → Prop} {w : World} {g : Nat} {k r c : Int} {N Q S : Nat} {st : St} (h : Rk w Y g k r c N Q S st) :
    Calls Try.prog 56 #[.pointer (some ⟨g, 0, none⟩)] w fun e w' => ∃ ao cap, e = .returned (.slice ao (gl N st.gone).length cap) ∧ OwI w.heap.size w' ao cap (gl N st.gone) ∧ Below w.heap.size w w' := by
  obtain ⟨l, cl, wl, A, C, h⟩ := h
  obtain ⟨i0, hi, hz0, hz1, hz2⟩ := info_parts info3
  have HB : Hid (w.cell? ⟨g, 7, none⟩ = some (.slice (some ⟨wl, 0, none⟩) N N)) := (cells_rk h.blk).2.2.2.2.2.2.2.1
  have HR : Hid (w.rowIs wl 4 N (fun i => .bool (st.gone i))) := h.row
  have hN := h.pm.bounds.2.1
  obtain ⟨G, hG⟩ : ∃ G, G = st.gone := ⟨_, rfl⟩
  rw [← hG] at HR ⊢
  clear h hG
  go_enter Try.func56, Try.ntmps56
  go_wp2_with fail
  go_loopw [3, 4] (fun x y wr => ∃ i : Nat, i ≤ N ∧ y = .int .i64 i ∧ (∃ ao cap, x = .slice ao (gl i G).length cap ∧ Hid (OwI w.heap.size wr ao cap (gl i G))) ∧ Hid (Below w.heap.size w wr)) (fun _ y _ => N - (intOf y).toNat)
  case atStart => exact ⟨0, Nat.zero_le _, rfl, ⟨none, 0, rfl, World.ownsRow_nil _ _ _ _⟩, Below.refl _ _⟩
  case round =>
    obtain ⟨i, hi', rfl, ⟨ao, cap, rfl, ho⟩, hb⟩ := hrel
    have hws := hb.out.size
    have c7 := held HB.out hb.out
    obtain ⟨n, hn⟩ : ∃ n, n = (gl i G).length := ⟨_, rfl⟩
    have hn2 : n ≤ 16 := by have := gl_len i G; omega
    have HN : Hid (n = (gl i G).length) := hn
    by_cases hlt : i < N
    · have cg := held (HR.out.cell hlt) hb.out
      have i1 : (0 : Int) ≤ (i : Int) := by omega
      have i2 : (i : Int) < (N : Int) := by omega
      cases hg : G i
      · rw [hg] at cg
        have HG : Hid (gl (i + 1) G = gl i G) := by show _ = _; rw [gl_succ, hg]; exact List.append_nil _
        go_wp2_with fail
        go_roundw
        case rel => exact ⟨i + 1, by omega, by go_num, ⟨ao, cap, by rw [HG.out], by rw [HG.out]; exact ho⟩, hb⟩
        case measure => simp [intOf]; omega
      · rw [hg] at cg
        have HG : Hid (gl (i + 1) G = gl i G ++ [(i : Int)]) := by show _ = _; rw [gl_succ, hg]; rfl
        obtain ⟨V, hV⟩ : ∃ V, V = ints (gl i G) := ⟨_, rfl⟩
        have HV : Hid (V = ints (gl i G)) := hV
        have HO : Hid (∀ o, (wr.alloc o).ownsRow w.heap.size 3 1 (.slice ao n cap) n V) := fun o => by rw [hn, hV]; exact World.ownsRow.alloc ho.out o
        rw [← hn]
        clear hn hV ho hg
        go_wp2_with (at_builtin; refine wpList_append_lies _ (by rfl) (.tmp 21) (.tmp 23) 65 (by rfl) w.heap.size 3 i0 (.int .i64 0) 1 8 Try.underlying65 hi hz0 hz1 hz2 (by rfl) (by decide) (.slice ao n cap) n V (by rfl) (HO.out _) ⟨wr.heap.size, 0, none⟩ 1 1 [.int .i64 (i : Int)] (by rfl) (by rfl) (World.news_of_block (heap_alloc_new wr _)) (by simp [Value.oneCell']) (by decide) (by unfold maxLen; omega) (by omega) (by simp; omega) (wr.heap.size + 1) (by simp) ?_; intro g2 cap2 w2 hown2 hgrow2 _ _; have HO2 : Hid (w2.ownsRow w.heap.size 3 1 (.slice (some ⟨g2, 0, none⟩) (n + 1) cap2) (n + 1) (V ++ [.int .i64 (i : Int)])) := hown2; have HB2 : Hid (Below w.heap.size w w2) := (hb.out.alloc hws _).grown hgrow2 (by simp; omega) (fun r hr => ((HO.out (.cells #[] 3)).lt r hr).1); clear hown2 hgrow2)
        go_roundw
        case rel =>
          have e1 : (gl (i + 1) G).length = n + 1 := by rw [HG.out, List.length_append, ← HN.out]; rfl
          refine ⟨i + 1, by omega, by go_num, ⟨some ⟨g2, 0, none⟩, cap2, by rw [e1], ?_⟩, HB2.out⟩
          show OwI _ _ _ _ _
          unfold OwI
          rw [e1, HG.out, show ints (gl i G ++ [(i : Int)]) = V ++ [.int .i64 (i : Int)] by rw [HV.out]; simp [ints]]
          exact HO2.out
        case measure => simp [intOf]; omega
    · obtain rfl : i = N := by omega
      go_wp2_with fail
      go_ret
      exact ⟨ao, cap, rfl, ho.out, hb.out⟩
set_option maxHeartbeats 1000000 in
set_option maxRecDepth 100000 in
/-- Two images that hold the same. -/
theorem Same_any (k r c q : Int) (w : World) (l1 l2 n c1 c2 : Nat) (A1 A2 : Nat → Option Addr) (C1 C2 : Nat → Nat) (F : Nat → List UInt8) (hn : n ≤ 1000000) (h1 : Lst w (some ⟨l1, 0, none⟩) n A1 C1 F) (h2 : Lst w (some ⟨l2, 0, none⟩) n A2 C2 F) :
    Calls Try.prog 57 #[.agg #[.int .i64 k, .int .i64 r, .int .i64 c, .int .i64 q, .slice (some ⟨l1, 0, none⟩) n c1], .agg #[.int .i64 k, .int .i64 r, .int .i64 c, .int .i64 q, .slice (some ⟨l2, 0, none⟩) n c2]] w fun e w' => e = .returned (.bool true) ∧ Below w.heap.size w w' := by
  have HT1 : Hid (Lst w (some ⟨l1, 0, none⟩) n A1 C1 F) := h1
  have HT2 : Hid (Lst w (some ⟨l2, 0, none⟩) n A2 C2 F) := h2
  have e6 : ((n : Int) != (n : Int)) = false := by simp
  have ek : (k == k) = true := by simp
  have er : (r == r) = true := by simp
  have ec : (c == c) = true := by simp
  have eq : (q == q) = true := by simp
  clear h1 h2
  go_enter Try.func57, Try.ntmps57
  go_wp2_with fail
  obtain ⟨w1, hw1⟩ : ∃ w1, w1 = w.alloc (.cells #[.int .i64 k, .int .i64 r, .int .i64 c, .int .i64 q, .slice (some ⟨l1, 0, none⟩) n c1] 26) := ⟨_, rfl⟩
  obtain ⟨wd, hwd⟩ : ∃ wd, wd = w1.alloc (.cells #[.int .i64 k, .int .i64 r, .int .i64 c, .int .i64 q, .slice (some ⟨l2, 0, none⟩) n c2] 26) := ⟨_, rfl⟩
  rw [← hw1, ← hwd]
  have b1 : Below w.heap.size w w1 := by rw [hw1]; exact below_alloc _ _
  have b2 : Below w1.heap.size w1 wd := by rw [hwd]; exact below_alloc _ _
  have z1 : w1.heap.size = w.heap.size + 1 := by rw [hw1]; simp
  have x4 : wd.cell? ⟨w.heap.size, 4, none⟩ = some (.slice (some ⟨l1, 0, none⟩) n c1) := (img_held hw1 b2).2.2.2.2
  have y4 : wd.cell? ⟨w.heap.size + 1, 4, none⟩ = some (.slice (some ⟨l2, 0, none⟩) n c2) := by rw [← z1]; exact (img_held hwd (Below.refl _ _)).2.2.2.2
  have HD : Hid (Below w.heap.size w wd) := below_then b1 b2
  clear hw1 hwd b1 b2 z1
  go_loopw [5] (fun x wr => ∃ i : Nat, i ≤ n ∧ x = .int .i64 i ∧ Hid (∃ q, wr = wd.drewN q)) (fun x _ => n - (intOf x).toNat)
  case atStart => exact ⟨0, Nat.zero_le _, rfl, 0, rfl⟩
  case round =>
    obtain ⟨i, hi, rfl, hq⟩ := hrel
    have hdr : ∀ a, wr.cell? a = wd.cell? a := by obtain ⟨q, rfl⟩ := hq.out; exact fun _ => rfl
    have z4 : wr.cell? ⟨w.heap.size, 4, none⟩ = some (.slice (some ⟨l1, 0, none⟩) n c1) := by rw [hdr]; exact x4
    have t4 : wr.cell? ⟨w.heap.size + 1, 4, none⟩ = some (.slice (some ⟨l2, 0, none⟩) n c2) := by rw [hdr]; exact y4
    by_cases hlt : i < n
    · have hbd : ∀ m, Below wd.heap.size wd (wr.drewN m) := by obtain ⟨q, rfl⟩ := hq.out; exact fun m => ⟨rfl, rfl, rfl, Nat.le_refl _, fun _ _ => rfl⟩
      obtain ⟨b1, o1, e1, hc1⟩ := (HT1.out.below HD.out).at_ (by omega)
      obtain ⟨b2, o2, e2, hc2⟩ := (HT2.out.below HD.out).at_ (by omega)
      cases e1
      cases e2
      have d1 : wr.cell? ⟨l1, i, none⟩ = some (.slice (A1 i) (F i).length (C1 i)) := by rw [hdr]; have h := hc1 i hlt; rwa [Nat.zero_add] at h
      have d2 : wr.cell? ⟨l2, i, none⟩ = some (.slice (A2 i) (F i).length (C2 i)) := by rw [hdr]; have h := hc2 i hlt; rwa [Nat.zero_add] at h
      obtain ⟨X, hX⟩ : ∃ X, X = F i := ⟨_, rfl⟩
      have v1 : ∀ m, (convert 43 9 (.slice (A1 i) X.length (C1 i))).run Try.prog (wr.drewN m) = .ok (.string (sOf X)) (wr.drewN m) := fun m => by rw [hX]; exact conv_any ((HT1.out.rd i hlt).below (below_then HD.out (hbd m))) _ _ rfl
      have v2 : ∀ m, (convert 43 9 (.slice (A2 i) X.length (C2 i))).run Try.prog (wr.drewN m) = .ok (.string (sOf X)) (wr.drewN m) := fun m => by rw [hX]; exact conv_any ((HT2.out.rd i hlt).below (below_then HD.out (hbd m))) _ _ rfl
      rw [← hX] at d1 d2
      have i1 : (0 : Int) ≤ (i : Int) := by omega
      have i2 : (i : Int) < (n : Int) := by omega
      clear hX hdr hbd x4 y4 hc1 hc2
      go_wp2
      go_quiet (fail)
      go_wp2
      go_roundw
      case rel =>
        obtain ⟨q, hq2⟩ := hq.out
        exact ⟨i + 1, by omega, by go_num, q + nq, by rw [hq2]; simp [World.drewN, Nat.add_assoc]⟩
      case measure => simp [intOf]; omega
    · obtain rfl : i = n := by omega
      clear hdr x4 y4
      go_wp2
      go_ret
      obtain ⟨q, rfl⟩ := hq.out
      exact ⟨rfl, below_then HD.out ⟨rfl, rfl, rfl, Nat.le_refl _, fun _ _ => rfl⟩⟩
theorem owi_cell {B : Nat} {w : World} {ao : Option Addr} {cap : Nat} {L : List Int} (h : OwI B w ao cap L) {i : Nat} (hi : i < L.length) : ∃ g V, ao = some ⟨g, 0, none⟩ ∧ (w.cell? ⟨g, i, none⟩ = some (.int .i64 (L.getD i 0)) ∧ V = g) := by
  obtain ⟨g, cp, e, h1, h2⟩ := World.ownsRow.form h (by omega)
  cases e
  refine ⟨g, g, rfl, ?_, rfl⟩
  have hc := World.ownsRow.cells h (g := g) rfl i (.int .i64 (L.getD i 0)) (by simp [ints, List.getD, hi])
  rwa [Addr.add_lit, Nat.zero_add] at hc
theorem gl_up {G : Nat → Bool} {N : Nat} : ∀ n, N ≤ n → (∀ i, N ≤ i → G i = false) → gl n G = gl N G
  | 0, h, _ => by rw [Nat.le_zero.1 h]
  | n + 1, h, hG => by
    rcases Nat.lt_or_ge n N with h1 | h1
    · rw [show n + 1 = N by omega]
    · rw [gl_succ, hG n h1, gl_up n h1 hG]; exact List.append_nil _
set_option maxHeartbeats 2000000 in
set_option maxRecDepth 100000 in
/-- A disk and the document's one that are the same. -/
theorem same_any {Y Z : Nat → Prop} {w : World} {g h : Nat} {k r c : Int} {N Q S : Nat} {st : St} (hd : Dk w Y g k r c N Q S st) (hr : Rk w Z h k r c N Q S st) (hG : ∀ i, N ≤ i → st.gone i = false) :
    Calls Try.prog 30 #[.pointer (some ⟨g, 0, none⟩), .pointer (some ⟨h, 0, none⟩)] w fun e w' => e = .returned (.bool true) ∧ Below w.heap.size w w' := by
  have hb := hd.pm.bounds
  have HI := Image_any hd
  have HP := fun w' (hb : Below w.heap.size w w') => Params_any (hd.below hb)
  have HWp := fun w' (hb : Below w.heap.size w w') => Wiped_any (hd.below hb)
  have HGo := fun w' (hb : Below w.heap.size w w') => Gone_any (hr.below hb)
  have HO := fun w' (hb : Below w.heap.size w w') => Off_any (hd.below hb)
  have HW := fun w' (hb : Below w.heap.size w w') => Writes_any (hd.below hb)
  rw [gl_up 16 hb.2.1 hG] at HWp
  obtain ⟨l, cl, wl, A, C, hr⟩ := hr
  obtain ⟨rc0, rc1, rc2, rc3, rc4, rc5, _, _, rc8⟩ := cells_rk hr.blk
  have HSL : Hid (Lst w (some ⟨l, 0, none⟩) (N * Q * 2) A C st.F) := hr.sl.lst
  have hL : (gl N st.gone).length ≤ 16 := by have := gl_len N st.gone; omega
  have hn1 := hb.2.2.2.2.2.2.2
  generalize gl N st.gone = L at *
  generalize st.off = ov at *
  generalize st.wr = wv at *
  generalize N * Q * 2 = n at *
  have ek : (k == k) = true := by simp
  have er : (r == r) = true := by simp
  have ec : (c == c) = true := by simp
  have eq : ((Q : Int) == (Q : Int)) = true := by simp
  have eo : (ov != ov) = false := by simp
  have ew : (wv != wv) = false := by simp
  have el : ((L.length : Int) != (L.length : Int)) = false := by simp
  clear hd hr hb hG
  go_enter Try.func30, Try.ntmps30
  go_wp2_with fail
  refine HI.mono ?_
  rintro e wa ⟨m, A1, C1, rfl, hs1, _, ha⟩
  have HS1 : Hid (Lst wa (some ⟨m, 0, none⟩) n A1 C1 st.F) := hs1.lst
  clear hs1 HI
  go_wp2_with fail
  obtain ⟨wb, hwb⟩ : ∃ wb, wb = wa.alloc (.cells #[.int .i64 k, .int .i64 r, .int .i64 c, .int .i64 (Q : Int), .slice (some ⟨m, 0, none⟩) n n] 26) := ⟨_, rfl⟩
  rw [← hwb]
  have hb : Below wa.heap.size wa wb := by rw [hwb]; exact below_alloc _ _
  refine (HP wb (below_then ha hb)).mono ?_
  rintro e wc ⟨rfl, hc⟩
  go_wp2_with fail
  obtain ⟨wd, hwd⟩ : ∃ wd, wd = wc.alloc (.cells #[.int .i64 k, .int .i64 r, .int .i64 c, .int .i64 (Q : Int)] 23) := ⟨_, rfl⟩
  rw [← hwd]
  have hd : Below wc.heap.size wc wd := by rw [hwd]; exact below_alloc _ _
  have BD : Below w.heap.size w wd := below_then (below_then ha hb) (below_then hc hd)
  refine (HWp wd BD).mono ?_
  rintro e we ⟨ao1, cap1, rfl, ho1, he⟩
  have HO1 : Hid (OwI wd.heap.size we ao1 cap1 L) := ho1
  clear ho1
  go_wp2_with fail
  refine (HGo we (below_then BD he)).mono ?_
  rintro e wf ⟨ao2, cap2, rfl, ho2, hf⟩
  have HO2 : Hid (OwI we.heap.size wf ao2 cap2 L) := ho2
  have HBF : Hid (Below w.heap.size w wf) := below_then (below_then BD he) hf
  have HO1 : Hid (OwI wd.heap.size wf ao1 cap1 L) := owns_stay HO1.out (fun g _ hg => hf.block g hg)
  have SH : Hid (∀ v, Below wf.heap.size wf v → (v.cell? ⟨wa.heap.size, 0, none⟩ = some (.int .i64 k) ∧ v.cell? ⟨wa.heap.size, 1, none⟩ = some (.int .i64 r) ∧ v.cell? ⟨wa.heap.size, 2, none⟩ = some (.int .i64 c) ∧ v.cell? ⟨wa.heap.size, 3, none⟩ = some (.int .i64 (Q : Int)) ∧ v.cell? ⟨wa.heap.size, 4, none⟩ = some (.slice (some ⟨m, 0, none⟩) n n)) ∧ (v.cell? ⟨wc.heap.size, 0, none⟩ = some (.int .i64 k) ∧ v.cell? ⟨wc.heap.size, 1, none⟩ = some (.int .i64 r) ∧ v.cell? ⟨wc.heap.size, 2, none⟩ = some (.int .i64 c) ∧ v.cell? ⟨wc.heap.size, 3, none⟩ = some (.int .i64 (Q : Int)))) :=
    fun v hv => ⟨img_held hwb (below_then hc (below_then hd (below_then he (below_then hf hv)))), par_held hwd (below_then he (below_then hf hv))⟩
  have SR : Hid (∀ v, Below wf.heap.size wf v → v.cell? ⟨h, 0, none⟩ = some (.int .i64 k) ∧ v.cell? ⟨h, 1, none⟩ = some (.int .i64 r) ∧ v.cell? ⟨h, 2, none⟩ = some (.int .i64 c) ∧ v.cell? ⟨h, 3, none⟩ = some (.int .i64 (Q : Int)) ∧ v.cell? ⟨h, 4, none⟩ = some (.slice (some ⟨l, 0, none⟩) n cl) ∧ v.cell? ⟨h, 5, none⟩ = some (.bool ov) ∧ v.cell? ⟨h, 8, none⟩ = some (.int .i64 wv)) :=
    fun v hv => have hv' := below_then HBF.out hv; ⟨held rc0 hv', held rc1 hv', held rc2 hv', held rc3 hv', held rc4 hv', held rc5 hv', held rc8 hv'⟩
  have HSM := Same_any k r c Q wf.drew m l n n cl A1 A C1 C st.F (by omega) (HS1.out.below (below_then hb (below_then hc (below_then hd (below_then he (below_then hf (below_drew _ _))))))) (HSL.out.below (below_then HBF.out (below_drew _ _)))
  obtain ⟨⟨a0, a1, a2, a3, a4⟩, b0, b1, b2, b3⟩ := SH.out wf (Below.refl _ _)
  obtain ⟨r0, r1, r2, r3, r4, r5, r8⟩ := SR.out wf (Below.refl _ _)
  clear ho2 hwb hwd ha hb hc hd he hf BD rc0 rc1 rc2 rc3 rc4 rc5 rc8 HP HWp HGo HS1 HSL
  go_wp2_with fail
  go_region_held3 (fun v => v.cell? ⟨wa.heap.size, 0, none⟩ = some (.int .i64 k) ∧ v.cell? ⟨wa.heap.size, 1, none⟩ = some (.int .i64 r) ∧ v.cell? ⟨wa.heap.size, 2, none⟩ = some (.int .i64 c) ∧ v.cell? ⟨wa.heap.size, 3, none⟩ = some (.int .i64 (Q : Int)) ∧ v.cell? ⟨wa.heap.size, 4, none⟩ = some (.slice (some ⟨m, 0, none⟩) n n) ∧ v.cell? ⟨wc.heap.size, 0, none⟩ = some (.int .i64 k) ∧ v.cell? ⟨wc.heap.size, 1, none⟩ = some (.int .i64 r) ∧ v.cell? ⟨wc.heap.size, 2, none⟩ = some (.int .i64 c) ∧ v.cell? ⟨wc.heap.size, 3, none⟩ = some (.int .i64 (Q : Int)) ∧ v.cell? ⟨h, 0, none⟩ = some (.int .i64 k) ∧ v.cell? ⟨h, 1, none⟩ = some (.int .i64 r) ∧ v.cell? ⟨h, 2, none⟩ = some (.int .i64 c) ∧ v.cell? ⟨h, 3, none⟩ = some (.int .i64 (Q : Int)) ∧ v.cell? ⟨h, 4, none⟩ = some (.slice (some ⟨l, 0, none⟩) n cl) ∧ v.cell? ⟨h, 5, none⟩ = some (.bool ov) ∧ v.cell? ⟨h, 8, none⟩ = some (.int .i64 wv)) (go_keep)
    (first
      | (go_at_call 57; refine HSM.mono ?_; rintro e wg ⟨rfl, hg⟩; obtain ⟨⟨c0, c1, c2, c3, c4⟩, d0, d1, d2, d3⟩ := SH.out wg (of_drew hg); obtain ⟨s0, s1, s2, s3, s4, s5, s8⟩ := SR.out wg (of_drew hg); have HBG : Hid (Below wf.heap.size wf wg) := of_drew hg; clear hg)
      | (go_at_call 36; refine (HO wg (below_then HBF.out HBG.out)).mono ?_; rintro e w' ⟨rfl, hw'⟩; obtain rfl := hw'.symm)
      | (go_at_call 37; refine (HW wg (below_then HBF.out HBG.out)).mono ?_; rintro e w' ⟨rfl, hw'⟩; obtain rfl := hw'.symm))
  all_goals
    have HG : Hid (Below w.heap.size w wg) := below_then HBF.out HBG.out
    have HP1 : Hid (OwI wd.heap.size wg ao1 cap1 L) := owns_stay HO1.out (fun g _ hg => HBG.out.block g hg)
    have HP2 : Hid (OwI we.heap.size wg ao2 cap2 L) := owns_stay HO2.out (fun g _ hg => HBG.out.block g hg)
    clear HO1 HO2 HBF HBG SH SR HSM HO HW a0 a1 a2 a3 a4 b0 b1 b2 b3 r0 r1 r2 r3 r4 r5 r8 c0 c1 c2 c3 c4 d0 d1 d2 d3 s0 s1 s2 s3 s4 s5 s8
    obtain ⟨ln, hln⟩ : ∃ ln, ln = L.length := ⟨_, rfl⟩
    rw [← hln] at hL el
    rw [← hln]
    go_wp2_with fail
    go_loopw [11] (fun x wr => ∃ i : Nat, i ≤ ln ∧ x = .int .i64 i ∧ Hid (∃ q, wr = wg.drewN q)) (fun x _ => ln - (intOf x).toNat)
    case atStart => exact ⟨0, Nat.zero_le _, rfl, 0, rfl⟩
    case round =>
      obtain ⟨i, hi, rfl, hq⟩ := hrel
      by_cases hlt : i < ln
      · have hdr : ∀ a, wr.cell? a = wg.cell? a := by obtain ⟨q, rfl⟩ := hq.out; exact fun _ => rfl
        obtain ⟨x1, _, e1, hv1, _⟩ := owi_cell HP1.out (by omega : i < L.length)
        obtain ⟨x2, _, e2, hv2, _⟩ := owi_cell HP2.out (by omega : i < L.length)
        subst e1 e2
        have q1 : wr.cell? ⟨x1, i, none⟩ = some (.int .i64 (L.getD i 0)) := by rw [hdr]; exact hv1
        have q2 : wr.cell? ⟨x2, i, none⟩ = some (.int .i64 (L.getD i 0)) := by rw [hdr]; exact hv2
        generalize L.getD i 0 = lv at *
        have ev : (lv != lv) = false := by simp
        have i1 : (0 : Int) ≤ (i : Int) := by omega
        have i2 : (i : Int) < (ln : Int) := by omega
        clear hdr hv1 hv2 hln
        go_wp2
        go_quiet (fail)
        go_wp2
        go_roundw
        case rel =>
          obtain ⟨q, hq2⟩ := hq.out
          exact ⟨i + 1, by omega, by go_num, q + nq, by rw [hq2]; simp [World.drewN, Nat.add_assoc]⟩
        case measure => simp [intOf]; omega
      · obtain rfl : i = ln := by omega
        clear hln
        go_wp2
        go_ret
        obtain ⟨q, rfl⟩ := hq.out
        exact ⟨rfl, below_then HG.out ⟨rfl, rfl, rfl, Nat.le_refl _, fun _ _ => rfl⟩⟩
end Go.Proofs.Ytdicogmjjboilaa
