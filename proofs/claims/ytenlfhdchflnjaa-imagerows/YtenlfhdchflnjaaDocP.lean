/- What makes one image of another one, as the document tells it: slot by slot. -/
import Derived.Test.YtenlfhdchflnjaaDocO
namespace Go.Proofs.Ytenlfhdchflnjaa
open Go.RowKit

section
variable {k1 r1 c1 q1 : Int} {n1 : Nat} {F : Nat → List UInt8} {G : Nat → List UInt8} {N Q S N2 Q2 S2 : Nat}
set_option maxHeartbeats 4000000 in
set_option maxRecDepth 100000 in
theorem DiffD_go (hck : Ck k1 r1 c1 q1 n1 F 0 N Q S) (hck2 : Ck k1 r1 c1 q1 n1 G 0 N2 Q2 S2) (x : Int) (ln : Nat) (D : Nat → Pt) (hx : ((∀ i, i < n1 → ¬ F i = G i → ¬ G i = []) ∧ x = 0 ∧ ln = (dfs Q F G n1).length ∧ D = fun j => (dfs Q F G n1).getD j p0) ∨ ((∃ i, i < n1 ∧ ¬ F i = G i ∧ G i = []) ∧ x = 90 ∧ ln = 0 ∧ D = fun _ => p0)) (lo1 lo2 : Option Addr) (cl1 cl2 : Nat) (A1 A2 : Nat → Option Addr) (E1 E2 : Nat → Nat) (w : World) (h1 : Lst w lo1 n1 A1 E1 F) (h2 : Lst w lo2 n1 A2 E2 G) :
    Calls Try.prog 31 #[.agg #[.int .i64 k1, .int .i64 r1, .int .i64 c1, .int .i64 q1, .slice lo1 n1 cl1], .agg #[.int .i64 k1, .int .i64 r1, .int .i64 c1, .int .i64 q1, .slice lo2 n1 cl2]] w fun e w' => ∃ po pc B K, e = .returned (.tuple #[.slice po ln pc, .int .i64 x]) ∧ Pus false w' w.heap.size po ln pc D B K ∧ Below w.heap.size w w' := by
  have hpm := (hck.ok rfl).1
  obtain ⟨hN1, hN2, hQ1, hQ, hS1, hS2, hn1, hn2⟩ := hpm.bounds
  have hn2 : n1 ≤ 8192 := by have := (hck.ok rfl).2.1; omega
  have HGL : Hid (∀ i, i < n1 → (G i).length ≤ 1000000) := fun i hi => by have := (hck2.ok rfl).2.2 i hi; have := (hck2.ok rfl).1.bounds.2.2.2.2.2.1; omega
  have HQQ : Hid (q1 = (Q : Int)) := hpm.2.2.1.symm
  have HX : Hid (((∀ i, i < n1 → ¬ F i = G i → ¬ G i = []) ∧ x = 0 ∧ ln = (dfs Q F G n1).length ∧ D = fun j => (dfs Q F G n1).getD j p0) ∨ ((∃ i, i < n1 ∧ ¬ F i = G i ∧ G i = []) ∧ x = 90 ∧ ln = 0 ∧ D = fun _ => p0)) := hx
  obtain ⟨w0, hw0⟩ : ∃ w0, w0 = w.alloc (.cells #[.int .i64 k1, .int .i64 r1, .int .i64 c1, .int .i64 q1, .slice lo1 n1 cl1] 27) := ⟨_, rfl⟩
  obtain ⟨w1, hw1⟩ : ∃ w1, w1 = w0.alloc (.cells #[.int .i64 k1, .int .i64 r1, .int .i64 c1, .int .i64 q1, .slice lo2 n1 cl2] 27) := ⟨_, rfl⟩
  have b0 : Below w.heap.size w w0 := by rw [hw0]; exact below_alloc _ _
  have b1 : Below w0.heap.size w0 w1 := by rw [hw1]; exact below_alloc _ _
  have z0 : w0.heap.size = w.heap.size + 1 := by rw [hw0]; simp
  have z1 : w.heap.size + 2 ≤ w1.heap.size := by rw [hw1]; simp; omega
  have HB1 : Hid (Below w.heap.size w w1) := below_then b0 b1
  have S1 : Hid (∀ v, Below w1.heap.size w1 v → v.cell? ⟨w.heap.size, 0, none⟩ = some (.int .i64 k1) ∧ v.cell? ⟨w.heap.size, 1, none⟩ = some (.int .i64 r1) ∧ v.cell? ⟨w.heap.size, 2, none⟩ = some (.int .i64 c1) ∧ v.cell? ⟨w.heap.size, 3, none⟩ = some (.int .i64 q1) ∧ v.cell? ⟨w.heap.size, 4, none⟩ = some (.slice lo1 n1 cl1)) := fun v hv => img_held hw0 (below_then b1 hv)
  have S2 : Hid (∀ v, Below w1.heap.size w1 v → v.cell? ⟨w.heap.size + 1, 0, none⟩ = some (.int .i64 k1) ∧ v.cell? ⟨w.heap.size + 1, 1, none⟩ = some (.int .i64 r1) ∧ v.cell? ⟨w.heap.size + 1, 2, none⟩ = some (.int .i64 c1) ∧ v.cell? ⟨w.heap.size + 1, 3, none⟩ = some (.int .i64 q1) ∧ v.cell? ⟨w.heap.size + 1, 4, none⟩ = some (.slice lo2 n1 cl2)) := fun v hv => by rw [← z0]; exact img_held hw1 hv
  have HC := Check_doc hck lo1 cl1 A1 E1 w1 (h1.below HB1.out)
  have HL1 : Hid (Lst w lo1 n1 A1 E1 F) := h1
  have HL2 : Hid (Lst w lo2 n1 A2 E2 G) := h2
  clear hck h1 h2 hx hpm hn1
  go_enter Try.func31, Try.ntmps31
  go_wp2_with fail
  rw [← hw0, ← hw1]
  clear hw0 hw1 b0 b1 z0
  refine HC.mono ?_
  rintro e wa ⟨rfl, ha⟩
  have HA : Hid (Below w1.heap.size w1 wa) := ha
  clear ha HC
  obtain ⟨t0, t1, t2, t3, t4⟩ := S2.out wa HA.out
  have HC2 := Check_doc hck2 lo2 cl2 A2 E2 wa (HL2.out.below (below_then HB1.out HA.out))
  clear hck2
  go_wp2_with fail
  clear t0 t1 t2 t3 t4
  refine HC2.mono ?_
  rintro e wc ⟨rfl, hc⟩
  have HBc : Hid (Below w1.heap.size w1 wc) := below_then HA.out hc
  clear HC2 hc
  obtain ⟨s0, s1, s2, s3, s4⟩ := S1.out wc HBc.out
  obtain ⟨t0, t1, t2, t3, t4⟩ := S2.out wc HBc.out
  have ek : (k1 == k1) = true := by simp
  have er : (r1 == r1) = true := by simp
  have ec : (c1 == c1) = true := by simp
  have eq : (q1 == q1) = true := by simp
  have hz1c := HBc.out.size
  obtain ⟨i0, hinf, hz0, hz1, hz2⟩ := info_parts info35
  go_wp2_with fail
  clear s0 s1 s2 s3 s4 t0 t1 t2 t3 t4 ek er ec eq
  go_loopw [7, 8] (fun u y wr => ∃ (i : Nat) (po : Option Addr) (pc : Nat) (B : Nat → Option Addr) (K : Nat → Nat), i ≤ n1 ∧ y = .int .i64 i ∧ u = .slice po (dfs Q F G i).length pc ∧ Hid (Pus false wr wc.heap.size po (dfs Q F G i).length pc (fun j => (dfs Q F G i).getD j p0) B K) ∧ Hid (Below wc.heap.size wc wr) ∧ Hid (∀ j, j < i → ¬ F j = G j → ¬ G j = [])) (fun _ y _ => n1 - (intOf y).toNat)
  case atStart => exact ⟨0, none, 0, fun _ => none, fun _ => 0, Nat.zero_le _, rfl, rfl, pus_nil _ _ _ _ _ _, Below.refl _ _, fun j hj => absurd hj (Nat.not_lt_zero j)⟩
  case round =>
    obtain ⟨i, po, pc, B, K, hi, rfl, rfl, hs, hb, hg⟩ := hrel
    have hbw : Below w.heap.size w wr := below_then HB1.out (below_then HBc.out hb.out)
    obtain ⟨s0, s1, s2, s3, s4⟩ := S1.out wr (below_then HBc.out hb.out)
    obtain ⟨t0, t1, t2, t3, t4⟩ := S2.out wr (below_then HBc.out hb.out)
    by_cases hlt : i < n1
    · have HA1 := HL1.out.below hbw
      have HB2 := HL2.out.below hbw
      obtain ⟨b1, o1, rfl, hc1⟩ := HA1.at_ (by omega)
      obtain ⟨b2, o2, rfl, hc2⟩ := HB2.at_ (by omega)
      obtain ⟨gl, hgl⟩ : ∃ gl, gl = (G i).length := ⟨_, rfl⟩
      have HGLN : Hid (gl = (G i).length) := hgl
      have d1 := hc1 i hlt
      have d2 := hc2 i hlt
      rw [← hgl] at d2
      have v1 : ∀ m, (convert 33 9 (.slice (A1 i) (F i).length (E1 i))).run Try.prog (wr.drewN m) = .ok (.string (sOf (F i))) (wr.drewN m) := fun m => conv_any ((HA1.rd _ hlt).below (below_q rfl)) _ _ rfl
      have v2 : ∀ m, (convert 33 9 (.slice (A2 i) gl (E2 i))).run Try.prog (wr.drewN m) = .ok (.string (sOf (G i))) (wr.drewN m) := fun m => conv_any ((HB2.rd _ hlt).below (below_q rfl)) _ _ hgl
      have HGR0 : Hid (RdB wr (A2 i) (G i)) := HB2.rd i hlt
      have HGN : Hid (A2 i = none → G i = [] ∧ E2 i = 0) := HB2.nil i hlt
      have i1 : (0 : Int) ≤ (i : Int) := by omega
      have i2 : (i : Int) < (n1 : Int) := by omega
      have st1 := str_eq (F i) (G i)
      have hbb2 : b2 < w.heap.size := by
        obtain ⟨b', o', e, hc3⟩ := HL2.out.at_ (by omega)
        cases e
        exact World.block_lt_of_cell? w _ (hc3 i hlt)
      clear hc1 hc2 HA1 HB2 hgl
      by_cases he : F i = G i
      · have HEE : Hid (F i = G i) := he
        rw [decide_eq_true he] at st1
        clear he
        go_wp2_with fail
        go_quiet (fail)
        go_wp2
        go_roundw
        case rel =>
          have e1 := dfs_same (Q := Q) HEE.out
          exact ⟨i + 1, po, pc, B, K, by omega, by go_num, by rw [e1], by rw [e1]; exact hs.out.below (below_q rfl), below_then hb.out (below_q rfl), fun j hj => by rcases Nat.lt_succ_iff_lt_or_eq.1 hj with g | rfl; exact hg.out j g; exact fun h => absurd HEE.out h⟩
        case measure => simp [intOf]; omega
      · have HEE : Hid (¬ F i = G i) := he
        rw [decide_eq_false he] at st1
        by_cases hg0 : G i = []
        · have HF : Hid (x = 90 ∧ ln = 0 ∧ D = fun _ => p0) := by
            rcases HX.out with ⟨h, _⟩ | ⟨_, h⟩
            · exact absurd hg0 (h i hlt he)
            · exact h
          have hl0 : gl = 0 := by rw [HGLN.out, hg0]; rfl
          subst hl0
          clear he hg0
          go_wp2_with fail
          go_quiet (fail)
          go_wp2
          go_ret2
          obtain ⟨e1, e2, e3⟩ := HF.out
          rw [e1, e2, e3]
          exact ⟨none, 0, fun _ => none, fun _ => 0, rfl, pus_nil _ _ _ _ _ _, below_then hbw (below_q rfl)⟩
        · have hl1 : ¬ gl = 0 := fun h => hg0 (List.length_eq_zero_iff.1 (HGLN.out.symm.trans h))
          have HG0 : Hid (¬ G i = []) := hg0
          have hl3 : ((gl : Int) == 0) = false := by simp; omega
          have HGF : Hid ((G i).length ≤ 140737488355328) := by have := HGL.out i hlt; show _ ≤ _; omega
          obtain ⟨L, hL⟩ : ∃ L, L = (dfs Q F G i).length := ⟨_, rfl⟩
          have HLL : Hid (L = (dfs Q F G i).length) := hL
          have hLi : L ≤ i := by rw [hL]; exact dfs_le Q F G i
          obtain ⟨hf, hhf⟩ : ∃ hf, hf = i / 2 := ⟨_, rfl⟩
          obtain ⟨dv, hdv⟩ : ∃ dv, dv = hf / Q := ⟨_, rfl⟩
          obtain ⟨rm, hrm⟩ : ∃ rm, rm = hf % Q := ⟨_, rfl⟩
          obtain ⟨sl, hsl⟩ : ∃ sl, sl = i % 2 := ⟨_, rfl⟩
          have hdb : dv ≤ 8192 := by rw [hdv]; exact Nat.le_trans (Nat.div_le_self _ _) (by omega)
          have e1 : (i : Int) / 2 = (hf : Int) := by omega
          have e2 : IntKind.i64.wrap ((hf : Int) / (Q : Int)) = (dv : Int) := by rw [show (hf : Int) / (Q : Int) = (dv : Int) by rw [hdv]; simp, IntKind.wrap_i64]; omega
          have e0 : IntKind.i64.wrap (hf : Int) = (hf : Int) := by rw [IntKind.wrap_i64]; omega
          have e2t : IntKind.i64.wrap ((hf : Int).tdiv (Q : Int)) = (dv : Int) := by rw [show (hf : Int).tdiv (Q : Int) = (dv : Int) by rw [hdv]; rfl, IntKind.wrap_i64]; omega
          have e3 : (hf : Int).tmod (Q : Int) = (rm : Int) := by rw [hrm]; rfl
          have e4 : (i : Int).tmod 2 = (sl : Int) := by rw [hsl]; rfl
          have nQ : ¬ Q = 0 := by omega
          have nQ2 : ¬ (Q : Int) = 0 := by omega
          have HY : Hid ((⟨(dv : Int), (rm : Int), (sl : Int), G i⟩ : Pt) = ⟨((i / 2 / Q : Nat) : Int), ((i / 2 % Q : Nat) : Int), ((i % 2 : Nat) : Int), G i⟩) := by show _ = _; rw [hdv, hrm, hsl, hhf]
          rw [← hL]
          rw [HQQ.out] at s3
          clear he hg0 hL hhf hdv hrm hsl s0 s1 s2 t0 t1 t2 t3
          go_wp2_with fail
          go_quiet (fail)
          go_wp2
          obtain ⟨wd, hwd⟩ : ∃ wd, wd = wr.drewN nq := ⟨_, rfl⟩
          rw [← hwd]
          have HRD : Hid (Below wr.heap.size wr wd) := by rw [hwd]; exact below_q rfl
          have hzd : wd.heap.size = wr.heap.size := by rw [hwd]; rfl
          have HBD : Hid (Below wc.heap.size wc wd) := below_then hb.out HRD.out
          have hp1 := hs.out.below HRD.out
          rw [← HLL.out] at hp1
          have HPD : Hid (Pus false wd wc.heap.size po L pc (fun j => (dfs Q F G i).getD j p0) B K) := hp1
          have HPB : Hid (∀ d, po = some d → d.block < wd.heap.size) := fun d hd => (hp1.1.lt d.block (by subst hd; rfl)).2
          have HPV : Hid (∀ d, po = some d → wc.heap.size ≤ d.block) := fun d hd => (hp1.1.lt d.block (by subst hd; rfl)).1
          have HGR : Hid (∀ v, Below wd.heap.size wd v → RdB v (A2 i) (G i)) := fun v hv => HGR0.out.below (below_then HRD.out hv)
          have CH : Hid (∀ v, Below wd.heap.size wd v → v.cell? ⟨w.heap.size, 3, none⟩ = some (.int .i64 (Q : Int)) ∧ v.cell? ⟨w.heap.size + 1, 4, none⟩ = some (.slice (some ⟨b2, o2, none⟩) n1 cl2) ∧ v.cell? ⟨b2, o2 + i, none⟩ = some (.slice (A2 i) gl (E2 i))) := fun v hv => by
            have hv2 := below_then HRD.out hv
            exact ⟨held s3 hv2, held t4 hv2, held d2 hv2⟩
          have hzr := hb.out.size
          clear hwd hp1 v1 v2 st1
          obtain ⟨f1, f2, f3⟩ := CH.out wd (Below.refl _ _)
          go_region_held3 (fun v => v.cell? ⟨w.heap.size, 3, none⟩ = some (.int .i64 (Q : Int)) ∧ v.cell? ⟨w.heap.size + 1, 4, none⟩ = some (.slice (some ⟨b2, o2, none⟩) n1 cl2) ∧ v.cell? ⟨b2, o2 + i, none⟩ = some (.slice (A2 i) gl (E2 i))) (go_keep)
            (first
              | (refine step_app (by rfl) (.tmp 67) (.tmp 72) (by rfl) (by simp [Act.eval]) (A2 i) gl (E2 i) (G i) (by simp [Act.eval]) HGLN.out (HGR.out _ (by first | exact Below.refl _ _ | exact below_drew _ _)) HGN.out HGF.out ?_; rintro an cn wx ⟨hb1, hb2, hb3, hb5⟩; have HX5 : Hid (Below wd.heap.size wd wx) := (by first | exact hb5 | exact of_drew hb5); obtain ⟨p1, p2, p3⟩ := CH.out wx HX5.out; have y1 := (fun o => held p1 (below_alloc wx o)); have y2 := (fun o => held p2 (below_alloc wx o)); have y3 := (fun o => held p3 (below_alloc wx o)); have HR1 : Hid (RdB wx an (G i)) := hb1; have HAN : Hid (∀ a, an = some a → wd.heap.size ≤ a.block ∧ a.block < wx.heap.size) := hb2; have HR3 : Hid (an = none → G i = [] ∧ cn = 0) := hb3; obtain ⟨XS, hXS⟩ : ∃ XS, XS = ptv (fun j => (dfs Q F G i).getD j p0) B K L := ⟨_, rfl⟩; have HXS : Hid (XS = ptv (fun j => (dfs Q F G i).getD j p0) B K L) := hXS; have HPX : Hid (∀ o, Pus false (wx.alloc o) wc.heap.size po L pc (fun j => (dfs Q F G i).getD j p0) B K) := (fun o => HPD.out.below (below_then HX5.out (below_alloc _ _))); have HOB : Hid (∀ o, (wx.alloc o).ownsRow wc.heap.size 35 4 (.slice po L pc) L XS) := (fun o => by rw [HXS.out]; exact (HPX.out o).1); have hzx := HX5.out.size; clear hb1 hb2 hb3 hb5 hXS)
              | (refine Go.step_append_lies _ (by rfl) (.tmp 52) (.tmp 75) 32 (by rfl) wc.heap.size 35 i0 (.agg #[.int .i64 0, .int .i64 0, .int .i64 0, .slice none 0 0]) 4 48 Try.underlying32 hinf hz0 hz1 hz2 (by rfl) (by decide) (.slice po L pc) L XS (by simp [Act.eval]) (HOB.out _) ⟨wx.heap.size, 0, none⟩ 1 1 [.int .i64 (dv : Int), .int .i64 (rm : Int), .int .i64 (sl : Int), .slice an gl cn] (by simp [Act.eval]) (by rfl) (World.news_of_block (heap_alloc_new wx _)) (by simp [Value.oneCell']) (by decide) (by unfold maxLen; omega) (by omega) (by simp; omega) (wx.heap.size + 1) (by simp) ?_; intro g2 cap2 w2 hown2 hgrow2 hwh2 _; have HST : Hid (Pus false w2 wc.heap.size (some ⟨g2, 0, none⟩) (L + 1) cap2 (upd L ⟨(dv : Int), (rm : Int), (sl : Int), G i⟩ (fun j => (dfs Q F G i).getD j p0)) (upd L an B) (upd L cn K) ∧ Below wc.heap.size wc w2) := ⟨Pus.snoc (y := ⟨(dv : Int), (rm : Int), (sl : Int), G i⟩) HXS.out (HPX.out _).2 (HR1.out.below (below_alloc _ _)) (fun a ha => by have h := HAN.out a ha; exact ⟨by omega, by simp; omega, fun d hd => by have := HPB.out d hd; omega⟩) HR3.out (fun h => by cases h) (by rw [← HGLN.out]; exact hown2) hgrow2 (by simpa using hwh2), ((below_then HBD.out HX5.out).alloc (by omega) _).grown hgrow2 (by simp; omega) (fun r hr => ((HOB.out (.cells #[] 3)).lt r hr).1)⟩; have gw : ∀ x, x < wx.heap.size → (∀ d, po = some d → x ≠ d.block) → w2.heap[x]? = wx.heap[x]? := (fun x hx hne => (hgrow2.block x (by simp; omega) (fun e => by cases po with | none => cases e | some a => cases e; exact hne _ rfl rfl)).trans (Below.heap_alloc _ _ _ hx)); have u1 := (World.cell?_of_block (a := ⟨w.heap.size, 3, none⟩) (gw w.heap.size (by omega) (fun d hd => by have := HPV.out d hd; omega))).trans p1; have u2 := (World.cell?_of_block (a := ⟨w.heap.size + 1, 4, none⟩) (gw (w.heap.size + 1) (by omega) (fun d hd => by have := HPV.out d hd; omega))).trans p2; have u3 := (World.cell?_of_block (a := ⟨b2, o2 + i, none⟩) (gw b2 (by omega) (fun d hd => by have := HPV.out d hd; omega))).trans p3; clear hown2 hgrow2 hwh2 gw))
          all_goals
            go_wp2_with fail
            go_roundw
            case rel =>
              have e1 := dfs_new (Q := Q) HEE.out
              have e2 : (dfs Q F G (i + 1)).length = L + 1 := by rw [e1, List.length_append, ← HLL.out]; rfl
              refine ⟨i + 1, some ⟨g2, 0, none⟩, cap2, upd L an B, upd L cn K, by omega, by go_num, by rw [e2], ?_, HST.out.2, fun j hj => ?_⟩
              · show Pus _ _ _ _ _ _ _ _ _
                rw [e2]
                refine HST.out.1.congr fun j hj => ?_
                rw [e1, ← HY.out, ← getD_snoc _ _ j (by rw [← HLL.out]; exact hj), ← HLL.out]
              · rcases Nat.lt_succ_iff_lt_or_eq.1 hj with g | rfl
                · exact hg.out j g
                · exact fun _ => HG0.out
            case measure => simp [intOf]; omega
    · obtain rfl : i = n1 := by omega
      have HF : Hid (x = 0 ∧ ln = (dfs Q F G i).length ∧ D = fun j => (dfs Q F G i).getD j p0) := by
        rcases HX.out with ⟨_, h⟩ | ⟨⟨j, h1, h2, h3⟩, _⟩
        · exact h
        · exact absurd h3 (hg.out j h1 h2)
      go_wp2_with fail
      go_ret2
      obtain ⟨e1, e2, e3⟩ := HF.out
      rw [e1, e2, e3]
      exact ⟨po, pc, B, K, rfl, hs.out.mono (by omega), hbw⟩
end
end Go.Proofs.Ytenlfhdchflnjaa
