/- Parse, by the document. -/
import Derived.Test.YtfbfiecamaginaaDrU
namespace Go.Proofs.Ytfbfiecamaginaa
open Go.RowKit Go.Sort

theorem drop_getD (b : List UInt8) (s j : Nat) : (b.drop s).getD j 0 = b.getD (s + j) 0 := by rw [List.getD_eq_getElem?_getD, List.getD_eq_getElem?_getD, List.getElem?_drop]
theorem prs_drop {b rest : List UInt8} {l : List En} (h : Prs b l rest) (i : Nat) : b.drop (szE (l.take i)) = bys (l.drop i) ++ rest ∧ szE (l.take i) ≤ b.length := by
  have e : b = bys (l.take i) ++ (bys (l.drop i) ++ rest) := by
    rw [← List.append_assoc, ← bys_append, List.take_append_drop]; exact h.1
  have hl : (bys (l.take i)).length = szE (l.take i) := bys_length _
  constructor
  · conv => lhs; rw [e, ← hl]
    exact List.drop_left
  · rw [e, List.length_append, hl]; omega
set_option maxHeartbeats 4000000 in
set_option maxRecDepth 100000 in
theorem RParse_any {k r c q : Int} {M : Nat} {e : Int} (hp : PP k r c q M e) (w : World) (ao : Option Addr) (b : List UInt8) (ca : Nat) (hv : Reb w ao b ca) (hn : b.length ≤ 100000) (l : List En) (rest : List UInt8) (hpr : Prs b l rest) :
    Calls Try.prog 27 #[.agg #[.int .i64 k, .int .i64 r, .int .i64 c, .int .i64 q], .slice ao b.length ca] w fun e' w' =>
      ∃ E bo cb L, E = erB e M q b.length l rest ∧ L = (if E = 0 then l else []) ∧ e' = .returned (.tuple #[.slice bo L.length cb, .int .i64 E]) ∧ OwE w.heap.size w' bo L cb ∧ RowKit.Below w.heap.size w w' := by
  obtain ⟨w0, hw0⟩ : ∃ w0, w0 = w.alloc (.cells #[.int .i64 k, .int .i64 r, .int .i64 c, .int .i64 q] 24) := ⟨_, rfl⟩
  have b0 : RowKit.Below w.heap.size w w0 := by rw [hw0]; exact below_alloc _ _
  have HPAR : Hid (∀ v, RowKit.Below w0.heap.size w0 v → v.cell? ⟨w.heap.size, 0, none⟩ = some (.int .i64 k) ∧ v.cell? ⟨w.heap.size, 1, none⟩ = some (.int .i64 r) ∧ v.cell? ⟨w.heap.size, 2, none⟩ = some (.int .i64 c) ∧ v.cell? ⟨w.heap.size, 3, none⟩ = some (.int .i64 q)) := fun v hv => par_held hw0 hv
  have HV : Hid (Reb w0 ao b ca) := hv.below b0
  have HB0 : Hid (RowKit.Below w.heap.size w w0) := b0
  have HC := hp.rmay
  have HRM : Hid (e = 0 → ∀ w, Calls Try.prog 47 #[.agg #[.int .i64 k, .int .i64 r, .int .i64 c, .int .i64 q]] w fun e' w' => e' = .returned (.int .i64 (M : Int)) ∧ RowKit.Below w.heap.size w w') := hp.rm
  have HER : Hid (e = 0 ∨ e = 2) := hp.er
  obtain ⟨x0, x1, x2, x3⟩ := HPAR.out w0 (Below.refl _ _)
  have hln : l.length ≤ 100000 := by have := prs_sz hpr; have := sz_len l; omega
  have HM : Hid (∀ u uo uc, Ren u uo l uc → Calls Try.prog 50 #[.agg #[.int .i64 k, .int .i64 r, .int .i64 c, .int .i64 q], .slice uo l.length uc] u fun e w' => e = .returned (.bool (mayE q l)) ∧ RowKit.Below u.heap.size u w') := fun u uo uc hu => RMay_any k r c q u uo l uc hu (by omega) (fun x hx => by have := (hpr.2.1 x hx).1; omega)
  have HP : Hid (Prs b l rest) := hpr
  have HD : Hid (∀ i, b.drop (szE (l.take i)) = bys (l.drop i) ++ rest ∧ szE (l.take i) ≤ b.length) := prs_drop hpr
  clear hv b0 hp hpr
  by_cases he : e = 0
  · have hRM := HRM.out he
    subst he
    simp only [decide_true] at HC
    clear HRM
    by_cases hbig : M < b.length
    · have hb1 : (M : Int) < (b.length : Int) := by omega
      have HBG : Hid (M < b.length) := hbig
      clear hbig
      go_enter Try.func27, Try.ntmps27
      go_wp2_with fail
      rw [← hw0]
      clear hw0
      refine (HC _).mono ?_
      rintro _ w1 ⟨rfl, h1⟩
      clear x0 x1 x2 x3
      obtain ⟨x0, x1, x2, x3⟩ := HPAR.out w1 h1
      go_wp2_with fail
      refine (hRM _).mono ?_
      rintro _ w2 ⟨rfl, h2⟩
      go_wp2
      go_ret2
      exact ⟨3, none, 0, [], (erB_big HBG.out).symm, by rw [if_neg (by decide)], rfl, owe_nil _ _, below_then HB0.out (below_then h1 h2)⟩
    · have hb1 : ¬ (M : Int) < (b.length : Int) := by omega
      have hb1e : decide (M < b.length) = false := by simp; omega
      have hb1d : decide ((M : Int) < (b.length : Int)) = false := by simp; omega
      have HBG : Hid (¬ M < b.length) := hbig
      clear hbig
      go_enter Try.func27, Try.ntmps27
      go_wp2_with fail
      rw [← hw0]
      clear hw0
      refine (HC _).mono ?_
      rintro _ w1 ⟨rfl, h1⟩
      clear x0 x1 x2 x3
      obtain ⟨x0, x1, x2, x3⟩ := HPAR.out w1 h1
      go_wp2_with fail
      refine (hRM _).mono ?_
      rintro _ w2 ⟨rfl, h2⟩
      have HB2 : Hid (RowKit.Below w0.heap.size w0 w2) := below_then h1 h2
      clear h1 h2 hRM HC x0 x1 x2 x3
      go_wp2_with fail
      go_loopw [6, 7] (fun v x wr => ∃ (i s : Nat) (bo : Option Addr) (cb : Nat) (L : List En), i ≤ l.length ∧ x = .int .i64 (s : Int) ∧ v = .slice bo L.length cb ∧ Hid (s = szE (l.take i)) ∧ Hid (L = l.take i) ∧ Hid (OwE w0.heap.size wr bo L cb) ∧ Hid (RowKit.Below w0.heap.size w0 wr)) (fun _ x _ => b.length - (intOf x).toNat)
      case atStart => exact ⟨0, 0, none, 0, [], Nat.zero_le _, rfl, rfl, rfl, rfl, owe_nil _ _, HB2⟩
      case round =>
        obtain ⟨i, s, bo, cb, L, hi, rfl, rfl, hs, hL, hown, hbel⟩ := hrel
        obtain ⟨hd1, hd2⟩ := HD.out i
        rw [← hs.out] at hd1 hd2
        by_cases hlt : i < l.length
        · have hc0 := hd1
          rw [drop_ent hlt, bys_cons, List.append_assoc] at hc0
          have hwf : Wf (gN l i, gR l i) := by rw [gN_eq hlt, gR_eq hlt]; exact HP.out.2.1 _ (List.getElem_mem hlt)
          have HLL : Hid (L ++ [(gN l i, gR l i)] = l.take (i + 1)) := by show _ = _; rw [take_ent hlt, hL.out]
          have HSZ : Hid (s + ((gN l i).length + 3) = szE (l.take (i + 1))) := by show _ = _; rw [sz_take hlt, hs.out]
          have hLn : L.length ≤ 100000 := by rw [hL.out, List.length_take]; omega
          obtain ⟨N, hN⟩ : ∃ N, N = gN l i := ⟨_, rfl⟩
          obtain ⟨R, hR⟩ : ∃ R, R = gR l i := ⟨_, rfl⟩
          rw [← hN, ← hR] at hc0 hwf HLL
          rw [← hN] at HSZ
          obtain ⟨e1, e2, e3, e4, e5⟩ := ent_bytes hwf hc0
          rw [List.length_drop] at e1
          rw [drop_getD, Nat.add_zero] at e2
          rw [drop_getD, drop_getD] at e4
          have hn255 : N.length ≤ 255 := hwf.1
          obtain ⟨g, o, rfl, hc⟩ := HV.out.at_ (by omega)
          obtain ⟨n, hnn⟩ : ∃ n, n = N.length := ⟨_, rfl⟩
          have HCN : Hid (∀ u, RowKit.Below w0.heap.size w0 u → u.cell? ⟨g, o + s, none⟩ = some (.int .u8 (n : Int))) := fun u hu => by rw [hnn, ← e2]; exact held (hc s (by omega)) hu
          have HTX : Hid (∀ u, RowKit.Below w0.heap.size w0 u → ∀ cap, (convert 25 9 (.slice (some ⟨g, o + (s + 1), none⟩) n cap)).run Try.prog u = .ok (.string ⟨N.toArray⟩) u) := fun u hu cap => by
            rw [hnn]
            refine text_of (fun j hj => ?_) cap
            rw [show o + (s + 1) + j = o + (s + 1 + j) by omega, held (hc (s + 1 + j) (by omega)) hu]
            have := e3 j hj
            rw [drop_getD, show s + (1 + j) = s + 1 + j by omega] at this
            rw [this]
          obtain ⟨X, hX⟩ : ∃ X : Nat, X = (b.getD (s + (1 + N.length)) 0).toNat := ⟨_, rfl⟩
          obtain ⟨Y, hY⟩ : ∃ Y : Nat, Y = (b.getD (s + (1 + N.length + 1)) 0).toNat := ⟨_, rfl⟩
          have hX2 : X < 256 := by rw [hX]; exact UInt8.toNat_lt _
          have hY2 : Y < 256 := by rw [hY]; exact UInt8.toNat_lt _
          rw [← hX, ← hY] at e4
          have HCX : Hid (∀ u, RowKit.Below w0.heap.size w0 u → u.cell? ⟨g, o + (s + (1 + n)), none⟩ = some (.int .u8 (X : Int)) ∧ u.cell? ⟨g, o + (s + (1 + n) + 1), none⟩ = some (.int .u8 (Y : Int))) := fun u hu => by
            rw [hnn, hX, hY]
            exact ⟨held (hc _ (by omega)) hu, held (hc (s + (1 + N.length) + 1) (by omega)) hu⟩
          rw [← hnn] at e1 HSZ hn255
          have hroom := Rev.room HV.out
          obtain ⟨m, hm⟩ : ∃ m, m = s + (1 + n) := ⟨_, rfl⟩
          rw [← hm] at HCX
          have b1 : (s : Int) + 1 = ((s + 1 : Nat) : Int) := by omega
          have b3 : (s : Int) + 1 + (n : Int) = (m : Int) := by omega
          obtain ⟨s1, hs1⟩ : ∃ s1, s1 = s + 1 := ⟨_, rfl⟩
          rw [← hs1] at HTX b1
          have b4 : (s1 : Int) + (n : Int) = (m : Int) := by omega
          have fa1 : IntKind.i64.wrap ((s : Int) + 1) = (s1 : Int) := by rw [IntKind.wrap_i64]; omega
          have fa2 : IntKind.i64.wrap ((m : Int) + 1) = ((m + 1 : Nat) : Int) := by rw [IntKind.wrap_i64]; omega
          have fa3 : IntKind.i64.wrap ((X : Int) * 256) = (X : Int) * 256 := by rw [IntKind.wrap_i64]; omega
          have fa4 : IntKind.i64.wrap ((X : Int) * 256 + (Y : Int)) = R := by rw [IntKind.wrap_i64]; omega
          obtain ⟨m1, hm1⟩ : ∃ m1, m1 = m + 1 := ⟨_, rfl⟩
          rw [← hm1] at HCX fa2
          have i1 : (0 : Int) ≤ (s : Int) := by omega
          have i2 : (s : Int) < (b.length : Int) := by omega
          have i3 : ¬ (b.length : Int) < (m : Int) + 2 := by omega
          have i4 : (s1 : Int) ≤ (m : Int) := by omega
          have i5 : (m : Int) ≤ (ca : Int) := by omega
          have i6 : (0 : Int) ≤ (s1 : Int) := by omega
          have i7 : (0 : Int) ≤ (m : Int) := by omega
          have i8 : (m : Int) < (b.length : Int) := by omega
          have i9 : (0 : Int) ≤ (m1 : Int) := by omega
          have i10 : (m1 : Int) < (b.length : Int) := by omega
          have i11 : (s1 : Int) ≤ (ca : Int) := by omega
          have i12 : m - s1 = n := by omega
          have i13 : ¬ ca = s1 := by omega
          have i14 : (m : Int) ≤ (b.length : Int) := by omega
          have HE1 : Hid (b.length - s = n + 3 + (bys (l.drop (i + 1)) ++ rest).length ∧ m = s + (1 + n)) := ⟨e1, hm⟩
          have c0 := HCN.out wr hbel.out
          clear hc0 hwf hN hR e1 e2 e3 e4 e5 hc hnn hX hY hm hs1 hm1 b3 hd1 hd2
          obtain ⟨v5a, hv5a⟩ : ∃ w1, w1 = wr.alloc (.cells #[.string ⟨N.toArray⟩, .int .i64 R] 34) := ⟨_, rfl⟩
          obtain ⟨v5, hv5⟩ : ∃ w1, w1 = (wr.alloc (.cells #[.string ⟨N.toArray⟩, .int .i64 R] 34)).drew := ⟨_, rfl⟩
          have hb5 : RowKit.Below wr.heap.size wr v5 := by rw [hv5]; exact (below_alloc _ _).trans (below_drew _ _)
          have hlit : Ren v5 (some ⟨wr.heap.size, 0, none⟩) [(N, R)] 1 := by
            rw [hv5, ← hv5a]
            exact (ren_lit N R hv5a).below (below_drew _ _)
          have hown5 := hown.out.below hb5
          have HB5 : Hid (RowKit.Below w0.heap.size w0 v5) := below_then hbel.out hb5
          have HBD : Hid (RowKit.Below w0.heap.size w0 wr.drew) := hbel.out.trans (below_drew _ _)
          have HB5x : Hid (RowKit.Below w0.heap.size w0 ((wr.alloc (.cells #[.string ⟨N.toArray⟩, .int .i64 R] 34)).drew)) := by rw [← hv5]; exact HB5
          have hsz5 := HB5.out.size
          obtain ⟨y0, y1⟩ := HCX.out wr hbel.out
          have tx := HTX.out wr hbel.out (ca - s1)
          have txd := HTX.out wr.drew HBD.out (ca - s1)
          obtain ⟨z0, z1⟩ := HCX.out wr.drew HBD.out
          have fa7 : IntKind.i64.wrap (X : Int) = (X : Int) := by rw [IntKind.wrap_i64]; omega
          have fa8 : IntKind.i64.wrap (Y : Int) = (Y : Int) := by rw [IntKind.wrap_i64]; omega
          have fa5 : IntKind.i64.wrap (s1 : Int) = (s1 : Int) := by rw [IntKind.wrap_i64]; omega
          clear hb5 hv5a
          go_wp2_with fail
          go_region_held3 (fun u => (convert 25 9 (.slice (some ⟨g, o + s1, none⟩) n (ca - s1))).run Try.prog u = .ok (.string ⟨N.toArray⟩) u ∧ u.cell? ⟨g, o + m, none⟩ = some (.int .u8 (X : Int)) ∧ u.cell? ⟨g, o + m1, none⟩ = some (.int .u8 (Y : Int))) (first | (refine ⟨?_, ?_, ?_⟩ <;> assumption) | (refine ⟨HTX.out _ HBD.out _, HCX.out _ HBD.out⟩) | (refine ⟨HTX.out _ HB5.out _, HCX.out _ HB5.out⟩) | exact ⟨HTX.out _ HB5x.out _, HCX.out _ HB5x.out⟩ ) ((rw [← hv5]; refine step_ents (by rfl) (.tmp 34) (.tmp 55) (by rfl) w0.heap.size cb 1 bo (some ⟨wr.heap.size, 0, none⟩) L [(N, R)] (by rfl) (by rfl) hown5 hlit (by simp) (by simp; omega) hsz5 ?_; intro bo4 cb4 w4 L4 hL4 hown4 hg4; have HL4 : Hid (L4 = L ++ [(N, R)]) := hL4; have HB4 : Hid (RowKit.Below w0.heap.size w0 w4) := HB5.out.grown hg4 hsz5 hown5.ge; have tx4 := HTX.out w4 HB4.out (ca - s1); obtain ⟨q0, q1⟩ := HCX.out w4 HB4.out; clear hL4))
          go_wp2
          go_roundw
          case rel =>
            refine ⟨i + 1, m + 2, bo4, cb4, L4, by omega, by go_num, rfl, ?_, ?_, hown4, HB4⟩
            · show _ = _
              rw [← HSZ.out]
              have := HE1.out.2
              omega
            · show _ = _
              rw [← HLL.out, HL4.out]
          case measure =>
            have := HE1.out.2
            simp [intOf]
            omega
        · obtain rfl : i = l.length := by omega
          have hsb := prs_sz HP.out
          rw [List.take_length] at hs
          rw [List.drop_length] at hd1
          have HLE : Hid (L = l) := by show _ = _; rw [hL.out, List.take_length]
          have hd3 : b.drop s = rest := by rw [hd1]; rfl
          have hsl : s + rest.length = b.length := by rw [hs.out]; omega
          rcases HP.out.2.2 with h0 | h0
          · have hsb2 : s = b.length := by rw [h0] at hsl; simpa using hsl
            have hM := HM.out wr bo cb (by rw [← HLE.out]; exact hown.out.ren)
            rw [← HLE.out] at hM
            have HR : Hid (rest = []) := h0
            have i1 : ¬ (s : Int) < (b.length : Int) := by omega
            have HS1 : Hid (w.heap.size ≤ w0.heap.size) := HB0.out.size
            obtain ⟨x0, x1, x2, x3⟩ := HPAR.out wr hbel.out
            clear hsb hs hd1 hd2 hd3 hsl h0 hsb2
            cases hm : mayE q l
            · rw [HLE.out, hm, ← HLE.out] at hM
              have HMM : Hid (mayE q l = false) := hm
              clear hm
              go_wp2_with fail
              refine hM.mono ?_
              rintro _ w3 ⟨rfl, h3⟩
              go_wp2
              go_ret2
              exact ⟨220, none, 0, [], (erB_bad HBG.out HMM.out).symm, by rw [if_neg (by decide)], rfl, owe_nil _ _, below_then HB0.out (below_then hbel.out h3)⟩
            · rw [HLE.out, hm, ← HLE.out] at hM
              have HMM : Hid (mayE q l = true) := hm
              clear hm
              go_wp2_with fail
              refine hM.mono ?_
              rintro _ w3 ⟨rfl, h3⟩
              go_wp2
              go_ret2
              exact ⟨0, bo, cb, L, (erB_good HBG.out HR.out HMM.out).symm, by rw [if_pos rfl]; exact HLE.out, rfl, (hown.out.below h3).mono HS1.out, below_then HB0.out (below_then hbel.out h3)⟩
          · obtain ⟨h1, h2⟩ := h0
            have hpos := List.length_pos_iff.2 h1
            obtain ⟨g, o, rfl, hc⟩ := (HV.out.below hbel.out).at_ (by omega)
            have c0 := hc s (by omega)
            have HR : Hid (rest ≠ []) := h1
            rw [← hd3, drop_getD] at h2
            simp only [Nat.add_zero] at h2
            obtain ⟨n, hnn⟩ : ∃ n : Nat, n = (b.getD s 0).toNat := ⟨_, rfl⟩
            rw [← hnn] at c0 h2
            rw [hd3] at h2
            have j0 : (0 : Int) ≤ (s : Int) := by omega
            have j1 : (s : Int) < (b.length : Int) := by omega
            have j4 : (n : Int) < 256 := by have := (b.getD s 0).toNat_lt; omega
            have j2 : (b.length : Int) < (s : Int) + 1 + (n : Int) + 2 := by omega
            have j3 : (s : Int) ≤ 100000 := by omega
            clear hc h1 h2 hnn hsb hs hd1 hd2 hd3 hsl
            go_wp2
            go_ret2
            exact ⟨220, none, 0, [], (erB_cut HBG.out HR.out).symm, by rw [if_neg (by decide)], rfl, owe_nil _ _, below_then HB0.out hbel.out⟩
  · obtain rfl : e = 2 := by have := HER.out; omega
    rw [show decide ((2 : Int) = 0) = false from rfl] at HC
    go_enter Try.func27, Try.ntmps27
    go_wp2_with fail
    rw [← hw0]
    clear hw0
    refine (HC _).mono ?_
    rintro _ w1 ⟨rfl, h1⟩
    go_wp2
    go_ret2
    exact ⟨2, none, 0, [], (erB_no (by decide)).symm, by rw [if_neg (by decide)], rfl, owe_nil _ _, below_then HB0.out h1⟩
end Go.Proofs.Ytfbfiecamaginaa
