/- SlotOnce's walk. -/
import Derived.Test.YtcippamdjmonlaaSlI
namespace Go.Proofs.Ytcippamdjmonlaa
open Go.RowKit

theorem mx_att {R : Nat → Int} : ∀ {n : Nat}, 0 < mx R n → ∃ i, i < n ∧ R i = mx R n
  | 0, h => by rw [mx] at h; exact absurd h (by decide)
  | n + 1, h => by
    rw [mx, gr] at *
    by_cases e : mx R n < R n
    · exact ⟨n, by omega, by rw [if_pos e]⟩
    · rw [if_neg e] at h ⊢
      obtain ⟨i, hi, hr⟩ := mx_att h
      exact ⟨i, by omega, hr⟩
/-- Is one of the first i versions st? -/
def tb (V : Nat → Int) (st : Int) (i : Nat) : Bool := decide (∃ j, j < i ∧ V j = st)
theorem tb_zero (V : Nat → Int) (st : Int) : tb V st 0 = false := decide_eq_false fun ⟨j, h, _⟩ => Nat.not_lt_zero j h
theorem tb_true {V : Nat → Int} {st : Int} {i : Nat} (h : tb V st i = true) : tb V st (i + 1) = true := by
  obtain ⟨j, h1, h2⟩ := of_decide_eq_true h
  exact decide_eq_true ⟨j, by omega, h2⟩
theorem tb_false {V : Nat → Int} {st : Int} {i : Nat} (h : tb V st i = false) : tb V st (i + 1) = decide (V i = st) := by
  have hn := of_decide_eq_false h
  unfold tb
  apply decide_eq_decide.2
  constructor
  · rintro ⟨j, h1, h2⟩
    by_cases e : j = i
    · rw [← e]; exact h2
    · exact absurd ⟨j, by omega, h2⟩ hn
  · intro h2; exact ⟨i, by omega, h2⟩
theorem sq_false {x : Int} {N : Nat} {c : Int} {n : Nat} {F : Nat → UInt8} (h : erQ x N c n ≠ 0) : isQ x N c n F = false := by
  unfold isQ
  by_cases hx : x = 0
  · rw [decide_eq_true hx, Bool.true_and]
    refine decide_eq_false fun hh => h ?_
    unfold erQ; rw [if_pos hx, if_pos (.inr hh.1)]
  · rw [decide_eq_false hx]; rfl
set_option maxHeartbeats 8000000 in
set_option maxRecDepth 100000 in
theorem Once_any (k r c q : Int) (w : World) (bo : Option Addr) (n cb : Nat) (F : Nat → UInt8) (hb : Bec w bo n cb F) :
    Calls Try.prog 6 #[.agg #[.int .i64 k, .int .i64 r, .int .i64 c, .int .i64 q], .slice bo n cb] w fun e w' => e = .returned (.bool true) ∧ Below w.heap.size w w' := by
  obtain ⟨N, W, x, h⟩ := par_any k r c q
  have hN := h.few
  obtain ⟨E, hE⟩ : ∃ E, erQ x N c n = E := ⟨_, rfl⟩
  obtain ⟨i, hi⟩ : ∃ i, isQ x N c n F = i := ⟨_, rfl⟩
  have HBE : Hid (Bec w bo n cb F) := hb
  obtain ⟨w0, hw0⟩ : ∃ w0, w0 = w.alloc (.cells #[.int .i64 k, .int .i64 r, .int .i64 c, .int .i64 q] 23) := ⟨_, rfl⟩
  have b0 : Below w.heap.size w w0 := by rw [hw0]; exact below_alloc _ _
  have CP : Hid (Cel w0 w.heap.size [.int .i64 k, .int .i64 r, .int .i64 c, .int .i64 q]) := cel_new hw0
  have HB0 : Hid (Below w.heap.size w w0) := b0
  cases i
  · have HP : Hid (∀ w, Bec w bo n cb F → Calls Try.prog 14 #[.agg #[.int .i64 k, .int .i64 r, .int .i64 c, .int .i64 q], .slice bo n cb] w (AnsP w E false zSl)) := fun w hb => Parse_any h w bo n cb F hb E hE false hi zSl rfl
    have HAL : Hid (∀ w ao ca yo yc, Has w zSl ao ca yo yc → Calls Try.prog 16 #[.agg #[.int .u8 0, .int .i64 0, .int .i64 0, .int .i64 0, .slice ao 0 ca, .slice yo 0 yc], .agg #[.int .u8 0, .int .i64 0, .int .i64 0, .int .i64 0, .slice none 0 0, .slice none 0 0]] w fun e w' => e = .returned (.bool true) ∧ Below w.heap.size w w') := fun w ao ca yo yc h1 => alike_any w zSl zSl ao ca yo yc none 0 none 0 h1 (got_z 0 w).has (by decide) (by decide) true (sameS_refl _)
    unfold AnsP slv at HP
    simp only [zSl] at HP
    have hee : (E != 0) = true ∨ E = 0 := by by_cases e : E = 0; exact .inr e; exact .inl (by simpa using e)
    clear hE hi hb h b0
    rcases hee with hee | rfl
    all_goals (
      go_enter Try.func6, Try.ntmps6
      go_wp2_with fail
      rw [← hw0]
      clear hw0
      refine (awake_any _).mono ?_
      rintro e wa ⟨rfl, ha⟩
      have HA : Hid (Below w0.heap.size w0 wa) := ha
      clear ha
      have pc := CP.out.below HA.out
      have p0 := pc 0 _ rfl
      have p1 := pc 1 _ rfl
      have p2 := pc 2 _ rfl
      have p3 := pc 3 _ rfl
      clear pc
      go_wp2_with fail
      refine (HP.out _ (HBE.out.below (below_then HB0.out HA.out))).mono ?_
      rintro e wb ⟨ao, ca, yo, yc, rfl, hg, hb⟩
      have HB : Hid (Below w0.heap.size w0 wb) := below_then HA.out hb
      obtain ⟨wc, hwc⟩ : ∃ wc, wc = wb.alloc (.cells #[.int .u8 0, .int .i64 0, .int .i64 0, .int .i64 0, .slice ao 0 ca, .slice yo 0 yc] 27) := ⟨_, rfl⟩
      have bc : Below wb.heap.size wb wc := by rw [hwc]; exact below_alloc _ _
      have HG : Hid (Has wc zSl ao ca yo yc) := hg.has.below bc
      have HC : Hid (Below w.heap.size w wc) := below_then (below_then HB0.out HB.out) bc
      clear hg hb bc p0 p1 p2 p3
      go_wp2_with fail
      rw [← hwc]
      clear hwc
      refine (HAL.out _ ao ca yo yc HG.out).mono ?_
      rintro e wd ⟨rfl, hd⟩
      go_wp2_with fail
      go_ret
      exact ⟨rfl, below_then HC.out hd⟩)
  · obtain rfl : E = 0 := by
      by_cases e : E = 0
      · exact e
      · rw [← hE] at e; rw [sq_false e] at hi; cases hi
    have hx0 : x = 0 := by
      unfold isQ at hi
      by_cases e : x = 0
      · exact e
      · rw [decide_eq_false e] at hi; cases hi
    subst hx0
    have his : isS N c n F = true := by unfold isQ at hi; rwa [decide_eq_true rfl, Bool.true_and] at hi
    obtain ⟨hn, hF0, hF1, hok⟩ := is_true his
    have hN1 := h.some rfl
    have hc := h.cell rfl
    have hen : lsF n (enc (dec N c F)) = lsF n F := lsF_eq.2 ⟨rfl, fun j _ => enc_dec hF0 hF1 j⟩
    obtain ⟨z, hz⟩ : ∃ z, z = dec N c F := ⟨_, rfl⟩
    rw [← hz] at hok hen
    obtain ⟨⟨k1, k2⟩, k3, k4, k5, k6, k7, k8⟩ := okS_true hok
    obtain ⟨t, ht⟩ : ∃ t : Nat, z.ix = (t : Int) := ⟨z.ix.toNat, by omega⟩
    obtain ⟨kn, hkn⟩ : ∃ kn : Int, ((z.kd.toNat : Nat) : Int) = kn := ⟨_, rfl⟩
    obtain ⟨ct, hct⟩ : ∃ ct, z.ce = ct := ⟨_, rfl⟩
    obtain ⟨st, hst⟩ : ∃ st, z.st = st := ⟨_, rfl⟩
    obtain ⟨dn, hdn⟩ : ∃ dn, z.dn = dn := ⟨_, rfl⟩
    obtain ⟨V, hV⟩ : ∃ V, z.V = V := ⟨_, rfl⟩
    have HP : Hid (∀ w, Bec w bo n cb F → Calls Try.prog 14 #[.agg #[.int .i64 k, .int .i64 r, .int .i64 c, .int .i64 q], .slice bo n cb] w fun e w' => ∃ ao ca yo yc, e = .returned (.tuple #[.agg #[.int .u8 kn, .int .i64 (t : Int), .int .i64 ct, .int .i64 st, .slice ao N ca, .slice yo dn yc], .bool true, .int .i64 0]) ∧ Has w' z ao ca yo yc ∧ Below w.heap.size w w') := fun w hb => by
      refine (Parse_any h w bo n cb F hb 0 hE true hi z (by rw [hz]; rfl)).mono ?_
      rintro e w' ⟨ao, ca, yo, yc, rfl, hg, hb⟩
      refine ⟨ao, ca, yo, yc, ?_, hg.has, hb⟩
      unfold slv
      rw [hkn, ht, hct, hst, k1, hdn]
    have HBZ : Hid (∀ w ao ca yo yc, Has w z ao ca yo yc → Calls Try.prog 11 #[.agg #[.int .i64 k, .int .i64 r, .int .i64 c, .int .i64 q], .agg #[.int .u8 kn, .int .i64 (t : Int), .int .i64 ct, .int .i64 st, .slice ao N ca, .slice yo dn yc]] w (AnsB w 0 n (enc z))) := fun w ao ca yo yc hs => by
      have := Bytes_any h w z ao ca yo yc hs 0 (by unfold erS; rw [if_pos rfl, if_pos hok])
      unfold slv at this
      rw [hkn, ht, hct, hst, k1, hdn, ← hn] at this
      exact this
    have htN : t < N := by omega
    have HVZ : Hid (∀ w ao ca yo yc, Has w z ao ca yo yc → RdI w ao N V) := fun w ao ca yo yc hs => by have := hs.vec.rd; rw [k1, hV] at this; exact this
    have hce : V t = ct := by rw [← hV, ← hct, k8, ht, Int.toNat_natCast]
    have hsm : st = mx V N := by rw [← hst, k7, k1, hV]
    have HVV : Hid (∀ j, j < N → 1 ≤ V j ∧ V j ≤ st) := fun j hj => by have := k2 j (by omega); rw [hV] at this; exact ⟨this.1, by rw [hsm]; exact mx_le j hj⟩
    have hst1 : 0 < st := by have := HVV.out 0 (by omega); omega
    have HTN : Hid (tb V st N = true) := by
      obtain ⟨j, hj, hr⟩ := mx_att (R := V) (n := N) (by rw [← hsm]; exact hst1)
      exact decide_eq_true ⟨j, hj, by rw [hr, hsm]⟩
    have HT0 : Hid (tb V st 0 = false) := tb_zero V st
    have hstm : st ≤ 1073741824 := by have := (okS_nums hok).2.2; rw [hst] at this; exact this
    have hne : ¬ n = 0 := by rw [hn]; unfold sz; omega
    have HEN : Hid (lsF n (enc z) = lsF n F) := hen
    unfold AnsB at HBZ
    rw [show lenE 0 n = n from rfl] at HBZ
    clear hE hi hb h b0 his hF0 hF1 hok hn hen hz k1 k2 k3 k4 k5 k6 k7 k8 ht hkn hct hst hdn hV hsm hc
    go_enter Try.func6, Try.ntmps6
    go_wp2_with fail
    rw [← hw0]
    clear hw0
    refine (awake_any _).mono ?_
    rintro e wa ⟨rfl, ha⟩
    have HA : Hid (Below w0.heap.size w0 wa) := ha
    clear ha
    have pc := CP.out.below HA.out
    have p0 := pc 0 _ rfl
    have p1 := pc 1 _ rfl
    have p2 := pc 2 _ rfl
    have p3 := pc 3 _ rfl
    clear pc
    go_wp2_with fail
    refine (HP.out _ (HBE.out.below (below_then HB0.out HA.out))).mono ?_
    rintro e wb ⟨ao, ca, yo, yc, rfl, hg, hb⟩
    have HB : Hid (Below w0.heap.size w0 wb) := below_then HA.out hb
    obtain ⟨wc, hwc⟩ : ∃ wc, wc = wb.alloc (.cells #[.int .u8 kn, .int .i64 (t : Int), .int .i64 ct, .int .i64 st, .slice ao N ca, .slice yo dn yc] 27) := ⟨_, rfl⟩
    have bc : Below wb.heap.size wb wc := by rw [hwc]; exact below_alloc _ _
    have HG : Hid (Has wc z ao ca yo yc) := hg.below bc
    have CZ : Hid (Cel wc wb.heap.size [.int .u8 kn, .int .i64 (t : Int), .int .i64 ct, .int .i64 st, .slice ao N ca, .slice yo dn yc]) := cel_new hwc
    have HC : Hid (Below w0.heap.size w0 wc) := below_then HB.out bc
    have pb := CP.out.below HB.out
    have gp : ∀ o i u, [.int .i64 k, .int .i64 r, .int .i64 c, .int .i64 q][i]? = some u → (wb.alloc o).cell? ⟨w.heap.size, i, none⟩ = some u := fun o i u hu => held (pb i u hu) (below_alloc _ _)
    have gp0 := fun o => gp o 0 _ rfl
    have gp1 := fun o => gp o 1 _ rfl
    have gp2 := fun o => gp o 2 _ rfl
    have gp3 := fun o => gp o 3 _ rfl
    clear hg hb bc p0 p1 p2 p3 pb gp
    go_wp2_with fail
    rw [← hwc]
    clear hwc gp0 gp1 gp2 gp3
    refine (HBZ.out _ ao ca yo yc HG.out).mono ?_
    rintro e wd ⟨uo, uc, rfl, hu, hd⟩
    have HD : Hid (Below w.heap.size w wd) := below_then (below_then HB0.out HC.out) hd
    have HZD : Hid (Cel wd wb.heap.size [.int .u8 kn, .int .i64 (t : Int), .int .i64 ct, .int .i64 st, .slice ao N ca, .slice yo dn yc]) := CZ.out.below hd
    have HRD : Hid (RdI wd ao N V) := HVZ.out _ ao ca yo yc (HG.out.below hd)
    have HU : Hid (OwU wc.heap.size wd uo n uc (enc z)) := hu
    have v1 : ∀ m, (convert 25 9 (.slice bo n cb)).run Try.prog (wd.drewN m) = .ok (.string (sOf (lsF n F))) (wd.drewN m) := fun m => conv_any ((HBE.out.below HD.out).below (below_drewN _ _ _))
    have v2 : ∀ m, (convert 25 9 (.slice uo n uc)).run Try.prog (wd.drewN m) = .ok (.string (sOf (lsF n F))) (wd.drewN m) := fun m => by rw [← HEN.out]; exact conv_any (HU.out.below (below_drewN _ _ _)).bec
    obtain ⟨b, off, rfl, hcc⟩ := HRD.out (by omega)
    have ck := hcc t htN
    rw [hce] at ck
    have HCC : Hid (∀ j, j < N → wd.cell? ⟨b, off + j, none⟩ = some (.int .i64 (V j))) := hcc
    have d1 := HZD.out 1 _ rfl
    have d2 := HZD.out 2 _ rfl
    have d3 := HZD.out 3 _ rfl
    have d4 := HZD.out 4 _ rfl
    have j1 : (0 : Int) ≤ (t : Int) := by omega
    have j2 : (t : Int) < (N : Int) := by omega
    have j3 : ¬ N ≤ t := by omega
    have j4 : ¬ (t : Int) < 0 := by omega
    have HDD : Hid (Below wd.heap.size wd wd) := Below.refl _ _
    clear hu hd hcc HP HBZ HG CZ HC HB HA
    go_wp2_with fail
    go_quiet (fail)
    go_wp2
    clear v1 v2 ck
    go_loopw [11, 12] (fun y x wr => ∃ i : Nat, i ≤ N ∧ x = .int .i64 (i : Int) ∧ (∃ b : Bool, y = .bool b ∧ Hid (tb V st i = b)) ∧ Hid (Below wd.heap.size wd wr)) (fun _ x _ => N - (intOf x).toNat)
    case atStart => exact ⟨0, Nat.zero_le _, rfl, ⟨false, rfl, HT0⟩, below_drewN _ _ _⟩
    case round =>
      obtain ⟨i, hi, rfl, ⟨tp, rfl, htp⟩, hW⟩ := hrel
      have x3 := held d3 hW.out
      have x4 := held d4 hW.out
      by_cases hlt : i < N
      · have ck := held (HCC.out i hlt) hW.out
        have hvi := HVV.out i hlt
        obtain ⟨vi, hvi2⟩ : ∃ vi, V i = vi := ⟨_, rfl⟩
        rw [hvi2] at ck hvi
        have i1 : (0 : Int) ≤ (i : Int) := by omega
        have i2 : (i : Int) < (N : Int) := by omega
        have i3 : ¬ vi < 1 := by omega
        have i4 : ¬ st < vi := by omega
        cases tp
        · have HT := tb_false htp.out
          rw [hvi2] at HT
          have HTT : Hid (tb V st (i + 1) = decide (vi = st)) := HT
          have ck2 : ∀ m, (wr.drewN m).cell? ⟨b, off + i, none⟩ = some (.int .i64 vi) := fun m => ck
          have x32 : ∀ m, (wr.drewN m).cell? ⟨wb.heap.size, 3, none⟩ = some (.int .i64 st) := fun m => x3
          have x42 : ∀ m, (wr.drewN m).cell? ⟨wb.heap.size, 4, none⟩ = some (.slice (some ⟨b, off, none⟩) N ca) := fun m => x4
          clear HT hvi2
          go_wp2_with fail
          go_quiet (fail)
          go_wp2_with fail
          go_quiet (fail)
          go_wp2
          go_roundw
          case rel => exact ⟨i + 1, by omega, by go_num, ⟨_, rfl, by show _ = _; rw [HTT.out]; by_cases e : vi = st <;> simp [e]⟩, hW.out.trans (below_drewN _ _ _)⟩
          case measure => simp [intOf]; omega
        · have HTT : Hid (tb V st (i + 1) = true) := tb_true htp.out
          have ck2 : ∀ m, (wr.drewN m).cell? ⟨b, off + i, none⟩ = some (.int .i64 vi) := fun m => ck
          have x32 : ∀ m, (wr.drewN m).cell? ⟨wb.heap.size, 3, none⟩ = some (.int .i64 st) := fun m => x3
          have x42 : ∀ m, (wr.drewN m).cell? ⟨wb.heap.size, 4, none⟩ = some (.slice (some ⟨b, off, none⟩) N ca) := fun m => x4
          clear hvi2
          go_wp2_with fail
          go_quiet (fail)
          go_wp2_with fail
          go_quiet (fail)
          go_wp2
          go_roundw
          case rel => exact ⟨i + 1, by omega, by go_num, ⟨_, rfl, HTT⟩, hW.out.trans (below_drewN _ _ _)⟩
          case measure => simp [intOf]; omega
      · obtain rfl : i = N := by omega
        obtain rfl : tp = true := by rw [← htp.out, HTN.out]
        go_wp2
        go_ret
        exact ⟨by simp, below_then HD.out hW.out⟩
end Go.Proofs.Ytcippamdjmonlaa
