/- Entries as bytes, by the document. -/
import Derived.Test.YtfbfiecamaginaaDrF
import Derived.Deep.AppendLies
namespace Go.Proofs.Ytfbfiecamaginaa
open Go.RowKit Go.Sort

theorem step_bytes {w : World} {ops : Array Oper} {o : Oper} {a : Act} {K : Act → World → Prop} {Q : Exit → Act → World → Prop} {E : Prop} (hgd : o.guard = none) (s x : Operand)
    (ho : o.op = .call { callee := .builtin .append, args := #[s, x], argTypes := #[25, 25] }) (B ca cb : Nat) (ao bo : Option Addr) (l m : List UInt8)
    (hs : a.eval s = .slice ao l.length ca) (hx : a.eval x = .slice bo m.length cb) (h : OwB B w ao l ca) (hv : Reb w bo m cb) (hm : 0 < m.length) (hk : l.length + m.length ≤ 10000000) (hB : B ≤ w.heap.size)
    (cont : ∀ ao' c' w' L, L = l ++ m → OwB B w' ao' L c' → w.grownBy w' (Value.slice ao l.length ca).ownBlock → K (a.put o.dst (.slice ao' L.length c')) w') : if Region.wanted o (yielded ops a.tmps) = true then Oper.wp Try.prog o a w K Q else E := by
  obtain ⟨j0, hj, hj0, hj1, hj2⟩ := info_parts info5
  obtain ⟨b, off, e, hc⟩ := Rev.rd hv hm
  subst e
  refine step_append_lies w hgd s x 25 ho B 5 j0 (.int .u8 0) 1 1 Try.underlying25 hj hj0 hj1 hj2 rfl (by decide) (.slice ao l.length ca) l.length (bvl l) hs h ⟨b, off, none⟩ m.length cb (bvl m) hx (bvl_length m) (fun j u hj => by rw [alit]; exact hc j u hj) (bvl_one m) hm (by unfold maxLen; omega) (by omega) hB w.heap.size rfl ?_
  intro g cap w' g1 g2 _ _
  have := cont (some ⟨g, 0, none⟩) cap w' (l ++ m) rfl (by unfold OwB; rw [List.length_append, bvl_append]; exact g1) g2
  rw [List.length_append] at this
  exact this
theorem step_ents {w : World} {ops : Array Oper} {o : Oper} {a : Act} {K : Act → World → Prop} {Q : Exit → Act → World → Prop} {E : Prop} (hgd : o.guard = none) (s x : Operand)
    (ho : o.op = .call { callee := .builtin .append, args := #[s, x], argTypes := #[26, 26] }) (B ca cb : Nat) (ao bo : Option Addr) (l m : List En)
    (hs : a.eval s = .slice ao l.length ca) (hx : a.eval x = .slice bo m.length cb) (h : OwE B w ao l ca) (hv : Ren w bo m cb) (hm : 0 < m.length) (hk : l.length + m.length ≤ 10000000) (hB : B ≤ w.heap.size)
    (cont : ∀ ao' c' w' L, L = l ++ m → OwE B w' ao' L c' → w.grownBy w' (Value.slice ao l.length ca).ownBlock → K (a.put o.dst (.slice ao' L.length c')) w') : if Region.wanted o (yielded ops a.tmps) = true then Oper.wp Try.prog o a w K Q else E := by
  obtain ⟨j0, hj, hj0, hj1, hj2⟩ := info_parts info34
  obtain ⟨b, off, e, hc⟩ := Rev.rd hv hm
  subst e
  refine step_append_lies w hgd s x 26 ho B 34 j0 (.agg #[.string ⟨#[]⟩, .int .i64 0]) 2 24 Try.underlying26 hj hj0 hj1 hj2 rfl (by decide) (.slice ao l.length ca) l.length (evl l) hs h ⟨b, off, none⟩ m.length cb (evl m) hx (evl_length m) (fun j u hj => by rw [alit]; exact hc j u hj) (evl_one m) hm (by unfold maxLen; omega) (by omega) hB w.heap.size rfl ?_
  intro g cap w' g1 g2 _ _
  have := cont (some ⟨g, 0, none⟩) cap w' (l ++ m) rfl (by unfold OwE; rw [List.length_append, evl_append]; exact g1) g2
  rw [List.length_append] at this
  exact this
set_option maxHeartbeats 2000000 in
set_option maxRecDepth 100000 in
theorem Made_any (w : World) (ao : Option Addr) (l : List En) (ca : Nat) (hv : Ren w ao l ca) (hln : l.length ≤ 1000000) (hr : ∀ i, i < l.length → (gN l i).length ≤ 24 ∧ 0 ≤ gR l i ∧ gR l i < 65536) (hz : szE l ≤ 32768) :
    Calls Try.prog 42 #[.slice ao l.length ca] w fun e' w' =>
      ∃ bo cb L, L = bys l ∧ e' = .returned (.slice bo L.length cb) ∧ OwB w.heap.size w' bo L cb ∧ RowKit.Below w.heap.size w w' := by
  have HV : Hid (Ren w ao l ca) := hv
  have HR : Hid (∀ i, i < l.length → (gN l i).length ≤ 24 ∧ 0 ≤ gR l i ∧ gR l i < 65536) := hr
  have HS : Hid (∀ i, i < l.length → bys (l.take (i + 1)) = bys (l.take i) ++ (([UInt8.ofNat (gN l i).length] ++ gN l i) ++ rb (gR l i))) := fun i hi => bys_take hi
  have HZ : Hid (∀ i, (bys (l.take i)).length ≤ 32768) := fun i => by rw [bys_length]; exact Nat.le_trans (sz_take_le l i) hz
  have HA : Hid (bys (l.take l.length) = bys l) := by show _ = _; rw [List.take_length]
  have hln2 : (l.length : Int) ≤ 1000000 := by omega
  clear hv hr hz
  go_enter Try.func42, Try.ntmps42
  go_wp2_with fail
  go_loopw [3, 4] (fun v x wr => ∃ (i : Nat) (bo : Option Addr) (cb : Nat) (L : List UInt8), i ≤ l.length ∧ x = .int .i64 (i : Int) ∧ v = .slice bo L.length cb ∧ Hid (L = bys (l.take i)) ∧ Hid (OwB w.heap.size wr bo L cb) ∧ Hid (RowKit.Below w.heap.size w wr)) (fun _ x _ => l.length - (intOf x).toNat)
  case atStart => exact ⟨0, none, 0, [], Nat.zero_le _, rfl, rfl, rfl, owb_nil _ _, Below.refl _ _⟩
  case round =>
    obtain ⟨i, bo, cb, L, hi, rfl, rfl, hL, hown, hbel⟩ := hrel
    by_cases hlt : i < l.length
    · have HRD : Hid (∀ u, RowKit.Below w.heap.size w u → ∀ b off, ao = some ⟨b, off, none⟩ → u.cell? ⟨b, off + i * 2, none⟩ = some (.string ⟨(gN l i).toArray⟩) ∧ u.cell? ⟨b, off + i * 2 + 1, none⟩ = some (.int .i64 (gR l i))) := fun u hu b off e => by
        obtain ⟨b2, off2, e2, hc⟩ := (HV.out.below hu).at_ (by omega)
        rw [e] at e2; cases e2
        exact hc i hlt
      obtain ⟨b, off, rfl, _⟩ := HV.out.at_ (by omega)
      obtain ⟨c0, c1⟩ := HRD.out wr hbel.out b off rfl
      have HLL : Hid ((L ++ ([UInt8.ofNat (gN l i).length] ++ gN l i)) ++ rb (gR l i) = bys (l.take (i + 1))) := by show _ = _; rw [HS.out i hlt, hL.out, List.append_assoc]
      have hLn := HZ.out i
      rw [← hL.out] at hLn
      obtain ⟨r1, r2, r3⟩ := HR.out i hlt
      obtain ⟨N, hN⟩ : ∃ N, N = gN l i := ⟨_, rfl⟩
      obtain ⟨R, hR⟩ : ∃ R, R = gR l i := ⟨_, rfl⟩
      rw [← hN] at c0 HLL r1 HRD
      rw [← hR] at c1 HLL r2 r3 HRD
      have hs := str_size N
      have i1 : (0 : Int) ≤ (i : Int) := by omega
      have i2 : (i : Int) < (l.length : Int) := by omega
      clear hN hR
      obtain ⟨v2, hv2⟩ : ∃ w1, w1 = wr.alloc (.cells #[.int .u8 (N.length : Int)] 5) := ⟨_, rfl⟩
      have hb2 : RowKit.Below wr.heap.size wr v2 := by rw [hv2]; exact below_alloc _ _
      have hlit : Reb v2 (some ⟨wr.heap.size, 0, none⟩) [UInt8.ofNat N.length] 1 := reb_lit [UInt8.ofNat N.length] hv2 (by simp [bvl]; omega)
      have hown2 := hown.out.below hb2
      have hge := hown.out.ge
      have HB2 : Hid (RowKit.Below w.heap.size w v2) := below_then hbel.out hb2
      have hsz2 := HB2.out.size
      clear hb2
      have hNm : (N.length : Int) % 256 = (N.length : Int) := by omega
      have R1 : Int.tdiv R 256 = R / 256 := Int.tdiv_eq_ediv_of_nonneg r2
      have R2 : Int.tmod R 256 = R % 256 := Int.tmod_eq_emod_of_nonneg r2
      go_wp2_with (first
        | (rw [← hv2]; at_builtin; refine append_bytes (by rfl) (.tmp 11) (.tmp 19) (by rfl) w.heap.size cb 1 bo (some ⟨wr.heap.size, 0, none⟩) L [UInt8.ofNat N.length] (by rfl) (by rfl) hown2 hlit (by simp; omega) hsz2 ?_; intro bo2 cb2 v3 L2 hL2 hown3 hg3; have HL2 : Hid (L2 = L ++ [UInt8.ofNat N.length]) := hL2; have HB3 : Hid (RowKit.Below w.heap.size w v3) := HB2.out.grown hg3 hsz2 hge; have hl2 : L2.length = L.length + 1 := (by rw [hL2]; simp); have HO3 : Hid (OwB w.heap.size v3 bo2 L2 cb2) := hown3; clear hL2 hg3 hown3; obtain ⟨z0, z1⟩ := HRD.out v3 HB3.out b off rfl; have hsz3 := HB3.out.size; have hl2b : L2.length ≤ 40000 := (by omega); have HHL2 : Hid (L2.length = L.length + 1) := hl2; clear hl2 hv2 hlit hown2 c0 c1)
        | (at_builtin; refine append_text (by rfl) (.tmp 21) (.tmp 26) (by rfl) w.heap.size cb2 bo2 L2 N (by rfl) (by rfl) HO3.out (by omega) hsz3 ?_; intro bo3 cb3 v4 L3 hL3 hown4 hg4; have HL3 : Hid (L3 = L2 ++ N) := hL3; have HB4 : Hid (RowKit.Below w.heap.size w v4) := HB3.out.grown hg4 hsz3 HO3.out.ge; have hl3 : L3.length ≤ 50000 := (by rw [hL3]; simp; omega); have HO4 : Hid (OwB w.heap.size v4 bo3 L3 cb3) := hown4; clear hL3 hg4 hown4 z0 z1; obtain ⟨z0, z1⟩ := HRD.out v4 HB4.out b off rfl))
      have hsz4 := HB4.out.size
      have U1 : IntKind.i64.wrap (R / 256) = R / 256 := by rw [IntKind.wrap_i64]; omega
      have U2 : IntKind.u8.wrap (R / 256) = R / 256 := by rw [IntKind.wrap_u8]; omega
      have U3 : IntKind.u8.wrap (R % 256) = R % 256 := by rw [IntKind.wrap_u8]; omega
      obtain ⟨v5a, hv5a⟩ : ∃ w1, w1 = v4.alloc (.cells #[.int .u8 (R / 256), .int .u8 (R % 256)] 5) := ⟨_, rfl⟩
      obtain ⟨v5, hv5⟩ : ∃ w1, w1 = (v4.alloc (.cells #[.int .u8 (R / 256), .int .u8 (R % 256)] 5)).drew := ⟨_, rfl⟩
      have hb5 : RowKit.Below v4.heap.size v4 v5 := by rw [hv5]; exact (below_alloc _ _).trans (below_drew _ _)
      have hlit5 : Reb v5 (some ⟨v4.heap.size, 0, none⟩) (rb R) 2 := by
        rw [hv5, ← hv5a]
        exact (reb_lit (rb R) hv5a (by rw [rb_vals r2 r3])).below (below_drew _ _)
      have hown5 := HO4.out.below hb5
      have HB5 : Hid (RowKit.Below w.heap.size w v5) := below_then HB4.out hb5
      have hsz5 := HB5.out.size
      have hge4 := HO4.out.ge
      clear hb5 hv5a
      go_region_held3 (fun w' => w'.cell? ⟨b, off + i * 2, none⟩ = some (.string ⟨N.toArray⟩) ∧ w'.cell? ⟨b, off + i * 2 + 1, none⟩ = some (.int .i64 R)) (go_keep) ((rw [← hv5]; refine step_bytes (by rfl) (.tmp 28) (.tmp 43) (by rfl) w.heap.size cb3 2 bo3 (some ⟨v4.heap.size, 0, none⟩) L3 (rb R) (by rfl) (by rfl) hown5 hlit5 (by simp [rb]) (by simp [rb]; omega) hsz5 ?_; intro bo6 cb6 v6 L6 hL6 hown6 hg6; have HL6 : Hid (L6 = L3 ++ rb R) := hL6; obtain ⟨q0, q1⟩ := HRD.out v6 (HB5.out.grown hg6 hsz5 hge4) b off rfl; clear hL6))
      go_wp2
      go_roundw
      case rel => exact ⟨i + 1, bo6, cb6, L6, by omega, by go_num, rfl, by show _ = _; rw [← HLL.out, HL6.out, HL3.out, HL2.out, List.append_assoc L], hown6, HB5.out.grown hg6 hsz5 hge4⟩
      case measure => simp [intOf]; omega
    · obtain rfl : i = l.length := by omega
      have HLE : Hid (L = bys l) := by show _ = _; rw [hL.out, HA.out]
      go_wp2
      go_ret
      exact ⟨bo, cb, L, HLE.out, rfl, hown.out, hbel.out⟩
set_option maxHeartbeats 1000000 in
set_option maxRecDepth 100000 in
theorem RBytes_go {k r c q : Int} {M : Nat} {e : Int} (hp : PP k r c q M e) (w : World) (ao : Option Addr) (l : List En) (ca : Nat) (hv : Ren w ao l ca) (hf : Few l) :
    Calls Try.prog 19 #[.agg #[.int .i64 k, .int .i64 r, .int .i64 c, .int .i64 q], .slice ao l.length ca] w fun e' w' =>
      ∃ E bo cb L, E = erC e M q l ∧ L = (if E = 0 then bys l else []) ∧ e' = .returned (.tuple #[.slice bo L.length cb, .int .i64 E]) ∧ OwB w.heap.size w' bo L cb ∧ RowKit.Below w.heap.size w w' := by
  obtain ⟨w0, hw0⟩ : ∃ w0, w0 = w.alloc (.cells #[.int .i64 k, .int .i64 r, .int .i64 c, .int .i64 q] 24) := ⟨_, rfl⟩
  have b0 : RowKit.Below w.heap.size w w0 := by rw [hw0]; exact below_alloc _ _
  have HB0 : Hid (RowKit.Below w.heap.size w w0) := b0
  have HC := RCheck_e hp w0 ao l ca (hv.below b0) hf
  obtain ⟨x0, x1, x2, x3⟩ := par_held hw0 (Below.refl _ _)
  have HV : Hid (∀ u, RowKit.Below w0.heap.size w0 u → Ren u ao l ca) := fun u hu => (hv.below b0).below hu
  by_cases he : erC e M q l = 0
  · have HMD : Hid (∀ u, RowKit.Below w0.heap.size w0 u → Calls Try.prog 42 #[.slice ao l.length ca] u fun e' w' => ∃ bo cb L, L = bys l ∧ e' = .returned (.slice bo L.length cb) ∧ OwB u.heap.size w' bo L cb ∧ RowKit.Below u.heap.size u w') := fun u hu => by
      obtain ⟨h1, h2, h3⟩ := erC_zero he
      refine Made_any u ao l ca (HV.out u hu) hf.1 (fun i hi => ?_) (Nat.le_trans h3 hp.top)
      have h4 := one_of h2 _ (List.getElem_mem hi)
      rw [gN_eq hi, gR_eq hi]
      have h6 := wf_one (hp.rows h1).2 h4
      unfold oneE mayN at h4
      simp at h4
      exact ⟨by omega, h6.2⟩
    have HE : Hid (erC e M q l = 0) := he
    rw [he] at HC
    clear he hv hf b0
    go_enter Try.func19, Try.ntmps19
    go_wp2_with fail
    rw [← hw0]
    clear hw0
    refine HC.mono ?_
    rintro _ w1 ⟨rfl, h1⟩
    have HM1 := HMD.out w1 h1
    go_wp2_with fail
    refine HM1.mono ?_
    rintro _ w2 ⟨bo, cb, L, hL, rfl, ho, h2⟩
    have HL : Hid (L = bys l) := hL
    clear hL
    have HB1 : Hid (RowKit.Below w.heap.size w w1) := below_then HB0.out h1
    go_wp2
    go_ret2
    exact ⟨0, bo, cb, L, HE.out.symm, by rw [if_pos rfl]; exact HL.out, rfl, ho.mono HB1.out.size, below_then HB1.out h2⟩
  · have hz : (erC e M q l != 0) = true := by simpa using he
    have HE : Hid (erC e M q l ≠ 0) := he
    obtain ⟨E, hE⟩ : ∃ E, E = erC e M q l := ⟨_, rfl⟩
    rw [← hE] at HC he hz HE
    have HEE : Hid (E = erC e M q l) := hE
    clear hE
    go_enter Try.func19, Try.ntmps19
    go_wp2_with fail
    rw [← hw0]
    clear hw0
    refine HC.mono ?_
    rintro _ w1 ⟨rfl, h1⟩
    go_wp2
    go_ret2
    exact ⟨E, none, 0, [], HEE.out, by rw [if_neg HE.out], rfl, owb_nil _ _, below_then HB0.out h1⟩
end Go.Proofs.Ytfbfiecamaginaa
