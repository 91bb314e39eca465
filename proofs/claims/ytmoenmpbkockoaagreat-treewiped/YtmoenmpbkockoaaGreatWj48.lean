import Derived.Test.YtmoenmpbkockoaaGreatWj18
namespace Go.Proofs.YtmoenmpbkockoaaGreat
open Go.RowKit
def lvv (a v : Nat -> Int) : Nat -> List Value
  | 0 => []
  | n + 1 => lvv a v n ++ [.int .i64 (a n), .int .u8 (if n = 0 then 2 else 1), .int .i64 (v n)]
theorem lvv_length (a v : Nat -> Int) : ∀ n, (lvv a v n).length = n * 3
  | 0 => rfl
  | n + 1 => by rw [lvv, List.length_append, lvv_length a v n]; simp; omega
theorem lvv_get (a v : Nat -> Int) : ∀ n i, i < n -> (lvv a v n)[i * 3]? = some (.int .i64 (a i)) /\ (lvv a v n)[i * 3 + 1]? = some (.int .u8 (if i = 0 then 2 else 1)) /\ (lvv a v n)[i * 3 + 2]? = some (.int .i64 (v i))
  | 0, i, h => absurd h (Nat.not_lt_zero i)
  | n + 1, i, h => by
    rw [lvv]
    by_cases e : i < n
    · obtain ⟨h0, h1, h2⟩ := lvv_get a v n i e
      have l := lvv_length a v n
      rw [List.getElem?_append_left (by omega), List.getElem?_append_left (by omega), List.getElem?_append_left (by omega)]
      exact ⟨h0, h1, h2⟩
    · obtain rfl : i = n := by omega
      have l := lvv_length a v i
      rw [List.getElem?_append_right (by omega), List.getElem?_append_right (by omega), List.getElem?_append_right (by omega), l]
      rw [show i * 3 - i * 3 = 0 by omega, show i * 3 + 1 - i * 3 = 1 by omega, show i * 3 + 2 - i * 3 = 2 by omega]
      exact ⟨rfl, rfl, rfl⟩
def OwV (B : Nat) (w : World) (ao : Option Addr) (n cap : Nat) (a v : Nat -> Int) : Prop := w.ownsRow B 61 3 (.slice ao n cap) n (lvv a v n)
theorem OwV.stay {B : Nat} {w w' : World} {ao : Option Addr} {n cap : Nat} {a v : Nat -> Int} (h : OwV B w ao n cap a v) (hb : ∀ g, B <= g -> g < w.heap.size -> w'.heap[g]? = w.heap[g]?) : OwV B w' ao n cap a v := by
  refine ⟨h.1, ?_⟩
  rcases h.2 with h1 | ⟨g, cap', cur, h1, h2, h3, h4⟩
  · exact .inl h1
  · exact .inr ⟨g, cap', cur, h1, h2, by rw [hb g h2 (Array.getElem?_eq_some_iff.1 h3).1]; exact h3, h4⟩
theorem OwV.below {B : Nat} {w w' : World} {ao : Option Addr} {n cap : Nat} {a v : Nat -> Int} (h : OwV B w ao n cap a v) (hb : Below w.heap.size w w') : OwV B w' ao n cap a v := h.stay fun g _ hg => hb.block g hg
theorem OwV.at_ {B : Nat} {w : World} {ao : Option Addr} {n cap : Nat} {a v : Nat -> Int} (h : OwV B w ao n cap a v) (hn : 0 < n) : ∃ g, ao = some ⟨g, 0, none⟩ /\ B <= g /\ g < w.heap.size /\ ∀ i, i < n -> w.cell? ⟨g, i * 3, none⟩ = some (.int .i64 (a i)) /\ w.cell? ⟨g, i * 3 + 1, none⟩ = some (.int .u8 (if i = 0 then 2 else 1)) /\ w.cell? ⟨g, i * 3 + 2, none⟩ = some (.int .i64 (v i)) := by
  have h0 := h
  rcases h.2 with ⟨_, h2⟩ | ⟨g, cap', cur, h1, h2, h3, h4⟩
  · omega
  · cases h1
    refine ⟨g, rfl, h2, (Array.getElem?_eq_some_iff.1 h3).1, fun i hi => ?_⟩
    obtain ⟨e0, e1, e2⟩ := lvv_get a v n i hi
    have l := lvv_length a v n
    rw [World.ownsRow.cellAt h0 (i * 3) (by omega), World.ownsRow.cellAt h0 (i * 3 + 1) (by omega), World.ownsRow.cellAt h0 (i * 3 + 2) (by omega)]
    exact ⟨e0, e1, e2⟩
theorem info57 : (Tryz.prog.info? 61).map (fun i => (i.zero, i.size, i.bytes)) = some (some (.agg #[.int .i64 0, .int .u8 0, .int .i64 0]), 3, 24) := by kernel_rfl
theorem wpList_append_live {w : World} {ops : Array Oper} {rest : List Oper} {o : Oper} {a : Act} {Q : Exit -> Act -> World -> Prop} (hgd : o.guard = none) (s x : Operand)
    (ho : o.op = .call { callee := .builtin .append, args := #[s, x], argTypes := #[56, 56] }) (B k ca g : Nat) (ao : Option Addr) (Ra Va : Nat -> Int) (p t : Int)
    (hs : a.eval s = .slice ao k ca) (hx : a.eval x = .slice (some ⟨g, 0, none⟩) 1 1) (h : OwV B w ao k ca Ra Va) (hp : Ra k = p) (ht : Va k = t) (hk0 : 0 < k)
    (c0 : w.cell? ⟨g, 0, none⟩ = some (.int .i64 p)) (c1 : w.cell? ⟨g, 1, none⟩ = some (.int .u8 1)) (c2 : w.cell? ⟨g, 2, none⟩ = some (.int .i64 t)) (hk : k <= 100000) (hB : B <= w.heap.size)
    (cont : ∀ ao' c' w', Hid (OwV B w' ao' (k + 1) c' Ra Va) -> w.grownBy w' (Value.slice ao k ca).ownBlock -> wpList Tryz.prog ops Q rest (a.put o.dst (.slice ao' (k + 1) c')) w') : wpList Tryz.prog ops Q (o :: rest) a w := by
  obtain ⟨j0, hj, hj0, hj1, hj2⟩ := info_parts info57
  refine wpList_append_own w hgd s x 56 ho B 61 j0 (.agg #[.int .i64 0, .int .u8 0, .int .i64 0]) 3 24 Tryz.underlying56 hj hj0 hj1 hj2 rfl (by decide) (.slice ao k ca) k (lvv Ra Va k) hs h ⟨g, 0, none⟩ 1 1 [.int .i64 p, .int .u8 1, .int .i64 t] hx rfl (fun j u hu => ?_) (fun u hu => ?_) (by unfold maxLen; omega) (by omega) hB ?_
  · rw [Addr.add_lit, Nat.zero_add]
    match j, hu with
    | 0, hu => cases hu; exact c0
    | 1, hu => cases hu; exact c1
    | 2, hu => cases hu; exact c2
    | n + 3, hu => simp at hu
  · simp at hu
    rcases hu with rfl | rfl | rfl <;> rfl
  · intro v' w' h1 h2 _
    obtain ⟨ao', c', rfl⟩ : ∃ ao' c', v' = .slice ao' (k + 1) c' := by
      rcases h1.2 with ⟨rfl, e⟩ | ⟨g, cap, cur, rfl, _⟩
      · rw [e]; exact ⟨none, 0, rfl⟩
      · exact ⟨_, cap, rfl⟩
    refine cont ao' c' w' ?_ h2
    show w'.ownsRow B 61 3 _ _ (lvv Ra Va (k + 1))
    rw [lvv, if_neg (by omega), hp, ht]; exact h1
def AnsLv (w : World) (E : Int) (n : Nat) (a v : Nat -> Int) (e : Ending) (w' : World) : Prop :=
  ∃ ao cp, e = .returned (.tuple #[.slice ao (lenE E n) cp, .int .i64 E]) /\ OwV w.heap.size w' ao (lenE E n) cp a v /\ Below w.heap.size w w'
def lvA (o : Int) (l : Nat) (R SR : Nat -> Int) (i : Nat) : Int := if i = 0 then o else De.apI l R SR (i - 1)
theorem lvA_zero (o : Int) (l : Nat) (R SR : Nat -> Int) : lvA o l R SR 0 = o := if_pos rfl
theorem lvA_succ (o : Int) (l : Nat) (R SR : Nat -> Int) (i : Nat) : lvA o l R SR (i + 1) = De.apI l R SR i := by unfold lvA; rw [if_neg (by omega)]; rfl
theorem owr_grown {B B' : Nat} {w w' : World} {ao av : Option Addr} {n cp m ac : Nat} {R V a v : Nat -> Int} (h : De.OwR B w ao n cp R V) (hv : OwV B' w av m ac a v) (hg : w.grownBy w' (Value.slice av m ac).ownBlock) : De.OwR B w' ao n cp R V := by
  refine ⟨h.1, ?_⟩
  rcases h.2 with h1 | ⟨g, cap', cur, h1, h2, h3, h4⟩
  · exact .inl h1
  · refine .inr ⟨g, cap', cur, h1, h2, ?_, h4⟩
    rw [hg.block g (Array.getElem?_eq_some_iff.1 h3).1 ?_]
    · exact h3
    · intro e
      rcases hv.2 with ⟨e1, _⟩ | ⟨g', c', cur', e1, _, e3, _⟩
      · rw [e1] at e; cases e
      · rw [e1] at e
        have e' : g' = g := by have : some g = some g' := e; cases this; rfl
        subst e'
        rw [h3] at e3
        have := Option.some.inj e3
        injection this with _ q _
        exact absurd q (by decide)
set_option maxHeartbeats 4000000 in
set_option maxRecDepth 100000 in
theorem Stripes_bad {k r c q : Int} (w : World) (lo : Option Addr) (n cl : Nat) (o E : Int) (hE : E ≠ 0) (A D : Int) (M : Nat) (R V : Nat -> Int) (y : Int) (l s : Nat) (SR SV : Nat -> Int)
    (HA : Hid (∀ u, Below w.heap.size w u -> Calls Tryz.prog 22 #[.agg #[.int .i64 k, .int .i64 r, .int .i64 c, .int .i64 q, .slice lo n cl], .int .i64 o] u (AnsO u E A D M R V y l s SR SV))) (m : Nat) (a v : Nat -> Int) :
    Calls Tryz.prog 24 #[.agg #[.int .i64 k, .int .i64 r, .int .i64 c, .int .i64 q, .slice lo n cl], .int .i64 o] w (AnsLv w E m a v) := by
  have hz : (E != 0) = true := by simpa using hE
  unfold AnsO at HA
  unfold AnsLv
  rw [lenE_ne M hE, lenE_ne l hE, lenE_ne s hE, De.lenI_not hE, De.lenI_not hE, De.lenI_not hE] at HA
  rw [lenE_ne m hE]
  clear hE
  obtain ⟨w0, hw0⟩ : ∃ w0, w0 = w.alloc (.cells #[.int .i64 k, .int .i64 r, .int .i64 c, .int .i64 q, .slice lo n cl] 51) := ⟨_, rfl⟩
  have b0 : Below w.heap.size w w0 := by rw [hw0]; exact below_alloc _ _
  go_enter Tryz.func24, Tryz.ntmps24
  go_wp2_with fail
  rw [<- hw0]
  refine (HA.out _ b0).mono ?_
  rintro e wa ⟨ao, cp, lo', lc, so, sc, rfl, _, _, _, ha⟩
  clear hw0 HA
  go_wp2_with fail
  go_ret2
  exact ⟨none, 0, rfl, World.ownsRow_nil _ _ _ _, below_then (below_then b0 ha) (below_alloc _ _)⟩
set_option maxHeartbeats 4000000 in
set_option maxRecDepth 100000 in
theorem Stripes_good {k r c q : Int} (w : World) (lo : Option Addr) (n cl : Nat) (o : Int) (A D : Int) (M : Nat) (R V : Nat -> Int) (y : Int) (l s : Nat) (hl : l <= 1000) (hs : s <= 5000) (SR SV : Nat -> Int)
    (HA : Hid (∀ u, Below w.heap.size w u -> Calls Tryz.prog 22 #[.agg #[.int .i64 k, .int .i64 r, .int .i64 c, .int .i64 q, .slice lo n cl], .int .i64 o] u (AnsO u 0 A D M R V y l s SR SV))) :
    Calls Tryz.prog 24 #[.agg #[.int .i64 k, .int .i64 r, .int .i64 c, .int .i64 q, .slice lo n cl], .int .i64 o] w (AnsLv w 0 (l + s + 1) (lvA o l R SR) (lvA y l V SV)) := by
  unfold AnsO at HA
  unfold AnsLv
  rw [lenE_zero, lenE_zero, lenE_zero, De.lenI_zero, De.lenI_zero, De.lenI_zero] at HA
  rw [lenE_zero]
  obtain ⟨w0, hw0⟩ : ∃ w0, w0 = w.alloc (.cells #[.int .i64 k, .int .i64 r, .int .i64 c, .int .i64 q, .slice lo n cl] 51) := ⟨_, rfl⟩
  have b0 : Below w.heap.size w w0 := by rw [hw0]; exact below_alloc _ _
  go_enter Tryz.func24, Tryz.ntmps24
  go_wp2_with fail
  rw [<- hw0]
  refine (HA.out _ b0).mono ?_
  rintro e wa ⟨ao, cp, lo', lc, so, sc, rfl, _, h2, h3, ha⟩
  obtain ⟨wb, hwb⟩ : ∃ wb, wb = wa.alloc (.cells #[.int .i64 A, .int .i64 D, .slice ao M cp] 27) := ⟨_, rfl⟩
  obtain ⟨wc, hwc⟩ : ∃ wc, wc = wb.alloc (.cells #[.int .i64 o, .int .u8 2, .int .i64 y] 61) := ⟨_, rfl⟩
  obtain ⟨wd, hwd⟩ : ∃ wd, wd = wc.alloc (.cells #[.slice lo' l lc, .slice so s sc] 25) := ⟨_, rfl⟩
  have bb : Below wa.heap.size wa wb := by rw [hwb]; exact below_alloc _ _
  have bc : Below wb.heap.size wb wc := by rw [hwc]; exact below_alloc _ _
  have bd : Below wc.heap.size wc wd := by rw [hwd]; exact below_alloc _ _
  have zb : wb.heap.size = wa.heap.size + 1 := by rw [hwb]; simp
  have zc : wc.heap.size = wa.heap.size + 2 := by rw [hwc]; simp [zb]
  have b1 := below_then b0 ha
  have HB1 : Hid (Below w.heap.size w wd) := below_then (below_then (below_then b1 bb) bc) bd
  have HV1 : Hid (OwV w.heap.size wd (some ⟨wb.heap.size, 0, none⟩) 1 1 (lvA o l R SR) (lvA y l V SV)) := by
    refine OwV.below ?_ bd
    show wc.ownsRow w.heap.size 61 3 _ _ _
    rw [hwc]
    have h := World.ownsRow_lit (base := w.heap.size) (size := 3) (e := 61) wb #[.int .i64 o, .int .u8 2, .int .i64 y] 1 (below_then b1 bb).size (by decide) rfl
    simpa [lvv, lvA_zero] using h
  have HC := concatR_any wd (wa.heap.size + 2) lo' so l lc s sc R V SR SV (by rw [<- zc]; exact blk_held hwd (Below.refl _ _) 0 rfl) (by rw [<- zc]; exact blk_held hwd (Below.refl _ _) 1 rfl) hl hs ((h2.rec.below (below_then (below_then bb bc) bd))) ((h3.rec.below (below_then (below_then bb bc) bd)))
  have HZ : Hid (w.heap.size <= wd.heap.size) := HB1.out.size
  rw [zb] at HV1
  clear h2 h3 HA
  go_wp2_with fail
  rw [<- hwb, <- hwc, <- hwd]
  clear hw0 hwb hwc hwd bb bc bd zb zc b0 b1 ha
  refine HC.mono ?_
  rintro e we ⟨ro, rc, rfl, hro, hbe⟩
  have HR1 : Hid (De.OwR wd.heap.size we ro (l + s) rc (De.apI l R SR) (De.apI l V SV)) := hro
  have HB2 : Hid (Below w.heap.size w we) := below_then HB1.out hbe
  have HV2 : Hid (OwV w.heap.size we (some ⟨wa.heap.size + 1, 0, none⟩) 1 1 (lvA o l R SR) (lvA y l V SV)) := HV1.out.below hbe
  clear hro hbe HC HV1 HB1
  go_wp2_with fail
  go_loopw [11, 35] (fun x i wr => ∃ j : Nat, j <= l + s /\ i = .int .i64 (j : Int) /\ ∃ av ac, x = .slice av (j + 1) ac /\ Hid (OwV w.heap.size wr av (j + 1) ac (lvA o l R SR) (lvA y l V SV)) /\ Hid (De.OwR wd.heap.size wr ro (l + s) rc (De.apI l R SR) (De.apI l V SV)) /\ Hid (Below w.heap.size w wr)) (fun _ i _ => l + s - (intOf i).toNat)
  case atStart => exact ⟨0, Nat.zero_le _, rfl, _, _, rfl, HV2, HR1, HB2⟩
  case round =>
    obtain ⟨j, hj, rfl, av, ac, rfl, hv, hr, hb⟩ := hrel
    by_cases hlt : j < l + s
    · obtain ⟨g, rfl, hg1, hg2⟩ := hr.out.at_ (by omega)
      obtain ⟨c0, c1⟩ := hr.out.cell hlt
      have i1 : (0 : Int) <= (j : Int) := by omega
      have i2 : (j : Int) < ((l + s : Nat) : Int) := by omega
      obtain ⟨p, hp⟩ : ∃ p, De.apI l R SR j = p := ⟨_, rfl⟩
      obtain ⟨t, ht⟩ : ∃ t, De.apI l V SV j = t := ⟨_, rfl⟩
      rw [hp] at c0
      rw [ht] at c1
      have hwr := hb.out.size
      obtain ⟨wf, hwf⟩ : ∃ wf, wf = wr.alloc (.cells #[.int .i64 p, .int .i64 t] 63) := ⟨_, rfl⟩
      obtain ⟨wg, hwg⟩ : ∃ wg, wg = wf.alloc (.cells #[.int .i64 p, .int .u8 1, .int .i64 t] 61) := ⟨_, rfl⟩
      have bf : Below wr.heap.size wr wf := by rw [hwf]; exact below_alloc _ _
      have bg : Below wf.heap.size wf wg := by rw [hwg]; exact below_alloc _ _
      have zf : wf.heap.size = wr.heap.size + 1 := by rw [hwf]; simp
      have HVg : Hid (OwV w.heap.size wg av (j + 1) ac (lvA o l R SR) (lvA y l V SV)) := hv.out.below (below_then bf bg)
      have HRg : Hid (De.OwR wd.heap.size wg (some ⟨g, 0, none⟩) (l + s) rc (De.apI l R SR) (De.apI l V SV)) := hr.out.below (below_then bf bg)
      have HBg : Hid (Below w.heap.size w wg) := below_then hb.out (below_then bf bg)
      have k0 := blk_held hwg (Below.refl _ _) 0 rfl
      have k1 := blk_held hwg (Below.refl _ _) 1 rfl
      have k2 := blk_held hwg (Below.refl _ _) 2 rfl
      have HP : Hid (lvA o l R SR (j + 1) = p) := by show _ = _; rw [lvA_succ]; exact hp
      have HT : Hid (lvA y l V SV (j + 1) = t) := by show _ = _; rw [lvA_succ]; exact ht
      have HWG : Hid (w.heap.size <= wg.heap.size) := HBg.out.size
      rw [zf] at k0 k1 k2
      have HW : Hid ((wr.alloc (.cells #[.int .i64 p, .int .i64 t] 63)).alloc (.cells #[.int .i64 p, .int .u8 1, .int .i64 t] 61) = wg) := by show _ = _; rw [hwg, hwf]
      have K0 : Hid (wg.cell? ⟨wr.heap.size + 1, 0, none⟩ = some (.int .i64 p) /\ wg.cell? ⟨wr.heap.size + 1, 1, none⟩ = some (.int .u8 1) /\ wg.cell? ⟨wr.heap.size + 1, 2, none⟩ = some (.int .i64 t)) := ⟨k0, k1, k2⟩
      clear hv hr bf bg zf hp ht hwr hwf hwg k0 k1 k2
      go_wp2_with (at_builtin; rw [HW.out]; refine wpList_append_live (by rfl) (.tmp 39) (.tmp 45) (by rfl) w.heap.size (j + 1) ac (wr.heap.size + 1) av (lvA o l R SR) (lvA y l V SV) p t (by rfl) (by rfl) HVg.out HP.out HT.out (Nat.succ_pos _) K0.out.1 K0.out.2.1 K0.out.2.2 (by omega) HWG.out ?_; intro ao' c' w' hov hgr)
      have HR3 : Hid (De.OwR wd.heap.size w' (some ⟨g, 0, none⟩) (l + s) rc (De.apI l R SR) (De.apI l V SV)) := owr_grown HRg.out HVg.out hgr
      have HB3 : Hid (Below w.heap.size w w') := HBg.out.grown hgr HWG.out (fun r hr => (World.ownsRow.lt HVg.out r hr).1)
      clear hgr c0 c1
      go_roundw
      case rel => exact ⟨j + 1, by omega, by go_num, ao', c', rfl, hov, HR3, HB3⟩
      case measure => simp [intOf]; omega
    · obtain rfl : j = l + s := by omega
      go_wp2_with fail
      go_ret2
      exact ⟨_, _, rfl, hv.out, hb.out⟩
end Go.Proofs.YtmoenmpbkockoaaGreat
