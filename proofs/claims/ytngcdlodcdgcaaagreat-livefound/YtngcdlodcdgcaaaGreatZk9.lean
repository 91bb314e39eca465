import Derived.Laws.EntriesVeiled
import Derived.Test.YtngcdlodcdgcaaaGreatZk8
namespace Go.Proofs.YtngcdlodcdgcaaaGreat.Dr
open Go.RowKit Go.Sort
set_option maxHeartbeats 2000000 in
set_option maxRecDepth 100000 in
theorem Descs_any {k r c q : Int} (w : World) (lo : Option Addr) (n cl : Nat) (E : Int) (L : List Int)
  (HD : Hid (∀ ga gl gn gm gd v ao A ca ro R rc Y, Ca w k r c q lo n cl ga gl gn gm gd v ao A ca -> OwI Y v ro R rc -> gd < Y -> (∀ b, (Value.slice ao A.length ca).ownBlock = some b -> b < Y) -> A = [] -> R = [0] ->
   Calls Tryz.prog 23 #[.int .i64 0, .slice ro R.length rc, .pointer (some ⟨ga, 0, none⟩), .pointer (some ⟨gn, 0, none⟩), .pointer (some ⟨gm, 0, none⟩), .pointer (some ⟨gd, 0, none⟩)] v (AnsD w k r c q lo n cl ga gl gn gm gd E L))) (hL : E ≠ 0 -> L = []) :
  Calls Tryz.prog 9 #[.agg #[.int .i64 k, .int .i64 r, .int .i64 c, .int .i64 q, .slice lo n cl]] w (AnsI w E L) := by
 unfold AnsI
 unfold AnsD at HD
 obtain ⟨wa, hwa⟩ : ∃ wa, wa = w.alloc (.cells #[.int .i64 k, .int .i64 r, .int .i64 c, .int .i64 q, .slice lo n cl] 26) := ⟨_, rfl⟩
 obtain ⟨wb, hwb⟩ : ∃ wb, wb = wa.alloc (.cells #[.func (.func 21) #[] #[], .func (.func 22) #[] #[]] 55) := ⟨_, rfl⟩
 obtain ⟨wc, hwc⟩ : ∃ wc, wc = wb.alloc (.cells #[.slice (some ⟨w.heap.size + 1, 0, none⟩) 2 2] 56) := ⟨_, rfl⟩
 obtain ⟨wd, hwd⟩ : ∃ wd, wd = wc.alloc (.cells #[.slice none 0 0] 33) := ⟨_, rfl⟩
 obtain ⟨we, hwe⟩ : ∃ we, we = wd.alloc (.cells #[Value.func (.func 23) #[] #[.pointer (some ⟨w.heap.size + 1 + 1 + 1, 0, none⟩), .pointer (some ⟨w.heap.size + 1 + 1, 0, none⟩), .pointer (some ⟨w.heap.size, 0, none⟩), .pointer (some ⟨w.heap.size + 1 + 1 + 1 + 1, 0, none⟩)]] 57) := ⟨_, rfl⟩
 obtain ⟨wg, hwg⟩ : ∃ wg, wg = we.alloc (.cells #[.int .i64 0] 3) := ⟨_, rfl⟩
 have za : wa.heap.size = w.heap.size + 1 := by rw [hwa]; simp
 have zb : wb.heap.size = w.heap.size + 1 + 1 := by rw [hwb]; simp [za]
 have zc : wc.heap.size = w.heap.size + 1 + 1 + 1 := by rw [hwc]; simp [zb]
 have zd : wd.heap.size = w.heap.size + 1 + 1 + 1 + 1 := by rw [hwd]; simp [zc]
 have ze : we.heap.size = w.heap.size + 1 + 1 + 1 + 1 + 1 := by rw [hwe]; simp [zd]
 have ba : Below w.heap.size w wa := by rw [hwa]; exact below_alloc _ _
 have bb : Below wa.heap.size wa wb := by rw [hwb]; exact below_alloc _ _
 have bc : Below wb.heap.size wb wc := by rw [hwc]; exact below_alloc _ _
 have bd : Below wc.heap.size wc wd := by rw [hwd]; exact below_alloc _ _
 have be : Below wd.heap.size wd we := by rw [hwe]; exact below_alloc _ _
 have bg : Below we.heap.size we wg := by rw [hwg]; exact below_alloc _ _
 have ka : Im.Blk wa w.heap.size 26 [.int .i64 k, .int .i64 r, .int .i64 c, .int .i64 q, .slice lo n cl] := by rw [hwa]; exact heap_alloc_new _ _
 have kb : Im.Blk wb (w.heap.size + 1) 55 [.func (.func 21) #[] #[], .func (.func 22) #[] #[]] := by rw [hwb, <- za]; exact heap_alloc_new _ _
 have kc : Im.Blk wc (w.heap.size + 1 + 1) 56 [.slice (some ⟨w.heap.size + 1, 0, none⟩) 2 2] := by rw [hwc, <- zb]; exact heap_alloc_new _ _
 have kd : Im.Blk wd (w.heap.size + 1 + 1 + 1) 33 [.slice none 0 0] := by rw [hwd, <- zc]; exact heap_alloc_new _ _
 have ke : Im.Blk we (w.heap.size + 1 + 1 + 1 + 1) 57 [Value.func (.func 23) #[] #[.pointer (some ⟨w.heap.size + 1 + 1 + 1, 0, none⟩), .pointer (some ⟨w.heap.size + 1 + 1, 0, none⟩), .pointer (some ⟨w.heap.size, 0, none⟩), .pointer (some ⟨w.heap.size + 1 + 1 + 1 + 1, 0, none⟩)]] := by rw [hwe, <- zd]; exact heap_alloc_new _ _
 have be2 : Below w.heap.size w we := below_then (below_then (below_then (below_then ba bb) bc) bd) be
 have oth : ∀ {g : Nat} {t : TypeId} {cs : List Value}, Im.Blk we g t cs -> Im.Blk wg g t cs := fun hb => hb.below bg
 have HCA : Hid (Ca w k r c q lo n cl (w.heap.size + 1 + 1 + 1) (w.heap.size + 1) (w.heap.size + 1 + 1) w.heap.size (w.heap.size + 1 + 1 + 1 + 1) wg none [] 0) := by
  exact ⟨oth (kd.below be), oth (kc.below (below_then bd be)), oth (kb.below (below_then (below_then bc bd) be)), oth (ka.below (below_then (below_then (below_then bb bc) bd) be)), oth ke, by omega, owi_nil _ _, below_then be2 bg⟩
 have HRI : Hid (OwI (w.heap.size + 1 + 1 + 1 + 1 + 1) wg (some ⟨we.heap.size, 0, none⟩) [0] 1) := by
  show wg.ownsRow _ 3 1 _ _ _
  rw [hwg]
  exact World.ownsRow_lit (base := w.heap.size + 1 + 1 + 1 + 1 + 1) (size := 1) (e := 3) we #[.int .i64 0] 1 (by omega) (by decide) rfl
 rw [ze] at HRI
 have hcall := HD.out _ _ _ _ _ wg none [] 0 _ [0] 1 _ HCA.out HRI.out (Nat.lt_succ_self _) (fun b hb => by cases hb) rfl rfl
 clear HD ba bb bc bd be bg ka kb kc kd ke be2 oth za zb zc zd ze
 go_enter Tryz.func9, Tryz.ntmps9
 go_wp2_with fail
 rw [<- hwa, <- hwb, <- hwc, <- hwd, <- hwe, <- hwg]
 clear hwa hwb hwc hwd hwe hwg
 refine hcall.mono ?_
 rintro e wh ⟨rfl, h1, h2⟩
 have HB : Hid (RowKit.Below w.heap.size w wh) := h2
 by_cases hE : E = 0
 ·subst hE
  obtain ⟨ao, ca, hca⟩ := h1 rfl
  have s0 := hca.all.cell (i := 0) rfl
  have HO : Hid (OwI w.heap.size wh ao L ca) := hca.own.mono (by omega)
  clear h1 h2 hca hcall
  go_wp2_with fail
  go_ret2
  exact ⟨ao, ca, rfl, HO.out, HB.out⟩
 ·obtain rfl := hL hE
  have hz : (E != 0) = true := by simpa using hE
  clear h1 h2 hE hcall hL
  go_wp2_with fail
  go_ret2
  exact ⟨none, 0, rfl, owi_nil _ _, HB.out⟩
end Go.Proofs.YtngcdlodcdgcaaaGreat.Dr
namespace Go.Proofs.YtngcdlodcdgcaaaGreat.Dr
open Go.RowKit Go.Sort
def fLl (g : Int -> List Li) (l : List Int) : List Li := l.flatMap g
theorem fLl_take {g : Int -> List Li} {l : List Int} {i : Nat} (h : i < l.length) : fLl g (l.take (i + 1)) = fLl g (l.take i) ++ g (l.getD i 0) := by
 unfold fLl
 rw [List.take_add_one, List.getElem?_eq_getElem h, List.flatMap_append]
 simp [List.getD_eq_getElem?_getD, List.getElem?_eq_getElem h]
theorem fLl_le {g : Int -> List Li} {m : Nat} (h : ∀ o, (g o).length <= m) : ∀ l : List Int, (fLl g l).length <= l.length * m
 | [] => by simp [fLl]
 | x :: l => by
  have ih := fLl_le h l
  have hx := h x
  show ((x :: l).flatMap g).length <= _
  rw [List.flatMap_cons, List.length_append, List.length_cons, Nat.succ_mul]
  unfold fLl at ih
  omega
def sE (dE : Int) (dL : List Int) (SE : Int -> Int) : Int := if dE = 0 then fEr SE dL else dE
def sL (dE : Int) (dL : List Int) (SE : Int -> Int) (SL : Int -> List Li) : List Li := if sE dE dL SE = 0 then fLl SL dL else []
set_option maxHeartbeats 2000000 in
set_option maxRecDepth 100000 in
theorem LStripes_any {k r c q : Int} (w : World) (lo : Option Addr) (n cl : Nat) (dE : Int) (dL : List Int) (hd : dE ≠ 0 -> dL = []) (hdn : dL.length <= 1000000) (SE : Int -> Int) (SL : Int -> List Li) (hsn : ∀ o, (SL o).length <= 5000)
  (HA : Hid (∀ u, RowKit.Below w.heap.size w u -> Calls Tryz.prog 9 #[.agg #[.int .i64 k, .int .i64 r, .int .i64 c, .int .i64 q, .slice lo n cl]] u (AnsI u dE dL)))
  (HS : Hid (∀ o u, RowKit.Below w.heap.size w u -> Calls Tryz.prog 13 #[.agg #[.int .i64 k, .int .i64 r, .int .i64 c, .int .i64 q, .slice lo n cl], .int .i64 o] u (AnsL u (SE o) (SL o)))) :
  Calls Tryz.prog 7 #[.agg #[.int .i64 k, .int .i64 r, .int .i64 c, .int .i64 q, .slice lo n cl]] w (AnsL w (sE dE dL SE) (sL dE dL SE SL)) := by
 obtain ⟨w0, hw0⟩ : ∃ w0, w0 = w.alloc (.cells #[.int .i64 k, .int .i64 r, .int .i64 c, .int .i64 q, .slice lo n cl] 26) := ⟨_, rfl⟩
 have b0 : RowKit.Below w.heap.size w w0 := by rw [hw0]; exact below_alloc _ _
 have HB0 : Hid (RowKit.Below w.heap.size w w0) := b0
 have HIM : Hid (∀ v, RowKit.Below w0.heap.size w0 v -> v.cell? ⟨w.heap.size, 0, none⟩ = some (.int .i64 k) /\ v.cell? ⟨w.heap.size, 1, none⟩ = some (.int .i64 r) /\ v.cell? ⟨w.heap.size, 2, none⟩ = some (.int .i64 c) /\ v.cell? ⟨w.heap.size, 3, none⟩ = some (.int .i64 q) /\ v.cell? ⟨w.heap.size, 4, none⟩ = some (.slice lo n cl)) := fun v hv => ⟨blk_held hw0 hv 0 rfl, blk_held hw0 hv 1 rfl, blk_held hw0 hv 2 rfl, blk_held hw0 hv 3 rfl, blk_held hw0 hv 4 rfl⟩
 unfold AnsI at HA
 unfold AnsL at HS ⊢
 by_cases hz : dE = 0
 ·subst hz
  obtain ⟨E, hE⟩ : ∃ E, E = sE 0 dL SE := ⟨_, rfl⟩
  obtain ⟨L, hL⟩ : ∃ L, L = sL 0 dL SE SL := ⟨_, rfl⟩
  have HE : Hid (E = fEr SE dL /\ L = if E = 0 then fLl SL dL else []) := ⟨by rw [hE]; unfold sE; rw [if_pos rfl], by rw [hL, hE]; rfl⟩
  rw [<- hE, <- hL]
  clear hE hL hd
  go_enter Tryz.func7, Tryz.ntmps7
  go_wp2_with fail
  rw [<- hw0]
  clear hw0
  refine (HA.out _ b0).mono ?_
  rintro e wa ⟨bo, bc, rfl, hob, ha⟩
  have HAB : Hid (RowKit.Below w0.heap.size w0 wa) := ha
  have HV : Hid (Rei wa bo dL bc) := hob.rei
  clear HA hob ha b0
  go_wp2_with fail
  go_loopw [6, 21] (fun y x wr => ∃ (i : Nat) (ao : Option Addr) (ca : Nat) (G : List Li), i <= dL.length /\ x = .int .i64 (i : Int) /\ y = .slice ao G.length ca /\ Hid (G = fLl SL (dL.take i) /\ fEr SE (dL.take i) = 0) /\ Hid (OwL wa.heap.size wr ao G ca) /\ Hid (RowKit.Below wa.heap.size wa wr)) (fun _ x _ => dL.length - (intOf x).toNat)
  case atStart => exact ⟨0, none, 0, [], Nat.zero_le _, rfl, rfl, ⟨rfl, rfl⟩, owl_nil _ _, Below.refl _ _⟩
  case round =>
   obtain ⟨i, ao, ca, G, hi, rfl, rfl, hG, hown, hbel⟩ := hrel
   have HW0 : Hid (RowKit.Below w0.heap.size w0 wr) := below_then HAB.out hbel.out
   by_cases hlt : i < dL.length
   ·obtain ⟨b, off, rfl, hc⟩ := (HV.out.below hbel.out).at_ (by omega)
    have c0 := hc i hlt
    obtain ⟨t4, t5, t6, t7, t8⟩ := HIM.out wr HW0.out
    obtain ⟨x, hx⟩ : ∃ x, x = dL.getD i 0 := ⟨_, rfl⟩
    have HX : Hid (x = dL.getD i 0) := hx
    rw [<- hx] at c0
    have HLn : Hid (G.length <= 1000000 * 5000) := by
     show _ <= _
     rw [hG.out.1]
     have h1 := fLl_le (g := SL) hsn (dL.take i)
     have h2 : (dL.take i).length <= 1000000 := by rw [List.length_take]; omega
     have := Nat.mul_le_mul_right 5000 h2
     omega
    have hHF := fun u hu => HS.out x u hu
    have hgl := hsn x
    have i1 : (0 : Int) <= (i : Int) := by omega
    have i2 : (i : Int) < (dL.length : Int) := by omega
    obtain ⟨fx, hfx⟩ : ∃ fx, fx = SE x := ⟨_, rfl⟩
    obtain ⟨gx, hgx⟩ : ∃ gx, gx = SL x := ⟨_, rfl⟩
    have HFG : Hid (fx = SE x /\ gx = SL x) := ⟨hfx, hgx⟩
    rw [<- hfx, <- hgx] at hHF
    rw [<- hgx] at hgl
    clear hc hx hfx hgx
    go_wp2_with fail
    refine (hHF _ (below_then HB0.out HW0.out)).mono ?_
    rintro e wd ⟨uo, uc, rfl, hou, hd0⟩
    have HD0 : Hid (RowKit.Below wr.heap.size wr wd) := hd0
    have hreid := hou.rel
    clear hHF t4 t5 t6 t7 t8 c0 hou hd0
    have HBd : Hid (RowKit.Below wa.heap.size wa wd) := below_then hbel.out HD0.out
    have hownd := hown.out.below HD0.out
    have hszd := HBd.out.size
    have hLn := HLn.out
    by_cases hz : fx = 0
    ·subst hz
     have HNX : Hid (G ++ gx = fLl SL (dL.take (i + 1)) /\ fEr SE (dL.take (i + 1)) = 0) := ⟨by rw [fLl_take hlt, hG.out.1, HFG.out.2, HX.out], (fEr_take hlt hG.out.2).1 (by rw [<- HX.out]; exact HFG.out.1.symm)⟩
     go_wp2_with (at_builtin; refine append_lives (by rfl) (.tmp 34) (.tmp 35) (by rfl) wa.heap.size ca uc ao uo G gx (by rfl) (by rfl) hownd hreid (by omega) hszd ?_; intro bo6 bc6 w6 L6 hL6 hown6 hg6; have HL6 : Hid (L6 = G ++ gx) := hL6; have HB6 : Hid (RowKit.Below wa.heap.size wa w6) := HBd.out.grown hg6 hszd hownd.ge; clear hL6 hg6)
     go_roundw
     case rel => exact ⟨i + 1, bo6, bc6, L6, by omega, by go_num, rfl, by show _ /\ _; rw [HL6.out]; exact HNX.out, hown6, HB6.out⟩
     case measure => simp [intOf]; omega
    ·have hz' : (fx != 0) = true := by simpa using hz
     have HEX : Hid (fx = E /\ L = []) := by
      have h1 := (fEr_take (f := SE) hlt hG.out.2).2 (by rw [<- HX.out, <- HFG.out.1]; exact hz)
      rw [<- HX.out, <- HFG.out.1] at h1
      have h2 : E = fx := by rw [HE.out.1, h1]
      refine ⟨h2.symm, ?_⟩
      rw [HE.out.2, h2, if_neg hz]
     have HBB : Hid (RowKit.Below w.heap.size w wd) := below_then HB0.out (below_then HAB.out HBd.out)
     clear hz hownd hreid
     go_wp2_with fail
     go_ret2
     rw [HEX.out.2, <- HEX.out.1]
     exact ⟨none, 0, rfl, owl_nil _ _, HBB.out⟩
   ·obtain rfl : i = dL.length := by omega
    have HEX : Hid (E = 0 /\ L = G) := by
     have h1 := hG.out
     rw [List.take_length] at h1
     have h2 : E = 0 := by rw [HE.out.1, h1.2]
     exact ⟨h2, by rw [HE.out.2, h2, if_pos rfl, h1.1]⟩
    have HO : Hid (OwL w.heap.size wr ao G ca) := hown.out.mono (Nat.le_trans HB0.out.size HAB.out.size)
    have HBB : Hid (RowKit.Below w.heap.size w wr) := below_then HB0.out HW0.out
    clear hown hG
    go_wp2_with fail
    go_ret2
    rw [HEX.out.1, HEX.out.2]
    exact ⟨ao, ca, rfl, HO.out, HBB.out⟩
 ·obtain rfl := hd hz
  have e1 : sE dE [] SE = dE := if_neg hz
  have e2 : sL dE [] SE SL = [] := by unfold sL; rw [e1, if_neg hz]
  rw [e1, e2]
  have hz' : (dE != 0) = true := by simpa using hz
  clear hz hd e1 e2 HS
  go_enter Tryz.func7, Tryz.ntmps7
  go_wp2_with fail
  rw [<- hw0]
  clear hw0
  refine (HA.out _ b0).mono ?_
  rintro e wa ⟨bo, bc, rfl, hob, ha⟩
  have HAB : Hid (RowKit.Below w.heap.size w wa) := below_then b0 ha
  clear HA hob ha b0
  go_wp2_with fail
  go_ret2
  exact ⟨none, 0, rfl, owl_nil _ _, HAB.out⟩
end Go.Proofs.YtngcdlodcdgcaaaGreat.Dr
