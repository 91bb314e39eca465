/- Raw writes in new memory, as the document makes them. -/
import Derived.Test.YtenlfhdchflnjaaDocA
import Derived.Test.YtenlfhdchflnjaaImgN
namespace Go.Proofs.Ytenlfhdchflnjaa
open Go.RowKit

set_option maxHeartbeats 4000000 in
set_option maxRecDepth 100000 in
theorem TwinPuts_any (po : Option Addr) (ln pc : Nat) (D : Nat → Pt) (B : Nat → Option Addr) (K : Nat → Nat) {Z : Nat → Prop} (w : World) (hp : Pts w Z po ln D B K) (hln : ln ≤ 1000000) (hF : ∀ i, i < ln → (D i).b.length ≤ 140737488355328) :
    Calls Try.prog 21 #[.slice po ln pc] w fun e w' => ∃ po' pc' B' K', e = .returned (.slice po' ln pc') ∧ Pus false w' w.heap.size po' ln pc' D B' K' ∧ Below w.heap.size w w' := by
  obtain ⟨i0, hinf, hz0, hz1, hz2⟩ := info_parts info35
  have HP : Hid (Pts w Z po ln D B K) := hp
  have HF : Hid (∀ i, i < ln → (D i).b.length ≤ 140737488355328) := hF
  have HLN : Hid (ln ≤ 1000000) := hln
  clear hp hF hln
  go_enter Try.func21, Try.ntmps21
  go_wp2_with fail
  go_loopw [3, 4] (fun vo vi wr => ∃ (i : Nat) (ao : Option Addr) (cap : Nat) (B' : Nat → Option Addr) (K' : Nat → Nat), i ≤ ln ∧ vo = .slice ao i cap ∧ vi = .int .i64 i ∧ Hid (Pus false wr w.heap.size ao i cap D B' K') ∧ Hid (Below w.heap.size w wr)) (fun _ vi _ => ln - (intOf vi).toNat)
  case atStart => exact ⟨0, none, 0, fun _ => none, fun _ => 0, Nat.zero_le _, rfl, rfl, pus_nil _ _ _ _ _ _, Below.refl _ _⟩
  case round =>
    obtain ⟨i, ao, cap, B', K', hi, rfl, rfl, hs, hb⟩ := hrel
    have hln := HLN.out
    by_cases hlt : i < ln
    · have hpw := HP.out.below hb.out
      obtain ⟨b, off, rfl, hc⟩ := hpw.at_ (by omega)
      have hrd := hpw.rd i hlt
      have hni := hpw.nil i hlt
      have hfi := HF.out i hlt
      have hcx := hc i hlt
      obtain ⟨y, hy⟩ : ∃ y, y = D i := ⟨_, rfl⟩
      have HY : Hid (y = D i) := hy
      obtain ⟨bl, hbl⟩ : ∃ bl, bl = y.b.length := ⟨_, rfl⟩
      have HBL : Hid (bl = y.b.length) := hbl
      rw [← hy, ← hbl] at hcx
      rw [← hy] at hrd hni hfi
      obtain ⟨x0, x1, x2, x3⟩ := hcx
      have HRD : Hid (∀ o, RdB (wr.alloc o) (B i) y.b) := fun o => hrd.below (below_alloc _ _)
      have HNI : Hid (B i = none → y.b = [] ∧ K i = 0) := hni
      have HFI : Hid (y.b.length ≤ 140737488355328) := hfi
      have yx3 := fun o => held x3 (below_alloc wr o)
      have i1 : (0 : Int) ≤ (i : Int) := by omega
      have i2 : (i : Int) < (ln : Int) := by omega
      have tok1 : True := trivial
      have hzw := hb.out.size
      clear hpw hc hrd hni hfi hy hbl
      go_wp2_with (first
        | (at_builtin; have _t := tok1; clear _t tok1; refine wpList_app (by rfl) (.tmp 17) (.tmp 22) (by rfl) (by rfl) (B i) bl (K i) y.b (by rfl) HBL.out (HRD.out _) HNI.out HFI.out ?_; rintro an cn wb ⟨hb1, hb2, hb3, hb5⟩; obtain ⟨wx, hwx⟩ : ∃ wx, wx = wb.setCell ⟨wr.heap.size, 3, none⟩ (.slice an bl cn) := ⟨_, rfl⟩; have HWX : Hid (wx = wb.setCell ⟨wr.heap.size, 3, none⟩ (.slice an bl cn)) := hwx; have hkb := Blk.below (blk_new wr 35 _) hb5; have c0 := hkb.cell (i := 0) rfl; have c1 := hkb.cell (i := 1) rfl; have c2 := hkb.cell (i := 2) rfl; have c3 := hkb.cell (i := 3) rfl; have cf := hkb.free; have hkx := hkb.set 3 (.slice an bl cn); rw [← hwx] at hkx; have d0 : wx.cell? ⟨wr.heap.size, 0, none⟩ = some (.int .i64 y.d) := hkx.cell rfl; have d1 : wx.cell? ⟨wr.heap.size, 1, none⟩ = some (.int .i64 y.r) := hkx.cell rfl; have d2 : wx.cell? ⟨wr.heap.size, 2, none⟩ = some (.int .i64 y.s) := hkx.cell rfl; have d3 : wx.cell? ⟨wr.heap.size, 3, none⟩ = some (.slice an bl cn) := hkx.cell rfl; have hsz : wx.heap.size = wb.heap.size := (by rw [hwx]; simp [World.setCell]); have HBX : Hid (Below wr.heap.size wr wx) := (by rw [hwx]; exact (below_then (below_alloc _ _) hb5).setCell (Nat.le_refl _) _); have hz1' : wr.heap.size + 1 ≤ wb.heap.size := (by have := hb5.size; simpa using this); have HAN : Hid (∀ a, an = some a → wr.heap.size + 1 ≤ a.block ∧ a.block < wx.heap.size) := (fun a ha => by have := hb2 a ha; simp at this; omega); have HR1 : Hid (RdB wx an y.b) := (rdb_stay hb1 fun a ha => by rw [hwx]; exact Below.heap_setCell _ _ _ _ (by have := hb2 a ha; simp at this; show a.block ≠ wr.heap.size; omega)); have HR3 : Hid (an = none → y.b = [] ∧ cn = 0) := hb3; rw [hwx] at d0 d1 d2 d3; obtain ⟨XS, hXS⟩ : ∃ XS, XS = ptv D B' K' i := ⟨_, rfl⟩; have HXS : Hid (XS = ptv D B' K' i) := hXS; have HPX : Hid (∀ o, Pus false (wx.alloc o) w.heap.size ao i cap D B' K') := (fun o => hs.out.below (below_then HBX.out (below_alloc _ _))); have HOB : Hid (∀ o, (wx.alloc o).ownsRow w.heap.size 35 4 (.slice ao i cap) i XS) := (fun o => by rw [HXS.out]; exact (HPX.out o).1); have HPB : Hid (∀ d, ao = some d → d.block < wr.heap.size) := (fun d hd => (hs.out.1.lt d.block (by subst hd; rfl)).2); clear hb1 hb2 hb3 hb5 hkb hkx hXS hwx)
        | (at_builtin; rw [← HWX.out]; clear d0 d1 d2 d3 c0 c1 c2 c3 cf; refine wpList_append_lies _ (by rfl) (.tmp 25) (.tmp 27) 32 (by rfl) w.heap.size 35 i0 (.agg #[.int .i64 0, .int .i64 0, .int .i64 0, .slice none 0 0]) 4 48 Try.underlying32 hinf hz0 hz1 hz2 (by rfl) (by decide) (.slice ao i cap) i XS (by rfl) (HOB.out _) ⟨wb.heap.size, 0, none⟩ 1 1 [.int .i64 y.d, .int .i64 y.r, .int .i64 y.s, .slice an bl cn] (by rfl) (by rfl) (by rw [← hsz]; exact World.news_of_block (heap_alloc_new wx _)) (by simp [Value.oneCell']) (by decide) (by unfold maxLen; omega) (by omega) (by simp; omega) (wx.heap.size + 1) (by simp) ?_; intro g2 cap2 w2 hown2 hgrow2 hwh2 _; have HST : Hid (Pus false w2 w.heap.size (some ⟨g2, 0, none⟩) (i + 1) cap2 (upd i y D) (upd i an B') (upd i cn K') ∧ Below w.heap.size w w2) := ⟨Pus.snoc (y := y) HXS.out (HPX.out _).2 (HR1.out.below (below_alloc _ _)) (fun a ha => by have h := HAN.out a ha; exact ⟨by omega, by simp; omega, fun d hd => by have := HPB.out d hd; omega⟩) HR3.out (fun h => by cases h) (by rw [← HBL.out]; exact hown2) hgrow2 (by simpa using hwh2), ((below_then hb.out HBX.out).alloc (by omega) _).grown hgrow2 (by simp; omega) (fun r hr => ((HOB.out (.cells #[] 3)).lt r hr).1)⟩; clear hown2 hgrow2 hwh2))
      go_roundw
      case rel =>
        refine ⟨i + 1, some ⟨g2, 0, none⟩, cap2, upd i an B', upd i cn K', by omega, rfl, by go_num, ?_, HST.out.2⟩
        refine HST.out.1.congr fun j hj => ?_
        rw [HY.out]
        unfold upd
        by_cases e : j = i
        · rw [if_pos e, e]
        · rw [if_neg e]
      case measure => simp [intOf]; omega
    · obtain rfl : i = ln := by omega
      go_wp2_with fail
      go_ret
      exact ⟨ao, cap, B', K', rfl, hs.out, hb.out⟩
end Go.Proofs.Ytenlfhdchflnjaa
