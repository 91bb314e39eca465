/- Some answers that the document fixes. -/
import Derived.Test.YtfbfiecamaginaaDrW
namespace Go.Proofs.Ytfbfiecamaginaa
open Go.RowKit Go.Sort

theorem ren_of {w w0 : World} (l : List En) {cs : Array Value} (h0 : w0 = w.alloc (.cells cs 34)) (hc : cs.toList = evl l) : Ren w0 (some ⟨w.heap.size, 0, none⟩) l l.length := by
  refine ⟨fun _ => ⟨_, _, rfl, fun j u hj => ?_⟩, (fun e => by cases e), Nat.le_refl _⟩
  rw [Nat.zero_add]
  refine blk_held h0 (Below.refl _ _) j ?_
  rw [← hc] at hj
  simpa using hj
theorem rei_of {w w0 : World} (l : List Int) {cs : Array Value} (h0 : w0 = w.alloc (.cells cs 3)) (hc : cs.toList = ivl l) : Rei w0 (some ⟨w.heap.size, 0, none⟩) l l.length := by
  refine ⟨fun _ => ⟨_, _, rfl, fun j u hj => ?_⟩, (fun e => by cases e), Nat.le_refl _⟩
  rw [Nat.zero_add]
  refine blk_held h0 (Below.refl _ _) j ?_
  rw [← hc] at hj
  simpa using hj
theorem sample_any (w : World) : Calls Try.prog 31 #[] w fun e w' => e = .returned (.agg #[.int .i64 4, .int .i64 2, .int .i64 16, .int .i64 32]) ∧ RowKit.Below w.heap.size w w' := by
  go_enter Try.func31, Try.ntmps31
  go_wp2
  refine bodyPost_ret (v := .agg #[.int .i64 4, .int .i64 2, .int .i64 16, .int .i64 32]) (by simp [results, Try.results31, go_sem]) rfl ⟨rfl, ?_⟩
  exact below_alloc _ _
def A1 : En := ([97], 5)
def A2 : En := ([97, 98], 31)
def A3 : En := ([98], 1)
def A4 : En := ([97], 2)
theorem wf_small (l : List En) (h : l.length ≤ 10) (g : ∀ x ∈ l, x.1.length ≤ 10) : Few l := by
  have := sz_bound g
  have : l.length * (10 + 3) ≤ 10 * 13 := Nat.mul_le_mul_right _ h
  exact ⟨by omega, by omega, fun x hx => by have := g x hx; omega⟩
set_option maxHeartbeats 4000000 in
set_option maxRecDepth 100000 in
theorem alive_any (w : World) : Calls Try.prog 8 #[] w fun e w' => e = .returned (.bool true) ∧ RowKit.Below w.heap.size w w' := by
  have HP : Hid (PP 4 2 16 32 (mst 64) 0) := pp_par (N := 6) (W := 64) (.inl ⟨rfl, rfl, rfl, rfl⟩)
  have hSA := sample_any w
  go_enter Try.func8, Try.ntmps8
  go_wp2_with fail
  refine hSA.mono ?_
  rintro _ w1 ⟨rfl, hb1⟩
  have HB1 : Hid (RowKit.Below w.heap.size w w1) := hb1
  clear hSA hb1
  obtain ⟨w2, hw2⟩ : ∃ w2, w2 = w1.alloc (.cells #[.int .i64 4, .int .i64 2, .int .i64 16, .int .i64 32] 24) := ⟨_, rfl⟩
  have HPAR : Hid (∀ v, RowKit.Below w2.heap.size w2 v → v.cell? ⟨w1.heap.size, 0, none⟩ = some (.int .i64 4) ∧ v.cell? ⟨w1.heap.size, 1, none⟩ = some (.int .i64 2) ∧ v.cell? ⟨w1.heap.size, 2, none⟩ = some (.int .i64 16) ∧ v.cell? ⟨w1.heap.size, 3, none⟩ = some (.int .i64 32)) := fun v hv => par_held hw2 hv
  have HB2 : Hid (RowKit.Below w.heap.size w w2) := by show RowKit.Below _ _ _; rw [hw2]; exact below_then HB1.out (below_alloc _ _)
  have hs2 : w2.heap.size = w1.heap.size + 1 := by rw [hw2]; simp
  obtain ⟨x0, x1, x2, x3⟩ := HPAR.out w2 (Below.refl _ _)
  obtain ⟨w3, hw3⟩ : ∃ w3, w3 = w2.alloc (.cells #[.string ⟨#[97]⟩, .int .i64 5, .string ⟨#[97, 98]⟩, .int .i64 31] 34) := ⟨_, rfl⟩
  have hl3 := ren_of [A1, A2] hw3 rfl
  have HB3 : Hid (RowKit.Below w2.heap.size w2 w3) := by show RowKit.Below _ _ _; rw [hw3]; exact below_alloc _ _
  have hC := Bytes_go HP.out w3 _ [A1, A2] 2 hl3 (wf_small _ (by decide) (by decide))
  rw [hs2] at hC
  go_wp2_with fail
  rw [← hw2, ← hw3]
  clear hw2 hw3
  refine hC.mono ?_
  rintro _ w4 ⟨E, bo, cb, L, hE, hL, rfl, hown, h4⟩
  obtain rfl : E = 0 := hE.trans (by kernel_rfl)
  obtain rfl : L = [1, 97, 0, 5, 2, 97, 98, 0, 31] := hL.trans (by kernel_rfl)
  have HB4 : Hid (RowKit.Below w2.heap.size w2 w4) := below_then HB3.out h4
  have HO1 : Hid (Reb w4 bo [1, 97, 0, 5, 2, 97, 98, 0, 31] cb) := hown.reb
  clear hE hL hown h4 hC x0 x1 x2 x3 hl3
  -- Parse
  obtain ⟨x0, x1, x2, x3⟩ := HPAR.out w4 HB4.out
  obtain ⟨w5, hw5⟩ : ∃ w5, w5 = w4.alloc (.cells #[.int .u8 1, .int .u8 97, .int .u8 0, .int .u8 5] 5) := ⟨_, rfl⟩
  have hl5 := reb_lit [1, 97, 0, 5] hw5 rfl
  have HB5 : Hid (RowKit.Below w4.heap.size w4 w5) := by show RowKit.Below _ _ _; rw [hw5]; exact below_alloc _ _
  have hC := Parse_any HP.out w5 _ [1, 97, 0, 5] 4 hl5 (by decide) [A1] [] ⟨by kernel_rfl, fun x hx => by obtain rfl : x = A1 := by simpa using hx
                                                                                                          exact ⟨by decide, by decide, by decide⟩, .inl rfl⟩
  go_wp2_with fail
  rw [← hw5]
  clear hw5
  refine hC.mono ?_
  rintro _ w6 ⟨E, lo, lc, L, hE, hL, rfl, hown, h6⟩
  obtain rfl : E = 0 := hE.trans (by kernel_rfl)
  obtain rfl : L = [A1] := hL.trans (by kernel_rfl)
  have HB6 : Hid (RowKit.Below w4.heap.size w4 w6) := below_then HB5.out h6
  have HP6 : Hid (RowKit.Below w2.heap.size w2 w6) := below_then HB4.out HB6.out
  have HO2 : Hid (Ren w6 lo [A1] lc) := hown.ren
  clear hE hL hown h6 hC x0 x1 x2 x3 hl5
  -- Parse, cut short
  obtain ⟨x0, x1, x2, x3⟩ := HPAR.out w6 HP6.out
  obtain ⟨w7, hw7⟩ : ∃ w7, w7 = w6.alloc (.cells #[.int .u8 1, .int .u8 97, .int .u8 0] 5) := ⟨_, rfl⟩
  have hl7 := reb_lit [1, 97, 0] hw7 rfl
  have HB7 : Hid (RowKit.Below w6.heap.size w6 w7) := by show RowKit.Below _ _ _; rw [hw7]; exact below_alloc _ _
  have hC := Parse_any HP.out w7 _ [1, 97, 0] 3 hl7 (by decide) [] [1, 97, 0] (show Prs [1, 97, 0] [] [1, 97, 0] from ⟨rfl, fun x hx => (List.not_mem_nil hx).elim, .inr ⟨by decide, by decide⟩⟩)
  go_wp2_with fail
  rw [← hw7]
  clear hw7
  refine hC.mono ?_
  rintro _ w8 ⟨E, lo2, lc2, L, hE, hL, rfl, hown, h8⟩
  obtain rfl : E = 220 := hE.trans (by kernel_rfl)
  obtain rfl : L = [] := hL.trans (by kernel_rfl)
  have HB8 : Hid (RowKit.Below w6.heap.size w6 w8) := below_then HB7.out h8
  have HP8 : Hid (RowKit.Below w2.heap.size w2 w8) := below_then HP6.out HB8.out
  clear hE hL hown h8 hC x0 x1 x2 x3 hl7
  -- Find
  obtain ⟨x0, x1, x2, x3⟩ := HPAR.out w8 HP8.out
  have HL8 : Hid (Ren w8 lo [A1] lc) := HO2.out.below HB8.out
  have hf1 : Few [A1] := wf_small _ (by decide) (by decide)
  have hC := Find_any HP.out w8 lo [A1] lc HL8.out hf1 [97]
  go_wp2_with fail
  refine hC.mono ?_
  rintro _ w9 ⟨E, hE, rfl, h9⟩
  obtain rfl : E = 0 := hE.trans (by kernel_rfl)
  rw [show fiR 0 [A1] [97] = 5 by kernel_rfl, show asI 0 [A1] [97] = true by kernel_rfl]
  have HP9 : Hid (RowKit.Below w2.heap.size w2 w9) := below_then HP8.out h9
  have HL9 : Hid (Ren w9 lo [A1] lc) := HL8.out.below h9
  have HB49 : Hid (RowKit.Below w4.heap.size w4 w9) := below_then HB6.out (below_then HB8.out h9)
  clear hE h9 hC x0 x1 x2 x3
  -- Add
  obtain ⟨x0, x1, x2, x3⟩ := HPAR.out w9 HP9.out
  obtain ⟨w10, hw10⟩ : ∃ w10, w10 = w9.alloc (.cells #[.string ⟨#[98]⟩, .int .i64 1] 34) := ⟨_, rfl⟩
  have hl10 := ren_of [A3] hw10 rfl
  have HB10 : Hid (RowKit.Below w9.heap.size w9 w10) := by show RowKit.Below _ _ _; rw [hw10]; exact below_alloc _ _
  have hC := Add_any HP.out w10 _ [A3] 1 hl10 (wf_small _ (by decide) (by decide)) [97] 2 (wf_small _ (by decide) (by decide))
  go_wp2_with fail
  rw [← hw10]
  clear hw10
  refine hC.mono ?_
  rintro _ w11 ⟨E, go, gc, L, hE, hL, rfl, hown, h11⟩
  obtain rfl : E = 0 := hE.trans (by kernel_rfl)
  obtain rfl : L = [A4, A3] := hL.trans (by kernel_rfl)
  have HB11 : Hid (RowKit.Below w9.heap.size w9 w11) := below_then HB10.out h11
  have HP11 : Hid (RowKit.Below w2.heap.size w2 w11) := below_then HP9.out HB11.out
  have HL11 : Hid (Ren w11 lo [A1] lc) := HL9.out.below HB11.out
  have HB411 : Hid (RowKit.Below w4.heap.size w4 w11) := below_then HB49.out HB11.out
  have HO5 : Hid (Ren w11 go [A4, A3] gc) := hown.ren
  clear hE hL hown h11 hC x0 x1 x2 x3 hl10
  -- Add of what stands there
  obtain ⟨x0, x1, x2, x3⟩ := HPAR.out w11 HP11.out
  have hC := Add_any HP.out w11 lo [A1] lc HL11.out hf1 [97] 2 (wf_small _ (by decide) (by decide))
  go_wp2_with fail
  refine hC.mono ?_
  rintro _ w12 ⟨E, yo, yc, L, hE, hL, rfl, hown, h12⟩
  obtain rfl : E = 7 := hE.trans (by kernel_rfl)
  obtain rfl : L = [] := hL.trans (by kernel_rfl)
  have HP12 : Hid (RowKit.Below w2.heap.size w2 w12) := below_then HP11.out h12
  have HL12 : Hid (Ren w12 lo [A1] lc) := HL11.out.below h12
  have HB1112 : Hid (RowKit.Below w11.heap.size w11 w12) := h12
  clear hE hL hown h12 hC x0 x1 x2 x3
  -- Remove
  obtain ⟨x0, x1, x2, x3⟩ := HPAR.out w12 HP12.out
  have hC := Remove_any HP.out w12 lo [A1] lc HL12.out hf1 [98]
  go_wp2_with fail
  refine hC.mono ?_
  rintro _ w13 ⟨E, zo, zc, L, hE, hL, rfl, hown, h13⟩
  obtain rfl : E = 8 := hE.trans (by kernel_rfl)
  obtain rfl : L = [] := hL.trans (by kernel_rfl)
  have HP13 : Hid (RowKit.Below w2.heap.size w2 w13) := below_then HP12.out h13
  have HB1113 : Hid (RowKit.Below w11.heap.size w11 w13) := below_then HB1112.out h13
  clear hE hL hown h13 hC x0 x1 x2 x3
  -- Root
  obtain ⟨x0, x1, x2, x3⟩ := HPAR.out w13 HP13.out
  obtain ⟨w14, hw14⟩ : ∃ w14, w14 = w13.alloc (.cells #[.int .i64 1, .int .i64 2, .int .i64 3, .int .i64 31] 3) := ⟨_, rfl⟩
  have hl14 := rei_of [1, 2, 3, 31] hw14 rfl
  have HB14 : Hid (RowKit.Below w13.heap.size w13 w14) := by show RowKit.Below _ _ _; rw [hw14]; exact below_alloc _ _
  have hC := Root_any HP.out w14 _ [1, 2, 3, 31] 4 hl14 (by decide)
  go_wp2_with fail
  rw [← hw14]
  clear hw14
  refine hC.mono ?_
  rintro _ w15 ⟨E, ro, rc, L, hE, hL, rfl, hown, h15⟩
  obtain rfl : E = 0 := hE.trans (by kernel_rfl)
  obtain rfl : L = [0, 1, 0, 2, 0, 3, 0, 31] := hL.trans (by kernel_rfl)
  have HB15 : Hid (RowKit.Below w13.heap.size w13 w15) := below_then HB14.out h15
  have HP15 : Hid (RowKit.Below w2.heap.size w2 w15) := below_then HP13.out HB15.out
  have HR15 : Hid (Reb w15 ro [0, 1, 0, 2, 0, 3, 0, 31] rc) := hown.reb
  clear hE hL hown h15 hC x0 x1 x2 x3 hl14
  -- Buckets
  obtain ⟨x0, x1, x2, x3⟩ := HPAR.out w15 HP15.out
  have hC := Buckets_any HP.out w15 ro [0, 1, 0, 2, 0, 3, 0, 31] rc HR15.out
  go_wp2_with fail
  refine hC.mono ?_
  rintro _ w16 ⟨E, ko, kc, L, hE, hL, rfl, hown, h16⟩
  obtain rfl : E = 0 := hE.trans (by kernel_rfl)
  obtain rfl : L = [1, 2, 3, 31] := hL.trans (by kernel_rfl)
  have HB1516 : Hid (RowKit.Below w15.heap.size w15 w16) := h16
  have HB1116 : Hid (RowKit.Below w11.heap.size w11 w16) := below_then HB1113.out (below_then HB15.out h16)
  have HP16 : Hid (RowKit.Below w2.heap.size w2 w16) := below_then HP15.out h16
  have tb : (convert 25 9 (.slice bo 9 cb)).run Try.prog w16 = .ok (.string ⟨#[1, 97, 0, 5, 2, 97, 98, 0, 31]⟩) w16 := text_reb (HO1.out.below (below_then HB411.out HB1116.out))
  have tr : (convert 25 9 (.slice ro 8 rc)).run Try.prog w16 = .ok (.string ⟨#[0, 1, 0, 2, 0, 3, 0, 31]⟩) w16 := text_reb (HR15.out.below h16)
  obtain ⟨ga, oa, rfl, hc⟩ := (HO5.out.below HB1116.out).at_ (by decide)
  have a0 := (hc 0 (by decide)).1
  have a1 := (hc 1 (by decide)).2
  rw [show gN [A4, A3] 0 = [97] from rfl, Nat.zero_mul, Nat.add_zero] at a0
  rw [show gR [A4, A3] 1 = 1 from rfl, show oa + 1 * 2 + 1 = oa + 3 by omega] at a1
  obtain ⟨w17, hw17⟩ : ∃ w17, w17 = w16.alloc (.cells #[.int .i64 1, .int .i64 2, .int .i64 3, .int .i64 31] 3) := ⟨_, rfl⟩
  have hl17 := rei_of [1, 2, 3, 31] hw17 rfl
  have HB17 : Hid (RowKit.Below w16.heap.size w16 w17) := by show RowKit.Below _ _ _; rw [hw17]; exact below_alloc _ _
  have hC2 := SameI_any w17 ko _ [1, 2, 3, 31] [1, 2, 3, 31] kc 4 (hown.rei.below HB17.out) hl17 (by decide)
  rw [decide_eq_true rfl] at hC2
  clear hE hL hown h16 hC x0 x1 x2 x3 hc
  go_wp2_with fail
  rw [← hw17]
  clear hw17
  refine hC2.mono ?_
  rintro _ w18 ⟨rfl, h18⟩
  go_wp2
  go_ret
  exact ⟨rfl, below_then (below_then HB2.out HP16.out) (below_then HB17.out h18)⟩
end Go.Proofs.Ytfbfiecamaginaa
