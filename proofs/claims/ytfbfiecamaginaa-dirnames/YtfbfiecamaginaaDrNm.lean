/- DirNames' walk: many entries, a long name, zero bytes. -/
import Derived.Test.YtfbfiecamaginaaDrX
import Derived.Deep.OwnRows
namespace Go.Proofs.Ytfbfiecamaginaa
open Go.RowKit Go.Sort

def mnE (i : Nat) : En := ([UInt8.ofNat (i / 256), UInt8.ofNat (i % 256), 120], ((i % 8 : Nat) : Int))
def mnL (n : Nat) : List En := (List.range n).map mnE
theorem mn_length (n : Nat) : (mnL n).length = n := by simp [mnL]
theorem mn_succ (n : Nat) : mnL (n + 1) = mnL n ++ [mnE n] := by simp [mnL, List.range_succ]
set_option maxHeartbeats 1000000 in
set_option maxRecDepth 100000 in
theorem many_any (w : World) (n : Nat) (hn : n ≤ 1000) :
    Calls Try.prog 9 #[.int .i64 (n : Int)] w fun e' w' => ∃ bo cb L, L = mnL n ∧ e' = .returned (.slice bo L.length cb) ∧ OwE w.heap.size w' bo L cb ∧ RowKit.Below w.heap.size w w' := by
  have hn2 : (n : Int) ≤ 1000 := by omega
  go_enter Try.func9, Try.ntmps9
  go_wp2_with fail
  go_loopw [3, 4] (fun v x wr => ∃ (i : Nat) (bo : Option Addr) (cb : Nat) (L : List En), i ≤ n ∧ x = .int .i64 (i : Int) ∧ v = .slice bo L.length cb ∧ Hid (L = mnL i) ∧ Hid (OwE w.heap.size wr bo L cb) ∧ Hid (RowKit.Below w.heap.size w wr)) (fun _ x _ => n - (intOf x).toNat)
  case atStart => exact ⟨0, none, 0, [], Nat.zero_le _, rfl, rfl, rfl, owe_nil _ _, Below.refl _ _⟩
  case round =>
    obtain ⟨i, bo, cb, L, hi, rfl, rfl, hL, hown, hbel⟩ := hrel
    by_cases hlt : i < n
    · have HLL : Hid (L ++ [mnE i] = mnL (i + 1)) := by show _ = _; rw [mn_succ, hL.out]
      have hLn : L.length ≤ 1000 := by rw [hL.out, mn_length]; omega
      obtain ⟨a, ha⟩ : ∃ a : Nat, a = i / 256 := ⟨_, rfl⟩
      obtain ⟨b, hb⟩ : ∃ b : Nat, b = i % 256 := ⟨_, rfl⟩
      obtain ⟨c, hc⟩ : ∃ c : Nat, c = i % 8 := ⟨_, rfl⟩
      have HME : Hid (mnE i = ([UInt8.ofNat a, UInt8.ofNat b, 120], (c : Int))) := by show _ = _; rw [ha, hb, hc]; rfl
      have a2 : a < 256 := by omega
      have b2 : b < 256 := by omega
      have qa : (i : Int) / 256 = (a : Int) := by omega
      have qb : (i : Int) % 256 = (b : Int) := by omega
      have qc : (i : Int) % 8 = (c : Int) := by omega
      have ta : Int.tdiv (i : Int) 256 = (a : Int) := by rw [Int.tdiv_eq_ediv_of_nonneg (by omega)]; exact qa
      have tb : Int.tmod (i : Int) 256 = (b : Int) := by rw [Int.tmod_eq_emod_of_nonneg (by omega)]; exact qb
      have tc : Int.tmod (i : Int) 8 = (c : Int) := by rw [Int.tmod_eq_emod_of_nonneg (by omega)]; exact qc
      have wa : (a : Int) % 256 = (a : Int) := by omega
      have wb : (b : Int) % 256 = (b : Int) := by omega
      have i1 : (i : Int) < (n : Int) := by omega
      obtain ⟨w1, hw1⟩ : ∃ w1, w1 = wr.alloc (.cells #[.int .u8 (a : Int), .int .u8 (b : Int), .int .u8 120] 5) := ⟨_, rfl⟩
      have hl1 := reb_lit [UInt8.ofNat a, UInt8.ofNat b, 120] hw1 (by simp [bvl]; omega)
      have tx : (convert 25 9 (.slice (some ⟨wr.heap.size, 0, none⟩) 3 3)).run Try.prog w1 = .ok (.string ⟨[UInt8.ofNat a, UInt8.ofNat b, 120].toArray⟩) w1 := text_reb hl1
      have hs1 : w1.heap.size = wr.heap.size + 1 := by rw [hw1]; simp
      have hb1 : RowKit.Below wr.heap.size wr w1 := by rw [hw1]; exact below_alloc _ _
      obtain ⟨N, hN⟩ : ∃ N, N = [UInt8.ofNat a, UInt8.ofNat b, 120] := ⟨_, rfl⟩
      rw [← hN] at tx
      rw [hw1] at tx
      have HN : Hid (N = [UInt8.ofNat a, UInt8.ofNat b, 120]) := hN
      obtain ⟨w2, hw2⟩ : ∃ w2, w2 = w1.alloc (.cells #[.string ⟨N.toArray⟩, .int .i64 (c : Int)] 34) := ⟨_, rfl⟩
      have hl2 : Ren w2 (some ⟨w1.heap.size, 0, none⟩) [(N, (c : Int))] 1 := ren_lit N (c : Int) hw2
      rw [hs1] at hl2
      have hb2 : RowKit.Below wr.heap.size wr w2 := below_then hb1 (by rw [hw2]; exact below_alloc _ _)
      have HB2 : Hid (RowKit.Below w.heap.size w w2) := below_then hbel.out hb2
      have hown2 := hown.out.below hb2
      have hsz2 := HB2.out.size
      rw [hw1] at hw2
      clear ha hb hc hl1 hs1 hb1 hb2 hN hw1
      go_wp2_with (rw [← hw2]; at_builtin; refine append_ents (by rfl) (.tmp 10) (.tmp 22) (by rfl) w.heap.size cb 1 bo (some ⟨wr.heap.size + 1, 0, none⟩) L [(N, (c : Int))] (by rfl) (by rfl) hown2 hl2 (by simp; omega) hsz2 ?_; intro bo4 cb4 w4 L4 hL4 hown4 hg4; have HL4 : Hid (L4 = L ++ [(N, (c : Int))]) := hL4; clear hL4)
      go_roundw
      case rel => exact ⟨i + 1, bo4, cb4, L4, by omega, by go_num, rfl, by show _ = _; rw [← HLL.out, HL4.out, HME.out, HN.out], hown4, HB2.out.grown hg4 hsz2 hown2.ge⟩
      case measure => simp [intOf]; omega
    · obtain rfl : i = n := by omega
      go_wp2
      go_ret
      exact ⟨bo, cb, L, hL.out, rfl, hown.out, hbel.out⟩
theorem made_by (W : Nat) (hW : W ≤ 5000) (w : World) : (Instr.makeSlice 25 (.int .i64 (W : Int)) (.int .i64 (W : Int))).run Try.prog w = .ok (.slice (some ⟨w.heap.size, 0, none⟩) W W) (w.alloc (.cells (bvl (List.replicate W 0)).toArray 5)) := by
  have := run_make_row' (P := Try.prog) 25 5 (.int .u8 0) 1 Try.underlying25 info5 rfl .i64 .i64 W (by omega) (by omega) w
  rw [this]
  congr 2
  congr 1
  apply Array.ext'
  apply List.ext_getElem?
  intro i
  by_cases hi : i < W
  · simp [madeCells, hi, Nat.mod_one, bvl]
  · rw [List.getElem?_eq_none (by simp [madeCells]; omega), List.getElem?_eq_none (by simp [bvl]; omega)]
theorem rep_set : ∀ i, i < 25 → (List.replicate i (255 : UInt8) ++ List.replicate (25 - i) 0).set i 255 = List.replicate (i + 1) 255 ++ List.replicate (25 - (i + 1)) 0 := by decide
theorem zero_bad {b rest : List UInt8} {l : List En} {M : Nat} {q : Int} (hp : Prs b l rest) (hb : b ≠ []) (h0 : b.getD 0 0 = 0) (hM : ¬ M < b.length) : erB 0 M q b.length l rest = 220 := by
  cases l with
  | nil =>
    refine erB_cut hM ?_
    have : b = rest := hp.1
    rw [← this]; exact hb
  | cons x l =>
    refine erB_bad hM ?_
    obtain ⟨g1, _, _⟩ := hp.2.1 x (List.mem_cons_self ..)
    have h1 := h0
    rw [hp.1, bys_cons] at h1
    have h2 : UInt8.ofNat x.1.length = 0 := by simpa [byE] using h1
    have h3 : x.1.length = 0 := by
      have := congrArg UInt8.toNat h2
      rw [UInt8.toNat_ofNat'] at this
      simp at this
      omega
    refine mayE_no (i := 0) (by simp) ?_
    have : mayN (gN (x :: l) 0) = false := by
      have : gN (x :: l) 0 = x.1 := rfl
      rw [this]
      unfold mayN
      simp [h3]
    unfold okI oneE
    rw [this]
    rfl
def LONG : List UInt8 := List.replicate 25 255
def SHORT : List UInt8 := List.replicate 24 255
abbrev FILL (i : Nat) : List UInt8 := List.replicate i 255 ++ List.replicate (25 - i) 0
theorem fill_set (i : Nat) (h : i < 25) : (bvl (FILL i)).set i (.int .u8 255) = bvl (FILL (i + 1)) := by
  show _ = bvl (List.replicate (i + 1) 255 ++ List.replicate (25 - (i + 1)) 0)
  rw [← rep_set i h]
  unfold bvl
  rw [List.map_set]
  rfl
theorem few_nil0 : Few [] := few_mu rfl
theorem reb_24 {w : World} {g ca : Nat} (h : Reb w (some ⟨g, 0, none⟩) LONG ca) : Reb w (some ⟨g, 0, none⟩) SHORT ca := by
  have hr := Rev.room h
  obtain ⟨b, off, e, hc⟩ := Rev.rd h (by decide)
  cases e
  refine ⟨fun _ => ⟨_, _, rfl, fun j u hj => hc j u ?_⟩, (fun e => by cases e), Nat.le_trans (by decide) hr⟩
  have : bvl LONG = bvl SHORT ++ [.int .u8 255] := rfl
  rw [this]
  have hlt : j < (bvl SHORT).length := by
    rcases Nat.lt_or_ge j (bvl SHORT).length with h | h
    · exact h
    · rw [List.getElem?_eq_none h] at hj; cases hj
  rw [List.getElem?_append_left hlt]; exact hj
set_option maxHeartbeats 16000000 in
set_option maxRecDepth 100000 in
theorem names_law (w : World) : Calls Try.prog 3 #[] w fun e w' => e = .returned (.bool true) ∧ RowKit.Below w.heap.size w w' := by
  have HP : Hid (PP 1 0 32 8 (mst 32) 0) := pp_par (N := 1) (W := 32) (.inl ⟨rfl, rfl, rfl, rfl⟩)
  have hAL := alive_any w
  go_enter Try.func3, Try.ntmps3
  go_wp2_with fail
  refine hAL.mono ?_
  rintro _ w1 ⟨rfl, hb1⟩
  have HB1 : Hid (RowKit.Below w.heap.size w w1) := hb1
  clear hAL hb1
  obtain ⟨w2, hw2⟩ : ∃ w2, w2 = w1.alloc (.cells #[.int .i64 1, .int .i64 0, .int .i64 32, .int .i64 8] 24) := ⟨_, rfl⟩
  have HPAR0 : Hid (∀ v, RowKit.Below w2.heap.size w2 v → v.cell? ⟨w1.heap.size, 0, none⟩ = some (.int .i64 1) ∧ v.cell? ⟨w1.heap.size, 1, none⟩ = some (.int .i64 0) ∧ v.cell? ⟨w1.heap.size, 2, none⟩ = some (.int .i64 32) ∧ v.cell? ⟨w1.heap.size, 3, none⟩ = some (.int .i64 8)) := fun v hv => par_held hw2 hv
  have HB2 : Hid (RowKit.Below w.heap.size w w2) := by show RowKit.Below _ _ _; rw [hw2]; exact below_then HB1.out (below_alloc _ _)
  have hs2 : w2.heap.size = w1.heap.size + 1 := by rw [hw2]; simp
  obtain ⟨w3, hw3⟩ : ∃ w3, w3 = w2.alloc (.cells (bvl (List.replicate 25 0)).toArray 5) := ⟨_, rfl⟩
  have hOL : Ow w2.heap.size w3 5 1 (some ⟨w2.heap.size, 0, none⟩) 25 25 (bvl (List.replicate 25 0)) := by
    rw [hw3]
    exact World.ownsRow_lit w2 (bvl (List.replicate 25 0)).toArray 25 (Nat.le_refl _) (by decide) (by decide)
  have HB3 : Hid (RowKit.Below w2.heap.size w2 w3) := by show RowKit.Below _ _ _; rw [hw3]; exact below_alloc _ _
  have hmk : (Instr.makeSlice 25 (.int .i64 25) (.int .i64 25)).run Try.prog w2 = .ok (.slice (some ⟨w1.heap.size + 1, 0, none⟩) 25 25) w3 := by rw [hw3, ← hs2]; exact made_by 25 (by decide) w2
  rw [hs2] at hOL
  have HOL : Hid (Ow (w1.heap.size + 1) w3 5 1 (some ⟨w1.heap.size + 1, 0, none⟩) 25 25 (bvl (FILL 0))) := hOL
  rw [hw2] at hmk
  have HS2 : Hid (w2.heap.size = w1.heap.size + 1) := hs2
  clear hw2 hw3 hOL hs2
  go_wp2_with fail
  go_loopw [4] (fun x wr => ∃ i : Nat, i ≤ 25 ∧ x = .int .i64 (i : Int) ∧ Hid (Ow (w1.heap.size + 1) wr 5 1 (some ⟨w1.heap.size + 1, 0, none⟩) 25 25 (bvl (FILL i))) ∧ Hid (RowKit.Below w2.heap.size w2 wr)) (fun x _ => 25 - (intOf x).toNat)
  case atStart => exact ⟨0, Nat.zero_le _, rfl, HOL, HB3⟩
  case round =>
    obtain ⟨i, hi, rfl, ho, hbel⟩ := hrel
    have i1 : (0 : Int) ≤ (i : Int) := by omega
    by_cases hlt : i < 25
    · have i2 : (i : Int) < 25 := by omega
      have hvl : (bvl (FILL i)).length = 25 := by simp [bvl]; omega
      obtain ⟨v, c0⟩ : ∃ v, wr.cell? ⟨w1.heap.size + 1, i, none⟩ = some v := ⟨(bvl (FILL i))[i]'(by omega), by rw [World.ownsRow.cellAt ho.out i (by omega), List.getElem?_eq_getElem]⟩
      have f0 := World.ownsRow.frozenAt ho.out i
      have hst := (World.ownsRow.stored ho.out i (.int .u8 255)).1
      rw [fill_set i hlt] at hst
      have HO2 : Hid (Ow (w1.heap.size + 1) (wr.setCell ⟨w1.heap.size + 1, i, none⟩ (.int .u8 255)) 5 1 (some ⟨w1.heap.size + 1, 0, none⟩) 25 25 (bvl (FILL (i + 1)))) := hst
      have HB4 : Hid (RowKit.Below w2.heap.size w2 (wr.setCell ⟨w1.heap.size + 1, i, none⟩ (.int .u8 255))) := hbel.out.setCell (Nat.le_of_eq HS2.out) _
      clear hst hvl ho hbel
      go_wp2_with fail
      go_roundw
      case rel => exact ⟨i + 1, by omega, by go_num, HO2, HB4⟩
      case measure => simp [intOf]; omega
    · obtain rfl : i = 25 := by omega
      clear hlt hi i1
      have HB24 : Hid (RowKit.Below w2.heap.size w2 wr) := hbel
      have HPAR : Hid (∀ v, RowKit.Below wr.heap.size wr v → v.cell? ⟨w1.heap.size, 0, none⟩ = some (.int .i64 1) ∧ v.cell? ⟨w1.heap.size, 1, none⟩ = some (.int .i64 0) ∧ v.cell? ⟨w1.heap.size, 2, none⟩ = some (.int .i64 32) ∧ v.cell? ⟨w1.heap.size, 3, none⟩ = some (.int .i64 8)) := fun v hv => HPAR0.out v (below_then hbel.out hv)
      have hrl : Reb wr (some ⟨w1.heap.size + 1, 0, none⟩) LONG 25 := OwB.reb (show OwB (w1.heap.size + 1) wr (some ⟨w1.heap.size + 1, 0, none⟩) LONG 25 from ho.out)
      have HRL : Hid (∀ v, RowKit.Below wr.heap.size wr v → Reb v (some ⟨w1.heap.size + 1, 0, none⟩) LONG 25) := fun v hv => hrl.below hv
      have HF0 : Hid (RowKit.Below wr.heap.size wr wr) := Below.refl _ _
      clear ho hbel hrl HPAR0 HB3 HOL HS2
      -- many
      have hC : Calls Try.prog 9 #[.int .i64 106] wr _ := many_any wr 106 (by decide)
      go_wp2_with fail
      refine hC.mono ?_
      rintro _ w5 ⟨so, sc, S, hS, rfl, hom, hb⟩
      have HS : Hid (S = mnL 106) := hS
      have HF5 : Hid (RowKit.Below wr.heap.size wr w5) := hb
      have HRS : Hid (∀ v, RowKit.Below w5.heap.size w5 v → Ren v so S sc) := fun v hv => hom.ren.below hv
      have hmu : muE S = false := by rw [hS]; kernel_rfl
      clear hS hom hb hC
      obtain ⟨x0, x1, x2, x3⟩ := HPAR.out w5 HF5.out
      have hC := Bytes_go HP.out w5 so S sc (HRS.out w5 (Below.refl _ _)) (few_mu hmu)
      go_wp2_with fail
      refine hC.mono ?_
      rintro _ w6 ⟨E, bo, cb, L, hE, hL, rfl, hown, hb⟩
      obtain rfl : E = 0 := hE.trans (by rw [HS.out]; kernel_rfl)
      obtain ⟨n6, hn6⟩ : ∃ n, n = L.length := ⟨_, rfl⟩
      rw [← hn6]
      obtain rfl : n6 = 636 := by rw [hn6, hL, HS.out]; kernel_rfl
      have HG6 : Hid (RowKit.Below w5.heap.size w5 w6) := hb
      have HF6 : Hid (RowKit.Below wr.heap.size wr w6) := below_then HF5.out hb
      clear hn6 hE hL hown hb hC x0 x1 x2 x3
      -- one more: too many
      have hM : ∀ v, Calls Try.prog 9 #[.int .i64 107] v _ := fun v => many_any v 107 (by decide)
      obtain ⟨x0, x1, x2, x3⟩ := HPAR.out w6 HF6.out
      obtain ⟨y0, y1, y2, y3⟩ := HPAR.out w6.drew (below_then HF6.out (below_drew _ _))
      go_wp2_with fail
      go_region_held3 (fun w' => w'.cell? ⟨w1.heap.size, 0, none⟩ = some (.int .i64 1) ∧ w'.cell? ⟨w1.heap.size, 1, none⟩ = some (.int .i64 0) ∧ w'.cell? ⟨w1.heap.size, 2, none⟩ = some (.int .i64 32) ∧ w'.cell? ⟨w1.heap.size, 3, none⟩ = some (.int .i64 8)) (go_keep)
        ((first
          | (go_at_call 9; refine (hM _).mono ?_; rintro _ wa ⟨ao, ca, LM, hLM, rfl, hom, hba⟩; have HGa : Hid (RowKit.Below w6.heap.size w6 wa) := below_then (below_drew _ _) hba; have HLM : Hid (LM = mnL 107) := hLM; have HOM : Hid (Ren wa ao LM ca) := hom.ren; obtain ⟨z0, z1, z2, z3⟩ := HPAR.out wa (below_then HF6.out HGa.out); clear hLM hom hba)
          | (go_at_call 10; refine (Bytes_go HP.out _ _ LM _ HOM.out (by rw [HLM.out]; exact few_mu (by kernel_rfl))).mono ?_; rintro _ w7 ⟨E, bo7, cb7, LB, hE, hLB, rfl, hob, hbb⟩; obtain rfl : E = 3 := hE.trans (by rw [HLM.out]; kernel_rfl); have HG7 : Hid (RowKit.Below w6.heap.size w6 w7) := below_then HGa.out hbb; obtain ⟨u0, u1, u2, u3⟩ := HPAR.out w7 (below_then HF6.out HG7.out); clear hE hLB hob hbb)))
      have HF7 : Hid (RowKit.Below wr.heap.size wr w7) := below_then HF6.out HG7.out
      have HG57 : Hid (RowKit.Below w5.heap.size w5 w7) := below_then HG6.out HG7.out
      clear x0 x1 x2 x3 y0 y1 y2 y3 HGa HLM HOM z0 z1 z2 z3 u0 u1 u2 u3 hM
      obtain ⟨x0, x1, x2, x3⟩ := HPAR.out w7 HF7.out
      have hC := Add_any HP.out w7 so S sc (HRS.out w7 HG57.out) (few_mu hmu) [122, 122] 0 (few_ins hmu (by decide))
      go_wp2_with fail
      refine hC.mono ?_
      rintro _ w8 ⟨E, bo8, cb8, L8, hE, hL, rfl, hown, hb⟩
      obtain rfl : E = 3 := hE.trans (by rw [HS.out]; kernel_rfl)
      have HG58 : Hid (RowKit.Below w5.heap.size w5 w8) := below_then HG57.out hb
      clear hL hown
      have HF8 : Hid (RowKit.Below wr.heap.size wr w8) := below_then HF7.out hb
      clear hE hC x0 x1 x2 x3
      obtain ⟨x0, x1, x2, x3⟩ := HPAR.out w8 HF8.out
      have hC := Add_any HP.out w8 so S sc (HRS.out w8 HG58.out) (few_mu hmu) [122] 0 (few_ins hmu (by decide))
      go_wp2_with fail
      refine hC.mono ?_
      rintro _ w9 ⟨E, bo9, cb9, L9, hE, hL, rfl, hown, hb⟩
      obtain rfl : E = 0 := hE.trans (by rw [HS.out]; kernel_rfl)
      obtain ⟨n9, hn9⟩ : ∃ n, n = L9.length := ⟨_, rfl⟩
      rw [← hn9]
      obtain rfl : n9 = 107 := by rw [hn9, hL, HS.out]; kernel_rfl
      clear hn9 hL hown
      have HF9 : Hid (RowKit.Below wr.heap.size wr w9) := below_then HF8.out hb
      clear hE hC x0 x1 x2 x3
      clear hmu HRS HS HG58 HG57 HG6 HG7
      obtain ⟨Z, hZ⟩ : ∃ Z, Z = List.replicate 641 (0 : UInt8) := ⟨_, rfl⟩
      have hZl : Z.length = 641 := by rw [hZ, List.length_replicate]
      obtain ⟨wz, hwz⟩ : ∃ wz, wz = w9.drew.alloc (.cells (bvl Z).toArray 5) := ⟨_, rfl⟩
      have hmk : (Instr.makeSlice 25 (.int .i64 641) (.int .i64 641)).run Try.prog w9.drew = .ok (.slice (some ⟨w9.heap.size, 0, none⟩) 641 641) wz := by rw [hwz, hZ]; exact made_by 641 (by decide) w9.drew
      have hlz : Reb wz (some ⟨w9.heap.size, 0, none⟩) Z Z.length := reb_lit (w := w9.drew) Z hwz rfl
      rw [hZl] at hlz
      have HGz : Hid (RowKit.Below w9.heap.size w9 wz) := by show RowKit.Below _ _ _; rw [hwz]; exact below_then (below_drew _ _) (below_alloc _ _)
      obtain ⟨l, rest, hpr⟩ := prs_of Z
      have hCP := Parse_any HP.out wz _ Z 641 hlz (by rw [hZl]; decide) l rest hpr
      have hEZ : erB 0 (mst 32) 8 Z.length l rest = 3 := erB_big (by rw [hZl]; decide)
      rw [hZl] at hCP hEZ
      obtain ⟨x0, x1, x2, x3⟩ := HPAR.out w9 HF9.out
      obtain ⟨y0, y1, y2, y3⟩ := HPAR.out w9.drew (below_then HF9.out (below_drew _ _))
      obtain ⟨z0, z1, z2, z3⟩ := HPAR.out wz (below_then HF9.out HGz.out)
      have HEZ : Hid _ := hEZ
      clear hwz hZ hZl hlz hpr hEZ
      go_wp2_with fail
      go_region_held3 (fun w' => w'.cell? ⟨w1.heap.size, 0, none⟩ = some (.int .i64 1) ∧ w'.cell? ⟨w1.heap.size, 1, none⟩ = some (.int .i64 0) ∧ w'.cell? ⟨w1.heap.size, 2, none⟩ = some (.int .i64 32) ∧ w'.cell? ⟨w1.heap.size, 3, none⟩ = some (.int .i64 8)) (go_keep)
        ((go_at_call 12; refine hCP.mono ?_; rintro _ w10 ⟨E, bo10, cb10, L10, hE, hL, rfl, hown, hb⟩; obtain rfl : E = 3 := hE.trans HEZ.out; have HG : Hid (RowKit.Below w9.heap.size w9 w10) := below_then HGz.out hb; obtain ⟨u0, u1, u2, u3⟩ := HPAR.out w10 (below_then HF9.out HG.out); clear hE hL hown hb))
      have HF10 : Hid (RowKit.Below wr.heap.size wr w10) := below_then HF9.out HG.out
      clear x0 x1 x2 x3 y0 y1 y2 y3 z0 z1 z2 z3 u0 u1 u2 u3 HG HGz hCP HEZ hmk
      obtain ⟨Z, hZ⟩ : ∃ Z, Z = List.replicate 640 (0 : UInt8) := ⟨_, rfl⟩
      have hZl : Z.length = 640 := by rw [hZ, List.length_replicate]
      obtain ⟨wz, hwz⟩ : ∃ wz, wz = w10.drew.alloc (.cells (bvl Z).toArray 5) := ⟨_, rfl⟩
      have hmk : (Instr.makeSlice 25 (.int .i64 640) (.int .i64 640)).run Try.prog w10.drew = .ok (.slice (some ⟨w10.heap.size, 0, none⟩) 640 640) wz := by rw [hwz, hZ]; exact made_by 640 (by decide) w10.drew
      have hlz : Reb wz (some ⟨w10.heap.size, 0, none⟩) Z Z.length := reb_lit (w := w10.drew) Z hwz rfl
      rw [hZl] at hlz
      have HGz : Hid (RowKit.Below w10.heap.size w10 wz) := by show RowKit.Below _ _ _; rw [hwz]; exact below_then (below_drew _ _) (below_alloc _ _)
      obtain ⟨l, rest, hpr⟩ := prs_of Z
      have hCP := Parse_any HP.out wz _ Z 640 hlz (by rw [hZl]; decide) l rest hpr
      have hEZ : erB 0 (mst 32) 8 Z.length l rest = 220 := zero_bad hpr (by rw [hZ]; decide) (by rw [hZ]; rfl) (by rw [hZl]; decide)
      rw [hZl] at hCP hEZ
      obtain ⟨x0, x1, x2, x3⟩ := HPAR.out w10 HF10.out
      obtain ⟨y0, y1, y2, y3⟩ := HPAR.out w10.drew (below_then HF10.out (below_drew _ _))
      obtain ⟨z0, z1, z2, z3⟩ := HPAR.out wz (below_then HF10.out HGz.out)
      have HEZ : Hid _ := hEZ
      clear hwz hZ hZl hlz hpr hEZ
      go_wp2_with fail
      go_region_held3 (fun w' => w'.cell? ⟨w1.heap.size, 0, none⟩ = some (.int .i64 1) ∧ w'.cell? ⟨w1.heap.size, 1, none⟩ = some (.int .i64 0) ∧ w'.cell? ⟨w1.heap.size, 2, none⟩ = some (.int .i64 32) ∧ w'.cell? ⟨w1.heap.size, 3, none⟩ = some (.int .i64 8)) (go_keep)
        ((go_at_call 12; refine hCP.mono ?_; rintro _ w11 ⟨E, bo11, cb11, L11, hE, hL, rfl, hown, hb⟩; obtain rfl : E = 220 := hE.trans HEZ.out; have HG : Hid (RowKit.Below w10.heap.size w10 w11) := below_then HGz.out hb; obtain ⟨u0, u1, u2, u3⟩ := HPAR.out w11 (below_then HF10.out HG.out); clear hE hL hown hb))
      have HF11 : Hid (RowKit.Below wr.heap.size wr w11) := below_then HF10.out HG.out
      clear x0 x1 x2 x3 y0 y1 y2 y3 z0 z1 z2 z3 u0 u1 u2 u3 HG HGz hCP HEZ hmk
      obtain ⟨x0, x1, x2, x3⟩ := HPAR.out w11 HF11.out
      have tx : (convert 25 9 (.slice (some ⟨w1.heap.size + 1, 0, none⟩) 25 25)).run Try.prog w11 = .ok (.string ⟨LONG.toArray⟩) w11 := text_reb (HRL.out w11 HF11.out)
      have hC := Add_any HP.out w11 none [] 0 (owe_nil 0 _).ren few_nil0 LONG 0 (few_ins rfl (by decide))
      go_wp2_with fail
      refine hC.mono ?_
      rintro _ w12 ⟨E, bo12, cb12, L12, hE, hL, rfl, hown, hb⟩
      obtain rfl : E = 220 := hE.trans (by kernel_rfl)
      clear hL hown
      clear tx
      have HF12 : Hid (RowKit.Below wr.heap.size wr w12) := below_then HF11.out hb
      clear hE hC x0 x1 x2 x3
      have HFd : Hid (RowKit.Below wr.heap.size wr w12.drew) := below_then HF12.out (below_drew _ _)
      obtain ⟨x0, x1, x2, x3⟩ := HPAR.out w12 HF12.out
      obtain ⟨y0, y1, y2, y3⟩ := HPAR.out w12.drew HFd.out
      have ty : (convert 25 9 (.slice (some ⟨w1.heap.size + 1, 0, none⟩) 24 25)).run Try.prog w12.drew = .ok (.string ⟨SHORT.toArray⟩) w12.drew := text_reb (reb_24 (HRL.out w12.drew HFd.out))
      have hC := Add_any HP.out w12.drew none [] 0 (owe_nil 0 _).ren few_nil0 SHORT 7 (few_ins rfl (by decide))
      have HTY : Hid (∀ u, RowKit.Below wr.heap.size wr u → (convert 25 9 (.slice (some ⟨w1.heap.size + 1, 0, none⟩) 24 25)).run Try.prog u = .ok (.string ⟨SHORT.toArray⟩) u) := fun u hu => text_reb (reb_24 (HRL.out u hu))
      go_wp2_with fail
      go_region_held3 (fun w' => w'.cell? ⟨w1.heap.size, 0, none⟩ = some (.int .i64 1) ∧ w'.cell? ⟨w1.heap.size, 1, none⟩ = some (.int .i64 0) ∧ w'.cell? ⟨w1.heap.size, 2, none⟩ = some (.int .i64 32) ∧ w'.cell? ⟨w1.heap.size, 3, none⟩ = some (.int .i64 8) ∧ (convert 25 9 (.slice (some ⟨w1.heap.size + 1, 0, none⟩) 24 25)).run Try.prog w' = .ok (.string ⟨SHORT.toArray⟩) w') (first | go_keep | (refine ⟨by assumption, by assumption, by assumption, by assumption, ?_⟩; exact HTY.out _ (by assumption)) | exact ⟨y0, y1, y2, y3, ty⟩ | exact ⟨u0, u1, u2, u3, uy⟩)
        ((go_at_call 11; refine hC.mono ?_; rintro _ w13 ⟨E, bo13, cb13, L13, hE, hL, rfl, hown, hb⟩; obtain rfl : E = 0 := hE.trans (by kernel_rfl); have HG : Hid (RowKit.Below w12.drew.heap.size w12.drew w13) := hb; obtain ⟨n13, hn13⟩ : ∃ n, n = L13.length := ⟨_, rfl⟩; rw [← hn13]; obtain rfl : n13 = 1 := (by rw [hn13, hL]; kernel_rfl); obtain ⟨u0, u1, u2, u3⟩ := HPAR.out w13 (below_then HFd.out HG.out); have uy := HTY.out w13 (below_then HFd.out HG.out); clear hn13 hL hown hb hE))
      have HF13 : Hid (RowKit.Below wr.heap.size wr w13) := below_then HFd.out HG.out
      clear HG HFd HTY uy u0 u1 u2 u3 y0 y1 y2 y3 ty hC x0 x1 x2 x3
      obtain ⟨x0, x1, x2, x3⟩ := HPAR.out w13 HF13.out
      have hC := Add_any HP.out w13 none [] 0 (owe_nil 0 _).ren few_nil0 [97] 8 (few_ins rfl (by decide))
      go_wp2_with fail
      refine hC.mono ?_
      rintro _ w14 ⟨E, bo14, cb14, L14, hE, hL, rfl, hown, hb⟩
      obtain rfl : E = 220 := hE.trans (by kernel_rfl)
      clear hL hown
      have HF14 : Hid (RowKit.Below wr.heap.size wr w14) := below_then HF13.out hb
      clear hE hC x0 x1 x2 x3
      obtain ⟨x0, x1, x2, x3⟩ := HPAR.out w14 HF14.out
      obtain ⟨v15, hlw⟩ : ∃ v, v = w14.alloc (.cells #[.string ⟨#[98]⟩, .int .i64 0, .string ⟨#[97]⟩, .int .i64 0] 34) := ⟨_, rfl⟩
      have hll := ren_of [([98], 0), ([97], 0)] hlw rfl
      have HL15 : Hid (RowKit.Below w14.heap.size w14 v15) := by show RowKit.Below _ _ _; rw [hlw]; exact below_alloc _ _
      have hC := Add_any HP.out v15 _ [([98], 0), ([97], 0)] 2 hll (few_mu rfl) [] 0 (few_ins rfl (by decide))
      go_wp2_with fail
      rw [← hlw]
      clear hlw
      refine hC.mono ?_
      rintro _ w15 ⟨E, bo15, cb15, L15, hE, hL, rfl, hown, hb⟩
      obtain rfl : E = 220 := hE.trans (by kernel_rfl)
      have HF15 : Hid (RowKit.Below wr.heap.size wr w15) := below_then (below_then HF14.out HL15.out) hb
      clear hL hown hb hE hC hll HL15 x0 x1 x2 x3
      obtain ⟨x0, x1, x2, x3⟩ := HPAR.out w15 HF15.out
      have tx : (convert 25 9 (.slice (some ⟨w1.heap.size + 1, 0, none⟩) 25 25)).run Try.prog w15 = .ok (.string ⟨LONG.toArray⟩) w15 := text_reb (HRL.out w15 HF15.out)
      have hC := Find_any HP.out w15 none [] 0 (owe_nil 0 _).ren few_nil0 LONG
      go_wp2_with fail
      refine hC.mono ?_
      rintro _ w16 ⟨E, hE, rfl, hb⟩
      obtain rfl : E = 6 := hE.trans (by kernel_rfl)
      rw [show fiR 6 [] LONG = 0 by kernel_rfl, show asI 6 [] LONG = false by kernel_rfl]
      clear tx
      have HF16 : Hid (RowKit.Below wr.heap.size wr w16) := below_then HF15.out hb
      clear hE hC x0 x1 x2 x3
      obtain ⟨x0, x1, x2, x3⟩ := HPAR.out w16 HF16.out
      have hC := Remove_any HP.out w16 none [] 0 (owe_nil 0 _).ren few_nil0 [97]
      go_wp2_with fail
      refine hC.mono ?_
      rintro _ w17 ⟨E, bo17, cb17, L17, hE, hL, rfl, hown, hb⟩
      obtain rfl : E = 8 := hE.trans (by kernel_rfl)
      clear hL hown
      have HF17 : Hid (RowKit.Below wr.heap.size wr w17) := below_then HF16.out hb
      clear hE hC x0 x1 x2 x3
      obtain ⟨x0, x1, x2, x3⟩ := HPAR.out w17 HF17.out
      obtain ⟨v18, hlw⟩ : ∃ v, v = w17.alloc (.cells #[.int .i64 0, .int .i64 1, .int .i64 2, .int .i64 8] 3) := ⟨_, rfl⟩
      have hll := rei_of [0, 1, 2, 8] hlw rfl
      have HL18 : Hid (RowKit.Below w17.heap.size w17 v18) := by show RowKit.Below _ _ _; rw [hlw]; exact below_alloc _ _
      have hC := Root_any HP.out v18 _ [0, 1, 2, 8] 4 hll (by decide)
      go_wp2_with fail
      rw [← hlw]
      clear hlw
      refine hC.mono ?_
      rintro _ w18 ⟨E, bo18, cb18, L18, hE, hL, rfl, hown, hb⟩
      obtain rfl : E = 220 := hE.trans (by kernel_rfl)
      have HF18 : Hid (RowKit.Below wr.heap.size wr w18) := below_then (below_then HF17.out HL18.out) hb
      clear hL hown hb hE hC hll HL18 x0 x1 x2 x3
      obtain ⟨x0, x1, x2, x3⟩ := HPAR.out w18 HF18.out
      obtain ⟨v19, hlw⟩ : ∃ v, v = w18.alloc (.cells #[.int .u8 0, .int .u8 0, .int .u8 0, .int .u8 1, .int .u8 0, .int .u8 2, .int .u8 0, .int .u8 8] 5) := ⟨_, rfl⟩
      have hll := reb_lit [0, 0, 0, 1, 0, 2, 0, 8] hlw rfl
      have HL19 : Hid (RowKit.Below w18.heap.size w18 v19) := by show RowKit.Below _ _ _; rw [hlw]; exact below_alloc _ _
      have hC := Buckets_any HP.out v19 _ [0, 0, 0, 1, 0, 2, 0, 8] 8 hll
      go_wp2_with fail
      rw [← hlw]
      clear hlw
      refine hC.mono ?_
      rintro _ w19 ⟨E, bo19, cb19, L19, hE, hL, rfl, hown, hb⟩
      obtain rfl : E = 220 := hE.trans (by kernel_rfl)
      have HF19 : Hid (RowKit.Below wr.heap.size wr w19) := below_then (below_then HF18.out HL19.out) hb
      clear hL hown hb hE hC hll HL19 x0 x1 x2 x3
      obtain ⟨x0, x1, x2, x3⟩ := HPAR.out w19 HF19.out
      obtain ⟨v20, hlw⟩ : ∃ v, v = w19.alloc (.cells #[.int .u8 0, .int .u8 0, .int .u8 0, .int .u8 1, .int .u8 0, .int .u8 2, .int .u8 1, .int .u8 0] 5) := ⟨_, rfl⟩
      have hll := reb_lit [0, 0, 0, 1, 0, 2, 1, 0] hlw rfl
      have HL20 : Hid (RowKit.Below w19.heap.size w19 v20) := by show RowKit.Below _ _ _; rw [hlw]; exact below_alloc _ _
      have hC := Buckets_any HP.out v20 _ [0, 0, 0, 1, 0, 2, 1, 0] 8 hll
      go_wp2_with fail
      rw [← hlw]
      clear hlw
      refine hC.mono ?_
      rintro _ w20 ⟨E, bo20, cb20, L20, hE, hL, rfl, hown, hb⟩
      obtain rfl : E = 220 := hE.trans (by kernel_rfl)
      have HF20 : Hid (RowKit.Below wr.heap.size wr w20) := below_then (below_then HF19.out HL20.out) hb
      clear hL hown hb hE hC hll HL20 x0 x1 x2 x3
      go_wp2
      go_ret
      exact ⟨rfl, below_then HB2.out (below_then HB24.out HF20.out)⟩
end Go.Proofs.Ytfbfiecamaginaa
