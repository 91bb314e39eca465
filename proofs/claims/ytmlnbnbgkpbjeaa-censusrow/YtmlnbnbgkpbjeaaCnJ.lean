/- The drives that miss a version; the fixed answer that each statement asks first. -/
import Derived.Test.YtmlnbnbgkpbjeaaCnI
namespace Go.Proofs.Ytmlnbnbgkpbjeaa
open Go.RowKit Go.Maps Go.ChangeShapes

set_option maxHeartbeats 4000000 in
set_option maxRecDepth 100000 in
theorem Missing_any {k r c q : Int} {N W : Nat} {x : Int} (h : Par k r c q N W x) (w : World) (ro : Option Addr) (rn rc : Nat) (A : Nat → Option Addr) (L C : Nat → Nat) (F : Nat → Nat → UInt8) (hr : Rw w ro rn A L C F) (E : Int) (hE : erR x N c rn L = E) (v : Int) (M : Int) (hM : erF E v = M) (zs : List Int) (hzs : (if M = 0 then dl (fun d => !hbv (hP N c L F) (hQ N c L F) v d) N else []) = zs) :
    Calls Try.prog 16 #[.agg #[.int .i64 k, .int .i64 r, .int .i64 c, .int .i64 q], .slice ro rn rc, .int .i64 v] w (AnsI w M zs) := by
  obtain ⟨w0, hw0⟩ : ∃ w0, w0 = w.alloc (.cells #[.int .i64 k, .int .i64 r, .int .i64 c, .int .i64 q] 23) := ⟨_, rfl⟩
  have b0 : Below w.heap.size w w0 := by rw [hw0]; exact below_alloc _ _
  have HH := holdings_any h w0 ro rn rc A L C F (hr.below b0) E hE
  unfold AnsH at HH
  have hle := h.le
  clear hr hE h
  generalize hP N c L F = P at *
  generalize hQ N c L F = Q at *
  have HHS := fun u a b => has_any u a b v
  obtain ⟨i0, hi0, hz0, hz1, hz2⟩ := info_parts info3
  unfold AnsI
  by_cases e0 : E = 0
  · subst e0
    rw [show lenE 0 N = N from rfl] at HH
    by_cases hv : 1 ≤ v ∧ v ≤ 1073741824
    · obtain rfl : M = 0 := by rw [← hM]; unfold erF; rw [if_pos rfl, if_pos hv]
      rw [if_pos rfl] at hzs
      have HZ : Hid (dl (fun d => !hbv P Q v d) N = zs) := hzs
      have v1 : ¬ v < 1 := by omega
      have v2 : ¬ 1073741824 < v := by omega
      clear hzs hM hv
      go_enter Try.func16, Try.ntmps16
      go_wp2_with fail
      rw [← hw0]
      refine HH.mono ?_
      rintro e wa ⟨a, cap, rfl, hh, ha⟩
      have HT : Hid (Hol w0.heap.size wa a N cap P Q) := hh
      have BA : Hid (Below w.heap.size w wa) := below_then b0 ha
      clear hh ha b0 hw0 HH
      go_wp2_with fail
      go_loopw [10, 32] (fun l y wr => ∃ (i : Nat) (a2 : Option Addr) (n2 cap2 : Nat), i ≤ N ∧ y = .int .i64 (i : Int) ∧ l = .slice a2 n2 cap2 ∧ n2 ≤ i ∧ Hid (wr.ownsInts wa.heap.size 3 .i64 (.slice a2 n2 cap2) (dl (fun d => !hbv P Q v d) i)) ∧ Hid (Below wa.heap.size wa wr)) (fun _ y _ => N - (intOf y).toNat)
      case atStart => exact ⟨0, none, 0, 0, Nat.zero_le _, rfl, rfl, Nat.le_refl _, World.ownsInts_nil _ _ _ _, Below.refl _ _⟩
      case round =>
        obtain ⟨i, a2, n2, cap2, hi, rfl, rfl, hn2, hown, hbw⟩ := hrel
        by_cases hlt : i < N
        · obtain ⟨g, rfl, _, hgl⟩ := HT.out.at_ (by omega)
          have c0 : wr.cell? ⟨g, i * 2, none⟩ = some (.int .i64 (P i)) := (hbw.out.cell hgl).trans (HT.out.c0 hlt)
          have c1 : wr.cell? ⟨g, i * 2 + 1, none⟩ = some (.int .i64 (Q i)) := (hbw.out.cell hgl).trans (HT.out.c1 hlt)
          have i1 : (0 : Int) ≤ (i : Int) := by omega
          have i2 : (i : Int) < (N : Int) := by omega
          obtain ⟨wd, hwd⟩ : ∃ wd, wd = wr.alloc (.cells #[.int .i64 (P i), .int .i64 (Q i)] 62) := ⟨_, rfl⟩
          have BD : Hid (Below wa.heap.size wa wd) := by show Below _ _ _; rw [hwd]; exact b_alloc hbw.out _
          have OD : Hid (wd.ownsInts wa.heap.size 3 .i64 (.slice a2 n2 cap2) (dl (fun d => !hbv P Q v d) i)) := by show World.ownsInts _ _ _ _ _ _; rw [hwd]; exact hown.out.alloc _
          have HX := HHS wd (P i) (Q i)
          cases hb : hbv P Q v i
          · rw [show decide (P i = v ∨ Q i = v) = false from hb] at HX
            go_wp2_with fail
            rw [← hwd]
            clear hwd c0 c1
            refine HX.mono ?_
            rintro e we ⟨rfl, hwe⟩
            have BE2 : Hid (Below wa.heap.size wa we) := below_step BD.out hwe BD.out.size
            have OE := ownsInts_below OD.out hwe
            clear hwe HX
            have HLL : Hid (n2 = (dl (fun d => !hbv P Q v d) i).length) := ints_len OE
            have hl2 : (dl (fun d => !hbv P Q v d) i).length ≤ 32 := by rw [← HLL.out]; omega
            go_wp2_with (first
              | (at_builtin; refine wpList_append_own_at _ rfl _ _ 33 rfl wa.heap.size 3 i0 (.int .i64 0) 1 8 Try.underlying33 hi0 hz0 hz1 hz2 rfl (by decide) _ _ _ rfl (OE.1.alloc _) ⟨we.heap.size, 0, none⟩ 1 1 [.int .i64 (i : Int)] rfl rfl (cell_one_new _ _ _) (ints_oneCell .i64 [(i : Int)]) (by unfold maxLen; omega) (by omega) (by have := BE2.out.size; simp; omega) ?_; intro v' w2 hown2 hgrow hnil hloc)
              | go_in)
            obtain ⟨a3, cap3, rfl⟩ := own_form hown2
            have hap := OE.appended hown2 (WalkArith.wf_i64 (by omega))
            have hll := HLL.out
            rw [← hll] at hap
            go_roundw
            case rel =>
              refine ⟨i + 1, a3, n2 + 1, cap3, by omega, by go_num, by rw [← hll], by omega, ?_, ?_⟩
              · show World.ownsInts _ _ _ _ _ _
                rw [dl, hb, if_pos (by rfl)]; exact hap
              · exact (b_alloc BE2.out _).grown hgrow (by have := BE2.out.size; simp; omega) (fun j hj => (OE.1.lt j hj).1)
            case measure => simp [intOf]; omega
          · rw [show decide (P i = v ∨ Q i = v) = true from hb] at HX
            go_wp2_with fail
            rw [← hwd]
            clear hwd c0 c1
            refine HX.mono ?_
            rintro e we ⟨rfl, hwe⟩
            have BE2 : Hid (Below wa.heap.size wa we) := below_step BD.out hwe BD.out.size
            have OE : Hid (we.ownsInts wa.heap.size 3 .i64 (.slice a2 n2 cap2) (dl (fun d => !hbv P Q v d) i)) := ownsInts_below OD.out hwe
            clear hwe HX
            go_wp2_with fail
            go_roundw
            case rel =>
              refine ⟨i + 1, a2, n2, cap2, by omega, by go_num, rfl, by omega, ?_, BE2.out⟩
              show World.ownsInts _ _ _ _ _ _
              rw [dl, hb, if_neg (by decide)]; exact OE.out
            case measure => simp [intOf]; omega
        · obtain rfl : i = N := by omega
          obtain rfl : zs = dl (fun d => !hbv P Q v d) i := HZ.out.symm
          go_wp2_with fail
          go_ret2
          have hll := ints_len hown.out
          refine ⟨a2, cap2, by rw [← hll]; rfl, ?_, below_step BA.out hbw.out BA.out.size⟩
          rw [← hll]; exact ints_mono hown.out BA.out.size
    · obtain rfl : M = 2 := by rw [← hM]; unfold erF; rw [if_pos rfl, if_neg hv]
      rw [if_neg (by decide)] at hzs
      subst hzs
      clear hM
      by_cases v1 : v < 1
      · clear hv
        go_enter Try.func16, Try.ntmps16
        go_wp2_with fail
        rw [← hw0]
        refine HH.mono ?_
        rintro e wa ⟨a, cap, rfl, hh, ha⟩
        have BA : Hid (Below w.heap.size w wa) := below_then b0 ha
        clear hh ha b0 hw0 HH
        go_wp2_with fail
        go_ret2
        exact ⟨none, 0, rfl, World.ownsInts_nil _ _ _ _, BA.out⟩
      · have v2 : 1073741824 < v := by omega
        clear hv
        go_enter Try.func16, Try.ntmps16
        go_wp2_with fail
        rw [← hw0]
        refine HH.mono ?_
        rintro e wa ⟨a, cap, rfl, hh, ha⟩
        have BA : Hid (Below w.heap.size w wa) := below_then b0 ha
        clear hh ha b0 hw0 HH
        go_wp2_with fail
        go_ret2
        exact ⟨none, 0, rfl, World.ownsInts_nil _ _ _ _, BA.out⟩
  · have hq : (E != 0) = true := by simpa using e0
    obtain rfl : E = M := by rw [← hM]; unfold erF; rw [if_neg e0]
    rw [if_neg e0] at hzs
    subst hzs
    rw [show lenE E N = 0 from if_neg e0] at HH
    clear hM
    go_enter Try.func16, Try.ntmps16
    go_wp2_with fail
    rw [← hw0]
    refine HH.mono ?_
    rintro e wa ⟨a, cap, rfl, hh, ha⟩
    have BA : Hid (Below w.heap.size w wa) := below_then b0 ha
    clear hh ha b0 hw0 HH
    go_wp2_with fail
    go_ret2
    exact ⟨none, 0, rfl, World.ownsInts_nil _ _ _ _, BA.out⟩
theorem par0 : Par 2 1 16 8 3 32 0 := .inl ⟨by decide, by decide, by decide, rfl⟩
def z6 : Array Value := #[.slice none 0 0, .slice none 0 0, .slice none 0 0, .slice none 0 0, .slice none 0 0, .slice none 0 0]
theorem info47 : (Try.prog.info? 47).map (fun i => (i.zero, i.size, i.bytes)) = some (some (.agg #[.slice none 0 0, .slice none 0 0]), 2, 48) := by kernel_rfl
theorem mk_pairs (w : World) : (Instr.makeSlice 24 (.int .i64 3) (.int .i64 3)).run Try.prog w = .ok (.slice (some ⟨w.heap.size, 0, none⟩) 3 3) (w.alloc (.cells z6 47)) := by
  obtain ⟨i0, hi, hi0, hi1, hi2⟩ := info_parts info47
  have h := run_makeSlice (P := Try.prog) w 24 47 i0 (.agg #[.slice none 0 0, .slice none 0 0]) Try.underlying24 hi hi0 .i64 .i64 3 3 (by decide) (by decide) (by rw [hi1]; decide) (by rw [hi2]; decide) (by decide)
  rw [hi1, show madeCells (Value.agg #[Value.slice none 0 0, Value.slice none 0 0]).cells (Int.toNat 3 * 2) = z6 from by kernel_rfl] at h
  exact h
theorem hs_none (N : Nat) (c : Int) (ix : Nat) (F : Nat → UInt8) : hs N c ix 0 F = 0 := by
  unfold hs; rw [he_blank, ofK_z]; rfl
theorem blank_no {N : Nat} {c : Int} {L : Nat → Nat} {F : Nat → Nat → UInt8} {i : Nat} (h0 : L (2 * i) = 0) (h1 : L (2 * i + 1) = 0) : hP N c L F i = 0 ∧ hQ N c L F i = 0 := by
  have e0 : hP N c L F i = 0 := by unfold hP; rw [h0, hs_none]
  have e1 : hR N c L F i = 0 := by unfold hR; rw [h1, hs_none]
  refine ⟨e0, ?_⟩
  unfold hQ onc
  rw [e0, e1]; rfl
set_option maxHeartbeats 1000000 in
set_option maxRecDepth 100000 in
theorem awake_any (w : World) : Calls Try.prog 6 #[] w fun e w' => e = .returned (.bool true) ∧ Below w.heap.size w w' := by
  have hmk := mk_pairs w
  obtain ⟨w1, hw1⟩ : ∃ w1, w1 = w.alloc (.cells z6 47) := ⟨_, rfl⟩
  have b1 : Below w.heap.size w w1 := by rw [hw1]; exact below_alloc _ _
  have hcell : ∀ j, j < 6 → w1.cell? ⟨w.heap.size, j, none⟩ = some (.slice none 0 0) := fun j hj => by
    refine blk_held hw1 (Below.refl _ _) j ?_
    rcases (show j = 0 ∨ j = 1 ∨ j = 2 ∨ j = 3 ∨ j = 4 ∨ j = 5 by omega) with rfl | rfl | rfl | rfl | rfl | rfl <;> rfl
  have hrw : Rw w1 (some ⟨w.heap.size, 0, none⟩) 3 (fun _ => none) (fun _ => 0) (fun _ => 0) (fun _ _ => 0) := by
    refine ⟨fun _ => ⟨w.heap.size, 0, rfl, fun i hi => ⟨?_, ?_⟩⟩, fun j _ => bec_nil _ _⟩
    · rw [Nat.zero_add]; exact hcell _ (by omega)
    · rw [Nat.zero_add]; exact hcell _ (by omega)
  have hz : ∀ i, (!hbv (hP 3 16 (fun _ => 0) (fun _ _ => 0)) (hQ 3 16 (fun _ => 0) (fun _ _ => 0)) 5 i) = true := fun i => by
    have h := blank_no (N := 3) (c := 16) (L := fun _ => 0) (F := fun _ _ => 0) (i := i) rfl rfl
    unfold hbv
    rw [h.1, h.2]; rfl
  have HX := Missing_any par0 w1 (some ⟨w.heap.size, 0, none⟩) 3 3 _ _ _ _ hrw 0 (by decide) 5 0 (by decide) _ rfl
  rw [if_pos rfl] at HX
  obtain ⟨zs, hzs⟩ : ∃ zs, zs = dl (fun d => !hbv (hP 3 16 (fun _ => 0) (fun _ _ => 0)) (hQ 3 16 (fun _ => 0) (fun _ _ => 0)) 5 d) 3 := ⟨_, rfl⟩
  rw [← hzs] at HX
  have hl : zs.length = 3 := by
    rw [hzs, dl, if_pos (hz 2), dl, if_pos (hz 1), dl, if_pos (hz 0), dl]; rfl
  clear hzs hz hrw hcell
  unfold AnsI at HX
  rw [hl] at HX
  rw [← hw1] at hmk
  clear hw1
  go_enter Try.func6, Try.ntmps6
  go_wp2_with fail
  refine HX.mono ?_
  rintro e wa ⟨a, cap, rfl, _, ha⟩
  have BA : Hid (Below w.heap.size w wa) := below_then b1 ha
  clear ha b1 HX hmk
  go_wp2_with fail
  go_ret
  exact ⟨rfl, BA.out⟩
end Go.Proofs.Ytmlnbnbgkpbjeaa
