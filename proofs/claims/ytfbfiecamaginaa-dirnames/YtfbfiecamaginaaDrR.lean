/- Buckets, by both. -/
import Derived.Test.YtfbfiecamaginaaDrQ
namespace Go.Proofs.Ytfbfiecamaginaa
open Go.RowKit Go.Sort

theorem rei_lit {w w0 : World} (v : Int) (h0 : w0 = w.alloc (.cells #[.int .i64 v] 3)) : Rei w0 (some ⟨w.heap.size, 0, none⟩) [v] 1 := by
  refine ⟨fun _ => ⟨_, _, rfl, fun j u hj => ?_⟩, (fun e => by cases e), Nat.le_refl _⟩
  rw [Nat.zero_add]
  refine blk_held h0 (Below.refl _ _) j ?_
  have : ivl [v] = [.int .i64 v] := rfl
  rw [this] at hj
  simpa using hj
theorem rws_take {b : List UInt8} {i : Nat} (h : i < 4) : (rws b).take (i + 1) = (rws b).take i ++ [rwB b i] := by
  rcases (show i = 0 ∨ i = 1 ∨ i = 2 ∨ i = 3 by omega) with rfl | rfl | rfl | rfl <;> rfl
theorem rwB_ge (b : List UInt8) (i : Nat) : 0 ≤ rwB b i := by unfold rwB; omega
theorem rws_get (b : List UInt8) {i : Nat} (h : i < 4) : (rws b).getD i 0 = rwB b i := by
  rcases (show i = 0 ∨ i = 1 ∨ i = 2 ∨ i = 3 by omega) with rfl | rfl | rfl | rfl <;> rfl
theorem okT_rws (q : Int) (b : List UInt8) : okT q (rws b) = allR q (rws b) := by unfold okT; simp [rws]
theorem erU_no {e q : Int} {b : List UInt8} (h : e ≠ 0) : erU e q b = e := by unfold erU; rw [if_neg h]
theorem erU_len {q : Int} {b : List UInt8} (h : b.length ≠ 8) : erU 0 q b = 220 := by unfold erU; rw [if_pos rfl, if_neg (fun g => h g.1)]
theorem erU_bad {q : Int} {b : List UInt8} (h : allR q (rws b) = false) : erU 0 q b = 220 := by unfold erU; rw [if_pos rfl, h, if_neg (fun g => by cases g.2)]
theorem erU_good {q : Int} {b : List UInt8} (h : b.length = 8) (g : allR q (rws b) = true) : erU 0 q b = 0 := by unfold erU; rw [if_pos rfl, if_pos ⟨h, g⟩]
set_option maxHeartbeats 4000000 in
set_option maxRecDepth 100000 in
theorem Buckets_any {k r c q : Int} {M : Nat} {e : Int} (hp : PP k r c q M e) (w : World) (ao : Option Addr) (b : List UInt8) (ca : Nat) (hv : Reb w ao b ca) :
    Calls Try.prog 16 #[.agg #[.int .i64 k, .int .i64 r, .int .i64 c, .int .i64 q], .slice ao b.length ca] w fun e' w' =>
      ∃ E bo cb L, E = erU e q b ∧ L = (if E = 0 then rws b else []) ∧ e' = .returned (.tuple #[.slice bo L.length cb, .int .i64 E]) ∧ OwI w.heap.size w' bo L cb ∧ RowKit.Below w.heap.size w w' := by
  obtain ⟨w0, hw0⟩ : ∃ w0, w0 = w.alloc (.cells #[.int .i64 k, .int .i64 r, .int .i64 c, .int .i64 q] 24) := ⟨_, rfl⟩
  have b0 : RowKit.Below w.heap.size w w0 := by rw [hw0]; exact below_alloc _ _
  have HPAR : Hid (∀ v, RowKit.Below w0.heap.size w0 v → v.cell? ⟨w.heap.size, 0, none⟩ = some (.int .i64 k) ∧ v.cell? ⟨w.heap.size, 1, none⟩ = some (.int .i64 r) ∧ v.cell? ⟨w.heap.size, 2, none⟩ = some (.int .i64 c) ∧ v.cell? ⟨w.heap.size, 3, none⟩ = some (.int .i64 q)) := fun v hv => par_held hw0 hv
  have HV : Hid (Reb w0 ao b ca) := hv.below b0
  have HB0 : Hid (RowKit.Below w.heap.size w w0) := b0
  have HC := hp.chk
  obtain ⟨x0, x1, x2, x3⟩ := HPAR.out w0 (Below.refl _ _)
  clear hv b0 hp
  by_cases he : e = 0
  · subst he
    by_cases h8 : b.length = 8
    · have HL8 : Hid (b.length = 8) := h8
      have hroom := Rev.room HV.out
      have hca : (8 : Int) ≤ (ca : Int) := by omega
      have hbl : (b.length : Int) = 8 := by omega
      have HOB := fun u uo uc hu => ofBuckets_any k r c q u uo (rws b) uc hu (by simp [rws])
      rw [okT_rws] at HOB
      go_enter Try.func16, Try.ntmps16
      go_wp2_with fail
      rw [← hw0]
      clear hw0
      refine (HC _).mono ?_
      rintro _ w1 ⟨rfl, h1⟩
      have HB1 : Hid (RowKit.Below w0.heap.size w0 w1) := h1
      clear h1 HC x0 x1 x2 x3
      go_wp2_with fail
      go_loopw [7, 8] (fun v x wr => ∃ (i : Nat) (bo : Option Addr) (cb : Nat) (L : List Int), i ≤ 4 ∧ x = .int .i64 ((2 * i : Nat) : Int) ∧ v = .slice bo L.length cb ∧ Hid (L = (rws b).take i) ∧ Hid (OwI w0.heap.size wr bo L cb) ∧ Hid (RowKit.Below w0.heap.size w0 wr)) (fun _ x _ => 8 - (intOf x).toNat)
      case atStart => exact ⟨0, none, 0, [], Nat.zero_le _, rfl, rfl, rfl, owi_nil _ _, HB1⟩
      case round =>
        obtain ⟨i, bo, cb, L, hi, rfl, rfl, hL, hown, hbel⟩ := hrel
        by_cases hlt : i < 4
        · obtain ⟨g, off, rfl, _⟩ := (HV.out.below hbel.out).at_ (by have := HL8.out; omega)
          obtain ⟨g2, off2, e2, hc⟩ := (HV.out.below hbel.out).at_ (by have := HL8.out; omega)
          cases e2
          have c0 := hc (2 * i) (by have := HL8.out; omega)
          have c1 := hc (2 * i + 1) (by have := HL8.out; omega)
          have HLL : Hid (L ++ [rwB b i] = (rws b).take (i + 1)) := by show _ = _; rw [rws_take hlt, hL.out]
          have HRW : Hid (rwB b i = ((b.getD (2 * i) 0).toNat : Int) * 256 + ((b.getD (2 * i + 1) 0).toNat : Int)) := rfl
          obtain ⟨j, hj⟩ : ∃ j, j = 2 * i := ⟨_, rfl⟩
          have HJ : Hid (j = 2 * i) := hj
          rw [← hj] at c0 c1 HRW ⊢
          have hRO := rowOf_any wr g (off + j) (8 - j) (ca - j) (b.getD j 0) (b.getD (j + 1) 0) (by have := HL8.out; omega) c0 (by rw [Nat.add_assoc]; exact c1)
          rw [← HRW.out] at hRO
          have hLn : L.length ≤ 4 := by rw [hL.out, List.length_take]; omega
          obtain ⟨R, hR⟩ : ∃ R, R = rwB b i := ⟨_, rfl⟩
          rw [← hR] at hRO HLL
          have i1 : (0 : Int) ≤ (j : Int) := by omega
          have i2 : (j : Int) < 8 := by omega
          have i3 : (j : Int) ≤ (ca : Int) := by omega
          have i4 : (j : Int) ≤ (b.length : Int) := by omega
          have i5 : ¬ ca = j := by omega
          have i6 : (j : Int) < (b.length : Int) := by omega
          clear hc hR hj c0 c1
          go_wp2_with fail
          refine hRO.mono ?_
          rintro _ w2 ⟨rfl, h2⟩
          have HB2 : Hid (RowKit.Below w0.heap.size w0 w2) := below_then hbel.out h2
          have hown2 := hown.out.below h2
          obtain ⟨w3, hw3⟩ : ∃ w3, w3 = w2.alloc (.cells #[.int .i64 R] 3) := ⟨_, rfl⟩
          have hb3 : RowKit.Below w2.heap.size w2 w3 := by rw [hw3]; exact below_alloc _ _
          have hlit : Rei w3 (some ⟨w2.heap.size, 0, none⟩) [R] 1 := rei_lit R hw3
          have HB3 : Hid (RowKit.Below w0.heap.size w0 w3) := below_then HB2.out hb3
          have hown3 := hown2.below hb3
          have hsz3 := HB3.out.size
          clear h2 hb3 hRO hown2
          go_wp2_with (rw [← hw3]; at_builtin; refine append_ints (by rfl) (.tmp 23) (.tmp 28) (by rfl) w0.heap.size cb 1 bo (some ⟨w2.heap.size, 0, none⟩) L [R] (by rfl) (by rfl) hown3 hlit (by simp; omega) hsz3 ?_; intro bo4 cb4 w4 L4 hL4 hown4 hg4; have HL4 : Hid (L4 = L ++ [R]) := hL4; clear hL4)
          go_roundw
          case rel => exact ⟨i + 1, bo4, cb4, L4, by omega, by have := HJ.out; go_num, rfl, by show _ = _; rw [← HLL.out, HL4.out], hown4, HB3.out.grown hg4 hsz3 hown3.ge⟩
          case measure => simp [intOf]; have := HJ.out; omega
        · obtain rfl : i = 4 := by omega
          have HLE : Hid (L = rws b) := by show _ = _; rw [hL.out]; rfl
          have hlr := hown.out.rei
          rw [HLE.out] at hlr
          have hOB := HOB wr bo cb hlr
          rw [← HLE.out] at hOB
          obtain ⟨x0, x1, x2, x3⟩ := HPAR.out wr hbel.out
          cases hm : allR q (rws b)
          · rw [HLE.out, hm, ← HLE.out] at hOB
            have HM : Hid (allR q (rws b) = false) := hm
            clear hm hlr
            go_wp2_with fail
            refine hOB.mono ?_
            rintro _ w5 ⟨rfl, h5⟩
            go_wp2
            go_ret2
            exact ⟨220, none, 0, [], (erU_bad HM.out).symm, by rw [if_neg (by decide)], rfl, owi_nil _ _, below_then HB0.out (below_then hbel.out h5)⟩
          · rw [HLE.out, hm, ← HLE.out] at hOB
            have HM : Hid (allR q (rws b) = true) := hm
            clear hm hlr
            go_wp2_with fail
            refine hOB.mono ?_
            rintro _ w5 ⟨rfl, h5⟩
            go_wp2
            go_ret2
            exact ⟨0, bo, cb, L, (erU_good HL8.out HM.out).symm, by rw [if_pos rfl]; exact HLE.out, rfl, (hown.out.below h5).mono HB0.out.size, below_then HB0.out (below_then hbel.out h5)⟩
    · have hbl : ((b.length : Int) != 8) = true := by simp; omega
      have HL8 : Hid (b.length ≠ 8) := h8
      clear h8
      go_enter Try.func16, Try.ntmps16
      go_wp2_with fail
      rw [← hw0]
      clear hw0
      refine (HC _).mono ?_
      rintro _ w1 ⟨rfl, h1⟩
      go_wp2
      go_ret2
      exact ⟨220, none, 0, [], (erU_len HL8.out).symm, by rw [if_neg (by decide)], rfl, owi_nil _ _, below_then HB0.out h1⟩
  · have hz : (e != 0) = true := by simpa using he
    have HE : Hid (e ≠ 0) := he
    clear he
    go_enter Try.func16, Try.ntmps16
    go_wp2_with fail
    rw [← hw0]
    clear hw0
    refine (HC _).mono ?_
    rintro _ w1 ⟨rfl, h1⟩
    go_wp2
    go_ret2
    exact ⟨e, none, 0, [], (erU_no HE.out).symm, by rw [if_neg HE.out], rfl, owi_nil _ _, below_then HB0.out h1⟩
end Go.Proofs.Ytfbfiecamaginaa
