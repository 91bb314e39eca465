/- Buckets, by the document. -/
import Derived.Test.YtfbfiecamaginaaDrR
namespace Go.Proofs.Ytfbfiecamaginaa
open Go.RowKit Go.Sort

set_option maxHeartbeats 4000000 in
set_option maxRecDepth 100000 in
theorem RBuckets_any {k r c q : Int} {M : Nat} {e : Int} (hp : PP k r c q M e) (w : World) (ao : Option Addr) (b : List UInt8) (ca : Nat) (hv : Reb w ao b ca) :
    Calls Try.prog 28 #[.agg #[.int .i64 k, .int .i64 r, .int .i64 c, .int .i64 q], .slice ao b.length ca] w fun e' w' =>
      ∃ E bo cb L, E = erU e q b ∧ L = (if E = 0 then rws b else []) ∧ e' = .returned (.tuple #[.slice bo L.length cb, .int .i64 E]) ∧ OwI w.heap.size w' bo L cb ∧ RowKit.Below w.heap.size w w' := by
  obtain ⟨w0, hw0⟩ : ∃ w0, w0 = w.alloc (.cells #[.int .i64 k, .int .i64 r, .int .i64 c, .int .i64 q] 24) := ⟨_, rfl⟩
  have b0 : RowKit.Below w.heap.size w w0 := by rw [hw0]; exact below_alloc _ _
  have HPAR : Hid (∀ v, RowKit.Below w0.heap.size w0 v → v.cell? ⟨w.heap.size, 0, none⟩ = some (.int .i64 k) ∧ v.cell? ⟨w.heap.size, 1, none⟩ = some (.int .i64 r) ∧ v.cell? ⟨w.heap.size, 2, none⟩ = some (.int .i64 c) ∧ v.cell? ⟨w.heap.size, 3, none⟩ = some (.int .i64 q)) := fun v hv => par_held hw0 hv
  have HV : Hid (Reb w0 ao b ca) := hv.below b0
  have HB0 : Hid (RowKit.Below w.heap.size w w0) := b0
  have HC := hp.rmay
  have HER : Hid (e = 0 ∨ e = 2) := hp.er
  obtain ⟨x0, x1, x2, x3⟩ := HPAR.out w0 (Below.refl _ _)
  clear hv b0 hp
  by_cases he : e = 0
  · subst he
    simp only [decide_true] at HC
    by_cases h8 : b.length = 8
    · have HL8 : Hid (b.length = 8) := h8
      have hbl : (b.length : Int) = 8 := by omega
      have HY : Hid ((∀ i, i < 4 → inR q (rwB b i) = true) → allR q (rws b) = true) := fun h => (allR_iff q (rws b)).2 fun i hi => by rw [rws_get b hi]; exact h i hi
      have HN : Hid (∀ i, i < 4 → inR q (rwB b i) = false → allR q (rws b) = false) := fun i hi g => allR_no (i := i) hi (by rw [rws_get b hi]; exact g)
      clear h8
      go_enter Try.func28, Try.ntmps28
      go_wp2_with fail
      rw [← hw0]
      clear hw0
      refine (HC _).mono ?_
      rintro _ w1 ⟨rfl, h1⟩
      have HB1 : Hid (RowKit.Below w0.heap.size w0 w1) := h1
      clear h1 HC x0 x1 x2 x3
      go_wp2_with fail
      go_loopw [6, 7] (fun v x wr => ∃ (i : Nat) (bo : Option Addr) (cb : Nat) (L : List Int), i ≤ 4 ∧ x = .int .i64 (i : Int) ∧ v = .slice bo L.length cb ∧ Hid (∀ j, j < i → inR q (rwB b j) = true) ∧ Hid (L = (rws b).take i) ∧ Hid (OwI w0.heap.size wr bo L cb) ∧ Hid (RowKit.Below w0.heap.size w0 wr)) (fun _ x _ => 4 - (intOf x).toNat)
      case atStart => exact ⟨0, none, 0, [], Nat.zero_le _, rfl, rfl, fun j hj => absurd hj (by omega), rfl, owi_nil _ _, HB1⟩
      case round =>
        obtain ⟨i, bo, cb, L, hi, rfl, rfl, hok, hL, hown, hbel⟩ := hrel
        by_cases hlt : i < 4
        · obtain ⟨g, off, rfl, hc⟩ := (HV.out.below hbel.out).at_ (by have := HL8.out; omega)
          have c0 := hc (2 * i) (by have := HL8.out; omega)
          have c1 := hc (2 * i + 1) (by have := HL8.out; omega)
          have HLL : Hid (L ++ [rwB b i] = (rws b).take (i + 1)) := by show _ = _; rw [rws_take hlt, hL.out]
          have HRW : Hid (rwB b i = ((b.getD (2 * i) 0).toNat : Int) * 256 + ((b.getD (2 * i + 1) 0).toNat : Int)) := rfl
          have hu := (b.getD (2 * i) 0).toNat_lt
          have hv := (b.getD (2 * i + 1) 0).toNat_lt
          have HNO := HN.out i hlt
          have HYES : Hid (inR q (rwB b i) = true → ∀ j, j < i + 1 → inR q (rwB b j) = true) := fun h j hj => by
            by_cases e : j = i
            · rw [e]; exact h
            · exact hok.out j (by omega)
          have hLn : L.length ≤ 4 := by rw [hL.out, List.length_take]; omega
          obtain ⟨j, hj⟩ : ∃ j, j = 2 * i := ⟨_, rfl⟩
          obtain ⟨X, hX⟩ : ∃ X : Nat, X = (b.getD (2 * i) 0).toNat := ⟨_, rfl⟩
          obtain ⟨Y, hY⟩ : ∃ Y : Nat, Y = (b.getD (2 * i + 1) 0).toNat := ⟨_, rfl⟩
          rw [← hX] at c0 HRW hu
          rw [← hY] at c1 HRW hv
          obtain ⟨R, hR⟩ : ∃ R, R = rwB b i := ⟨_, rfl⟩
          rw [← hR] at HLL HRW HNO HYES
          have hR2 := HRW.out
          rw [← hj] at c0 c1
          have i1 : (0 : Int) ≤ (j : Int) := by omega
          have i2 : (j : Int) < (b.length : Int) := by omega
          have i3 : (j : Int) + 1 < (b.length : Int) := by omega
          have i4 : (0 : Int) ≤ (j : Int) + 1 := by omega
          have i5 : IntKind.i64.wrap (2 * (i : Int)) = (j : Int) := by rw [IntKind.wrap_i64]; omega
          have i6 : IntKind.i64.wrap ((j : Int) + 1) = ((j + 1 : Nat) : Int) := by rw [IntKind.wrap_i64]; omega
          have i7 : (0 : Int) ≤ ((j + 1 : Nat) : Int) := by omega
          have i8 : ((j + 1 : Nat) : Int) < (b.length : Int) := by omega
          have i9 : IntKind.i64.wrap ((X : Int) * 256) = (X : Int) * 256 := by rw [IntKind.wrap_i64]; omega
          have i10 : IntKind.i64.wrap ((X : Int) * 256 + (Y : Int)) = R := by rw [IntKind.wrap_i64]; omega
          have i11 : (i : Int) < 4 := by omega
          have HR0 : Hid (0 ≤ R) := by show _ ≤ _; omega
          have c2 : wr.cell? ⟨g, off + (j + 1), none⟩ = some (.int .u8 (Y : Int)) := c1
          obtain ⟨x0, x1, x2, x3⟩ := HPAR.out wr hbel.out
          clear hc hR hX hY hj hR2 c1
          go_wp2_with fail
          go_big_quiet (fail)
          obtain ⟨v4, hv4⟩ : ∃ v4, v4 = wr.drewN nq := ⟨_, rfl⟩
          rw [← hv4]
          have hb4 : RowKit.Below wr.heap.size wr v4 := by rw [hv4]; exact below_drewN _ _ _
          have HB4 : Hid (RowKit.Below w0.heap.size w0 v4) := below_then hbel.out hb4
          have HO4 : Hid (OwI w0.heap.size v4 bo L cb) := hown.out.below hb4
          clear hv4 hb4 c0 c2 x0 x1 x2 x3
          obtain ⟨x0, x1, x2, x3⟩ := HPAR.out v4 HB4.out
          by_cases hq : q ≤ R
          · have HF : Hid (allR q (rws b) = false) := HNO (by unfold inR; simp; omega)
            clear HNO
            go_wp2
            go_ret2
            exact ⟨220, none, 0, [], (erU_bad HF.out).symm, by rw [if_neg (by decide)], rfl, owi_nil _ _, below_then HB0.out HB4.out⟩
          · have HYY : Hid (∀ j, j < i + 1 → inR q (rwB b j) = true) := HYES.out (by unfold inR; have := HR0.out; simp; omega)
            clear HNO
            obtain ⟨w3, hw3⟩ : ∃ w3, w3 = v4.alloc (.cells #[.int .i64 R] 3) := ⟨_, rfl⟩
            have hb3 : RowKit.Below v4.heap.size v4 w3 := by rw [hw3]; exact below_alloc _ _
            have hlit : Rei w3 (some ⟨v4.heap.size, 0, none⟩) [R] 1 := rei_lit R hw3
            have HB3 : Hid (RowKit.Below w0.heap.size w0 w3) := below_then HB4.out hb3
            have hown3 := HO4.out.below hb3
            have hsz3 := HB3.out.size
            clear hb3
            go_wp2_with (rw [← hw3]; at_builtin; refine append_ints (by rfl) (.tmp 38) (.tmp 40) (by rfl) w0.heap.size cb 1 bo (some ⟨v4.heap.size, 0, none⟩) L [R] (by rfl) (by rfl) hown3 hlit (by simp; omega) hsz3 ?_; intro bo4 cb4 w4 L4 hL4 hown4 hg4; have HL4 : Hid (L4 = L ++ [R]) := hL4; clear hL4)
            go_roundw
            case rel => exact ⟨i + 1, bo4, cb4, L4, by omega, by go_num, rfl, HYY, by show _ = _; rw [← HLL.out, HL4.out], hown4, HB3.out.grown hg4 hsz3 hown3.ge⟩
            case measure => simp [intOf]; omega
        · obtain rfl : i = 4 := by omega
          have HLE : Hid (L = rws b) := by show _ = _; rw [hL.out]; rfl
          have HM := HY.out hok.out
          go_wp2
          go_ret2
          exact ⟨0, bo, cb, L, (erU_good HL8.out HM).symm, by rw [if_pos rfl]; exact HLE.out, rfl, hown.out.mono HB0.out.size, below_then HB0.out hbel.out⟩
    · have hbl : ((b.length : Int) != 8) = true := by simp; omega
      have HL8 : Hid (b.length ≠ 8) := h8
      clear h8
      go_enter Try.func28, Try.ntmps28
      go_wp2_with fail
      rw [← hw0]
      clear hw0
      refine (HC _).mono ?_
      rintro _ w1 ⟨rfl, h1⟩
      go_wp2
      go_ret2
      exact ⟨220, none, 0, [], (erU_len HL8.out).symm, by rw [if_neg (by decide)], rfl, owi_nil _ _, below_then HB0.out h1⟩
  · obtain rfl : e = 2 := by have := HER.out; omega
    rw [show decide ((2 : Int) = 0) = false from rfl] at HC
    go_enter Try.func28, Try.ntmps28
    go_wp2_with fail
    rw [← hw0]
    clear hw0
    refine (HC _).mono ?_
    rintro _ w1 ⟨rfl, h1⟩
    go_wp2
    go_ret2
    exact ⟨2, none, 0, [], (erU_no (by decide)).symm, by rw [if_neg (by decide)], rfl, owi_nil _ _, below_then HB0.out h1⟩
end Go.Proofs.Ytfbfiecamaginaa
