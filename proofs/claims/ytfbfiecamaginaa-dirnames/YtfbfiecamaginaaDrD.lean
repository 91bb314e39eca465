/- How many bytes entries have, whether two lists are the same: by program and document. -/
import Derived.Test.YtfbfiecamaginaaDrC
namespace Go.Proofs.Ytfbfiecamaginaa
open Go.RowKit Go.Sort

theorem sz_len (l : List En) : 3 * l.length ≤ szE l := by
  induction l with
  | nil => simp [szE]
  | cons x l ih => rw [sz_cons, List.length_cons]; omega
theorem len_int {a b : Int} (h : a = b) : Value.int .i64 a = .int .i64 b := by rw [h]
set_option maxHeartbeats 1000000 in
set_option maxRecDepth 100000 in
theorem length_any (w : World) (ao : Option Addr) (l : List En) (ca : Nat) (hv : Ren w ao l ca) (hsz : szE l ≤ 1000000000) :
    Calls Try.prog 48 #[.slice ao l.length ca] w fun e w' => e = .returned (.int .i64 ((szE l : Nat) : Int)) ∧ Below w.heap.size w w' := by
  have HV : Hid (Ren w ao l ca) := hv
  have HS : Hid (∀ i, i < l.length → szE (l.take (i + 1)) = szE (l.take i) + ((gN l i).length + 3)) := fun i h => sz_take h
  have HM : Hid (∀ i, szE (l.take i) ≤ 1000000000) := fun i => Nat.le_trans (sz_take_le l i) hsz
  have HE : Hid (szE (l.take l.length) = szE l) := by show _ = _; rw [List.take_length]
  have hln := sz_len l
  have hln2 : (l.length : Int) ≤ 400000000 := by omega
  clear hv hsz
  go_enter Try.func48, Try.ntmps48
  go_wp2_with fail
  go_loopw [3, 8] (fun s x wr => ∃ i z : Nat, i ≤ l.length ∧ x = .int .i64 (i : Int) ∧ s = .int .i64 (z : Int) ∧ Hid (z = szE (l.take i)) ∧ Hid (Below w.heap.size w wr)) (fun _ x _ => l.length - (intOf x).toNat)
  case atStart => exact ⟨0, 0, Nat.zero_le _, rfl, rfl, rfl, Below.refl _ _⟩
  case round =>
    obtain ⟨i, z, hi, rfl, rfl, hz, hbel⟩ := hrel
    by_cases hlt : i < l.length
    · obtain ⟨b, off, rfl, hc⟩ := (HV.out.below hbel.out).at_ (by omega)
      obtain ⟨c0, c1⟩ := hc i hlt
      have HZ : Hid (z + ((gN l i).length + 3) = szE (l.take (i + 1))) := by show _ = _; rw [HS.out i hlt, hz.out]
      have hb1 := HM.out (i + 1)
      rw [← HZ.out] at hb1
      obtain ⟨N, hN⟩ : ∃ N, N = gN l i := ⟨_, rfl⟩
      rw [← hN] at c0 HZ hb1
      have hs := str_size N
      have i1 : (0 : Int) ≤ (i : Int) := by omega
      have i2 : (i : Int) < (l.length : Int) := by omega
      clear hc hN
      go_wp2
      go_roundw
      case rel =>
        refine ⟨i + 1, z + (N.length + 3), by omega, by go_num, len_int ?_, HZ, hbel.out.alloc hbel.out.size _⟩
        omega
      case measure => simp [intOf]; omega
    · obtain rfl : i = l.length := by omega
      have HEE : Hid (z = szE l) := by show _ = _; rw [hz.out, HE.out]
      go_wp2
      go_ret
      exact ⟨by rw [HEE.out]; rfl, hbel.out⟩
set_option maxHeartbeats 1000000 in
set_option maxRecDepth 100000 in
theorem size_any (w : World) (ao : Option Addr) (l : List En) (ca : Nat) (hv : Ren w ao l ca) (hsz : szE l ≤ 1000000000) :
    Calls Try.prog 46 #[.slice ao l.length ca] w fun e w' => e = .returned (.int .i64 ((szE l : Nat) : Int)) ∧ Below w.heap.size w w' := by
  have HV : Hid (Ren w ao l ca) := hv
  have HS : Hid (∀ i, i < l.length → szE (l.take (i + 1)) = szE (l.take i) + ((gN l i).length + 3)) := fun i h => sz_take h
  have HM : Hid (∀ i, szE (l.take i) ≤ 1000000000) := fun i => Nat.le_trans (sz_take_le l i) hsz
  have HE : Hid (szE (l.take l.length) = szE l) := by show _ = _; rw [List.take_length]
  have hln := sz_len l
  have hln2 : (l.length : Int) ≤ 400000000 := by omega
  clear hv hsz
  go_enter Try.func46, Try.ntmps46
  go_wp2_with fail
  go_loopw [3, 4] (fun s x wr => ∃ i z : Nat, i ≤ l.length ∧ x = .int .i64 (i : Int) ∧ s = .int .i64 (z : Int) ∧ Hid (z = szE (l.take i)) ∧ Hid (Below w.heap.size w wr)) (fun _ x _ => l.length - (intOf x).toNat)
  case atStart => exact ⟨0, 0, Nat.zero_le _, rfl, rfl, rfl, Below.refl _ _⟩
  case round =>
    obtain ⟨i, z, hi, rfl, rfl, hz, hbel⟩ := hrel
    by_cases hlt : i < l.length
    · obtain ⟨b, off, rfl, hc⟩ := (HV.out.below hbel.out).at_ (by omega)
      obtain ⟨c0, c1⟩ := hc i hlt
      have HZ : Hid (z + ((gN l i).length + 3) = szE (l.take (i + 1))) := by show _ = _; rw [HS.out i hlt, hz.out]
      have hb1 := HM.out (i + 1)
      rw [← HZ.out] at hb1
      obtain ⟨N, hN⟩ : ∃ N, N = gN l i := ⟨_, rfl⟩
      rw [← hN] at c0 HZ hb1
      have hs := str_size N
      have i1 : (0 : Int) ≤ (i : Int) := by omega
      have i2 : (i : Int) < (l.length : Int) := by omega
      clear hc hN
      go_wp2
      go_roundw
      case rel =>
        refine ⟨i + 1, z + (N.length + 3), by omega, by go_num, len_int ?_, HZ, hbel⟩
        omega
      case measure => simp [intOf]; omega
    · obtain rfl : i = l.length := by omega
      have HEE : Hid (z = szE l) := by show _ = _; rw [hz.out, HE.out]
      go_wp2
      go_ret
      exact ⟨by rw [HEE.out]; rfl, hbel.out⟩
theorem ent_ne {N M : Nm} {R S : Int} (h : (N, R) ≠ (M, S)) : (N == M) = false ∨ (R == S) = false := by
  by_cases e : N = M
  · right; simp; intro e2; exact h (by rw [e, e2])
  · left; simpa using e
theorem ext_en {l m : List En} (h : l.length = m.length) (g : ∀ j, j < l.length → gN l j = gN m j ∧ gR l j = gR m j) : l = m := by
  refine List.ext_getElem h fun j h1 h2 => ?_
  have := g j h1
  rw [gN_eq h1, gN_eq h2, gR_eq h1, gR_eq h2] at this
  exact Prod.ext this.1 this.2
set_option maxHeartbeats 2000000 in
set_option maxRecDepth 100000 in
theorem Same_any (w : World) (ao bo : Option Addr) (l m : List En) (ca cb : Nat) (hv : Ren w ao l ca) (hu : Ren w bo m cb) (hn : l.length ≤ 1000000000) :
    Calls Try.prog 23 #[.slice ao l.length ca, .slice bo m.length cb] w fun e w' => e = .returned (.bool (decide (l = m))) ∧ Below w.heap.size w w' := by
  have HV : Hid (Ren w ao l ca) := hv
  have HU : Hid (Ren w bo m cb) := hu
  have HE : Hid (l.length = m.length → (∀ j, j < l.length → gN l j = gN m j ∧ gR l j = gR m j) → l = m) := fun h g => ext_en h g
  obtain ⟨M, hM⟩ : ∃ M, M = decide (l = m) := ⟨_, rfl⟩
  rw [← hM]
  have HY : Hid (l = m → M = true) := fun h => by rw [hM, h]; simp
  have HN : Hid (l ≠ m → M = false) := fun h => by rw [hM]; simp [h]
  clear hv hu hM
  by_cases hl : l.length = m.length
  · have hl1 : ((l.length : Int) == (m.length : Int)) = true := by simp [hl]
    have hl2 : (l.length : Int) = (m.length : Int) := by omega
    have HL : Hid (l.length = m.length) := hl
    obtain ⟨k, hk⟩ : ∃ k, k = l.length := ⟨_, rfl⟩
    rw [← hk] at hl hl1 hl2 HL HE hn ⊢
    have HK : Hid (k = l.length) := hk
    rw [← hl]
    have hn2 : (k : Int) ≤ 1000000000 := by omega
    clear hk hl hl1 hl2
    go_enter Try.func23, Try.ntmps23
    go_wp2_with fail
    go_loopw [5] (fun x wr => ∃ i : Nat, i ≤ k ∧ x = .int .i64 (i : Int) ∧ Hid (∀ j, j < i → gN l j = gN m j ∧ gR l j = gR m j) ∧ Hid (Below w.heap.size w wr)) (fun x _ => k - (intOf x).toNat)
    case atStart => exact ⟨0, Nat.zero_le _, rfl, fun j hj => absurd hj (by omega), Below.refl _ _⟩
    case round =>
      obtain ⟨i, hi, rfl, hok, hbel⟩ := hrel
      by_cases hlt : i < k
      · obtain ⟨b, off, rfl, hc⟩ := (HV.out.below hbel.out).at_ (by have := HK.out; omega)
        obtain ⟨c0, c1⟩ := hc i (by have := HK.out; omega)
        obtain ⟨b2, off2, rfl, hc2⟩ := (HU.out.below hbel.out).at_ (by have := HL.out; omega)
        obtain ⟨d0, d1⟩ := hc2 i (by have := HL.out; omega)
        have HOK : Hid (gN l i = gN m i ∧ gR l i = gR m i → ∀ j, j < i + 1 → gN l j = gN m j ∧ gR l j = gR m j) := fun h j hj => by
          by_cases e : j = i
          · rw [e]; exact h
          · exact hok.out j (by omega)
        have HNE : Hid (¬ (gN l i = gN m i ∧ gR l i = gR m i) → M = false) := fun h => HN.out fun e => h (by rw [e]; exact ⟨rfl, rfl⟩)
        obtain ⟨N, hN⟩ : ∃ N, N = gN l i := ⟨_, rfl⟩
        obtain ⟨R, hR⟩ : ∃ R, R = gR l i := ⟨_, rfl⟩
        obtain ⟨N2, hN2⟩ : ∃ N, N = gN m i := ⟨_, rfl⟩
        obtain ⟨R2, hR2⟩ : ∃ R, R = gR m i := ⟨_, rfl⟩
        rw [← hN] at c0 HOK HNE
        rw [← hR] at c1 HOK HNE
        rw [← hN2] at d0 HOK HNE
        rw [← hR2] at d1 HOK HNE
        have i1 : (0 : Int) ≤ (i : Int) := by omega
        have i2 : (i : Int) < (k : Int) := by omega
        clear hc hc2 hN hR hN2 hR2
        by_cases e1 : N = N2
        · subst e1
          cases e2 : (R == R2)
          · have HF : Hid (M = false) := HNE.out fun h => by rw [h.2] at e2; simp at e2
            go_wp2
            go_quiet (fail)
            go_wp2
            go_ret
            exact ⟨ret_bool HF.out.symm, hbel.out.trans (below_drewN _ _ _)⟩
          · have HT : Hid (∀ j, j < i + 1 → gN l j = gN m j ∧ gR l j = gR m j) := HOK.out ⟨rfl, by simpa using e2⟩
            go_wp2
            go_quiet (fail)
            go_wp2
            go_roundw
            case rel => exact ⟨i + 1, by omega, by go_num, HT, hbel.out.trans (below_drewN _ _ _)⟩
            case measure => simp [intOf]; omega
        · have HF : Hid (M = false) := HNE.out fun h => e1 h.1
          have e3 : (N == N2) = false := by simpa using e1
          go_wp2
          go_quiet (fail)
          go_wp2
          go_ret
          exact ⟨ret_bool HF.out.symm, hbel.out.trans (below_drewN _ _ _)⟩
      · obtain rfl : i = k := by omega
        have HF : Hid (M = true) := HY.out (HE.out HL.out hok.out)
        go_wp2
        go_ret
        exact ⟨ret_bool HF.out.symm, hbel.out⟩
  · have h1 : ¬ (l.length : Int) = (m.length : Int) := by omega
    have HF : Hid (M = false) := HN.out fun e => hl (by rw [e])
    have h2 : ((l.length : Int) == (m.length : Int)) = false := by simpa using h1
    go_enter Try.func23, Try.ntmps23
    go_wp2
    go_ret
    exact ⟨ret_bool HF.out.symm, Below.refl _ _⟩
end Go.Proofs.Ytfbfiecamaginaa
