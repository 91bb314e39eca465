/- Rows of the buckets: whether they may be, a row read out of bytes, two lists of rows. -/
import Derived.Test.YtfbfiecamaginaaDrO
namespace Go.Proofs.Ytfbfiecamaginaa
open Go.RowKit Go.Sort

theorem allR_iff (q : Int) (L : List Int) : allR q L = true ↔ ∀ i, i < L.length → inR q (L.getD i 0) = true := by
  unfold allR
  rw [List.all_eq_true]
  constructor
  · intro h i hi
    rw [List.getD_eq_getElem?_getD, List.getElem?_eq_getElem hi]
    exact h _ (List.getElem_mem hi)
  · intro h x hx
    obtain ⟨i, hi, rfl⟩ := List.mem_iff_getElem.1 hx
    have := h i hi
    rw [List.getD_eq_getElem?_getD, List.getElem?_eq_getElem hi] at this
    exact this
theorem allR_no {q : Int} {L : List Int} {i : Nat} (h : i < L.length) (g : inR q (L.getD i 0) = false) : allR q L = false := by
  rw [Bool.eq_false_iff]; intro e
  rw [(allR_iff q L).1 e i h] at g; cases g
set_option maxHeartbeats 1000000 in
set_option maxRecDepth 100000 in
theorem ofBuckets_any (k r c q : Int) (w : World) (ao : Option Addr) (L : List Int) (ca : Nat) (hv : Rei w ao L ca) (hn : L.length ≤ 1000000) :
    Calls Try.prog 40 #[.agg #[.int .i64 k, .int .i64 r, .int .i64 c, .int .i64 q], .slice ao L.length ca] w fun e w' => e = .returned (.bool (okT q L)) ∧ RowKit.Below w.heap.size w w' := by
  obtain ⟨w0, hw0⟩ : ∃ w0, w0 = w.alloc (.cells #[.int .i64 k, .int .i64 r, .int .i64 c, .int .i64 q] 24) := ⟨_, rfl⟩
  have b0 : RowKit.Below w.heap.size w w0 := by rw [hw0]; exact below_alloc _ _
  have HPAR : Hid (∀ v, RowKit.Below w0.heap.size w0 v → v.cell? ⟨w.heap.size, 0, none⟩ = some (.int .i64 k) ∧ v.cell? ⟨w.heap.size, 1, none⟩ = some (.int .i64 r) ∧ v.cell? ⟨w.heap.size, 2, none⟩ = some (.int .i64 c) ∧ v.cell? ⟨w.heap.size, 3, none⟩ = some (.int .i64 q)) := fun v hv => par_held hw0 hv
  have HV : Hid (Rei w0 ao L ca) := hv.below b0
  have HT := there_any k r c q
  have HB0 : Hid (RowKit.Below w.heap.size w w0) := b0
  have HY : Hid ((∀ i, i < L.length → inR q (L.getD i 0) = true) → okT q L = decide (L.length = 4)) := fun h => by unfold okT; rw [(allR_iff q L).2 h]; rfl
  have HN : Hid (∀ i, i < L.length → inR q (L.getD i 0) = false → okT q L = false) := fun i hi g => by unfold okT; rw [allR_no hi g]; rfl
  obtain ⟨M, hM⟩ : ∃ M, M = okT q L := ⟨_, rfl⟩
  rw [← hM] at HY HN ⊢
  have hn2 : (L.length : Int) ≤ 1000000 := by omega
  clear hv b0 hM
  go_enter Try.func40, Try.ntmps40
  go_wp2_with fail
  rw [← hw0]
  clear hw0
  go_loopw [9] (fun x wr => ∃ i : Nat, i ≤ L.length ∧ x = .int .i64 (i : Int) ∧ Hid (∀ j, j < i → inR q (L.getD j 0) = true) ∧ Hid (RowKit.Below w0.heap.size w0 wr)) (fun x _ => L.length - (intOf x).toNat)
  case atStart => exact ⟨0, Nat.zero_le _, rfl, fun j hj => absurd hj (by omega), Below.refl _ _⟩
  case round =>
    obtain ⟨i, hi, rfl, hok, hbel⟩ := hrel
    by_cases hlt : i < L.length
    · obtain ⟨b, off, rfl, hc⟩ := (HV.out.below hbel.out).at_ (by omega)
      have c0 := hc i hlt
      have HNO := HN.out i hlt
      have HYES : Hid (inR q (L.getD i 0) = true → ∀ j, j < i + 1 → inR q (L.getD j 0) = true) := fun h j hj => by
        by_cases e : j = i
        · rw [e]; exact h
        · exact hok.out j (by omega)
      have hT := HT (L.getD i 0)
      obtain ⟨R, hR⟩ : ∃ R, R = L.getD i 0 := ⟨_, rfl⟩
      rw [← hR] at c0 hT HNO HYES
      have i1 : (0 : Int) ≤ (i : Int) := by omega
      have i2 : (i : Int) < (L.length : Int) := by omega
      obtain ⟨x0, x1, x2, x3⟩ := HPAR.out wr hbel.out
      clear hc hR
      cases hr : inR q R
      · rw [hr] at hT
        have HF : Hid (M = false) := HNO hr
        clear HNO hr
        go_wp2_with fail
        refine (hT _).mono ?_
        rintro _ w3 ⟨rfl, hb3⟩
        go_wp2
        go_ret
        exact ⟨ret_bool HF.out.symm, below_then HB0.out (below_then hbel.out hb3)⟩
      · rw [hr] at hT
        have HYY : Hid (∀ j, j < i + 1 → inR q (L.getD j 0) = true) := HYES.out hr
        clear HNO HYES hr
        go_wp2_with fail
        refine (hT _).mono ?_
        rintro _ w3 ⟨rfl, hb3⟩
        go_wp2
        go_roundw
        case rel => exact ⟨i + 1, by omega, by go_num, HYY, below_then hbel.out hb3⟩
        case measure => simp [intOf]; omega
    · obtain rfl : i = L.length := by omega
      have HMM : Hid (M = decide (L.length = 4)) := HY.out fun j hj => hok.out j hj
      go_wp2
      go_ret
      refine ⟨ret_bool ?_, below_then HB0.out hbel.out⟩
      rw [HMM.out]
      by_cases h4 : L.length = 4
      · simp [h4]
      · have : ¬ (L.length : Int) = 4 := by omega
        simp [h4, this]
theorem or_bytes : ∀ (a b : Nat), a < 256 → b < 256 → (a * 256) ||| b = a * 256 + b := fun a b _ hb => by
  have := Nat.shiftLeft_add_eq_or_of_lt (i := 8) (b := b) (by simpa using hb) a
  rw [Nat.shiftLeft_eq] at this
  simpa using this.symm
theorem i64_or_nat (a b : Nat) (ha : a < 4611686018427387904) (hb : b < 4611686018427387904) : bits .or .i64 (a : Int) (b : Int) = ((a ||| b : Nat) : Int) := by
  have hx : a ||| b < 2 ^ 62 := Nat.or_lt_two_pow (by omega) (by omega)
  show IntKind.i64.wrap ((BitVec.ofInt 64 (a : Int) ||| BitVec.ofInt 64 (b : Int)).toNat : Int) = _
  rw [BitVec.toNat_or, ofInt_u64 a (by omega), ofInt_u64 b (by omega)]
  rw [IntKind.wrap_i64]
  omega
set_option maxHeartbeats 1000000 in
set_option maxRecDepth 100000 in
theorem rowOf_any (w : World) (g off n ca : Nat) (x y : UInt8) (hn : 2 ≤ n) (c0 : w.cell? ⟨g, off, none⟩ = some (.int .u8 (x.toNat : Int))) (c1 : w.cell? ⟨g, off + 1, none⟩ = some (.int .u8 (y.toNat : Int))) :
    Calls Try.prog 41 #[.slice (some ⟨g, off, none⟩) n ca] w fun e w' => e = .returned (.int .i64 ((x.toNat : Int) * 256 + (y.toNat : Int))) ∧ RowKit.Below w.heap.size w w' := by
  have hx := x.toNat_lt
  have hy := y.toNat_lt
  obtain ⟨X, hX⟩ : ∃ X : Nat, X = x.toNat := ⟨_, rfl⟩
  obtain ⟨Y, hY⟩ : ∃ Y : Nat, Y = y.toNat := ⟨_, rfl⟩
  rw [← hX] at c0 hx ⊢
  rw [← hY] at c1 hy ⊢
  clear hX hY
  have i1 : (0 : Int) < (n : Int) := by omega
  have i2 : (1 : Int) < (n : Int) := by omega
  go_enter Try.func41, Try.ntmps41
  go_wp2
  go_quiet (fail)
  go_wp2
  go_ret
  refine ⟨ret_int ?_, below_drewN _ _ _⟩
  have := i64_or_nat (X * 256) Y (by omega) (by omega)
  rw [or_bytes X Y (by omega) (by omega)] at this
  rw [Int.natCast_mul, Int.natCast_add, Int.natCast_mul] at this
  exact this
set_option maxHeartbeats 2000000 in
set_option maxRecDepth 100000 in
theorem SameI_any (w : World) (ao bo : Option Addr) (l m : List Int) (ca cb : Nat) (hv : Rei w ao l ca) (hu : Rei w bo m cb) (hn : l.length ≤ 1000000000) :
    Calls Try.prog 30 #[.slice ao l.length ca, .slice bo m.length cb] w fun e w' => e = .returned (.bool (decide (l = m))) ∧ RowKit.Below w.heap.size w w' := by
  have HV : Hid (Rei w ao l ca) := hv
  have HU : Hid (Rei w bo m cb) := hu
  have HE : Hid (l.length = m.length → (∀ j, j < l.length → l.getD j 0 = m.getD j 0) → l = m) := fun h g => List.ext_getElem h fun j h1 h2 => by
    have := g j h1
    rw [List.getD_eq_getElem?_getD, List.getD_eq_getElem?_getD, List.getElem?_eq_getElem h1, List.getElem?_eq_getElem h2] at this
    exact this
  obtain ⟨M, hM⟩ : ∃ M, M = decide (l = m) := ⟨_, rfl⟩
  rw [← hM]
  have HY : Hid (l = m → M = true) := fun h => by rw [hM, h]; simp
  have HN : Hid (l ≠ m → M = false) := fun h => by rw [hM]; simp [h]
  clear hv hu hM
  by_cases hl : l.length = m.length
  · have HL : Hid (l.length = m.length) := hl
    obtain ⟨k, hk⟩ : ∃ k, k = l.length := ⟨_, rfl⟩
    rw [← hk] at hl HL HE hn ⊢
    have HK : Hid (k = l.length) := hk
    rw [← hl]
    have hn2 : (k : Int) ≤ 1000000000 := by omega
    clear hk hl
    go_enter Try.func30, Try.ntmps30
    go_wp2_with fail
    go_loopw [5] (fun x wr => ∃ i : Nat, i ≤ k ∧ x = .int .i64 (i : Int) ∧ Hid (∀ j, j < i → l.getD j 0 = m.getD j 0) ∧ Hid (RowKit.Below w.heap.size w wr)) (fun x _ => k - (intOf x).toNat)
    case atStart => exact ⟨0, Nat.zero_le _, rfl, fun j hj => absurd hj (by omega), Below.refl _ _⟩
    case round =>
      obtain ⟨i, hi, rfl, hok, hbel⟩ := hrel
      by_cases hlt : i < k
      · obtain ⟨b, off, rfl, hc⟩ := (HV.out.below hbel.out).at_ (by have := HK.out; omega)
        have c0 := hc i (by have := HK.out; omega)
        obtain ⟨b2, off2, rfl, hc2⟩ := (HU.out.below hbel.out).at_ (by have := HL.out; omega)
        have d0 := hc2 i (by have := HL.out; omega)
        have HOK : Hid (l.getD i 0 = m.getD i 0 → ∀ j, j < i + 1 → l.getD j 0 = m.getD j 0) := fun h j hj => by
          by_cases e : j = i
          · rw [e]; exact h
          · exact hok.out j (by omega)
        have HNE : Hid (¬ (l.getD i 0 = m.getD i 0) → M = false) := fun h => HN.out fun e => h (by rw [e])
        obtain ⟨R, hR⟩ : ∃ R, R = l.getD i 0 := ⟨_, rfl⟩
        obtain ⟨R2, hR2⟩ : ∃ R, R = m.getD i 0 := ⟨_, rfl⟩
        rw [← hR] at c0 HOK HNE
        rw [← hR2] at d0 HOK HNE
        have i1 : (0 : Int) ≤ (i : Int) := by omega
        have i2 : (i : Int) < (k : Int) := by omega
        clear hc hc2 hR hR2
        cases e2 : (R == R2)
        · have HF : Hid (M = false) := HNE.out fun h => by rw [h] at e2; simp at e2
          go_wp2
          go_quiet (fail)
          go_wp2
          go_ret
          exact ⟨ret_bool HF.out.symm, hbel.out.trans (below_drewN _ _ _)⟩
        · have HT : Hid (∀ j, j < i + 1 → l.getD j 0 = m.getD j 0) := HOK.out (by simpa using e2)
          go_wp2
          go_quiet (fail)
          go_wp2
          go_roundw
          case rel => exact ⟨i + 1, by omega, by go_num, HT, hbel.out.trans (below_drewN _ _ _)⟩
          case measure => simp [intOf]; omega
      · obtain rfl : i = k := by omega
        have HF : Hid (M = true) := HY.out (HE.out HL.out hok.out)
        go_wp2
        go_ret
        exact ⟨ret_bool HF.out.symm, hbel.out⟩
  · have h1 : ¬ (l.length : Int) = (m.length : Int) := by omega
    have HF : Hid (M = false) := HN.out fun e => hl (by rw [e])
    have h2 : ((l.length : Int) == (m.length : Int)) = false := by simpa using h1
    go_enter Try.func30, Try.ntmps30
    go_wp2
    go_ret
    exact ⟨ret_bool HF.out.symm, Below.refl _ _⟩
end Go.Proofs.Ytfbfiecamaginaa
