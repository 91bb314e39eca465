/- What refs, leaves and descriptors bytes are, by the program. -/
import Derived.Test.YtjhbbnacaebihaaDsB
namespace Go.Proofs.Ytjhbbnacaebihaa
open Go.RowKit

set_option maxHeartbeats 2000000 in
set_option maxRecDepth 100000 in
theorem readRef_any (w : World) (ao : Option Addr) (n cp : Nat) (F : Nat → UInt8) (h : Bec w ao n cp F) (hn : 6 ≤ n) :
    Calls Try.prog 61 #[.slice ao n cp] w fun e w' => e = .returned (.agg #[.int .i64 ((nm F 0 2 : Nat) : Int), .int .i64 ((nm F 2 4 : Nat) : Int)]) ∧ Below w.heap.size w w' := by
  have HX : Hid (Bec w ao n cp F) := h
  have HM : Hid (nm (fun j => F (2 + j)) 0 4 = nm F 2 4) := nm_move F 2 0 4
  clear h
  obtain ⟨w0, hw0⟩ : ∃ w0, w0 = w.alloc (.cells #[.int .i64 0, .int .i64 0] 27) := ⟨_, rfl⟩
  have b0 : Below w.heap.size w w0 := by rw [hw0]; exact below_alloc _ _
  go_enter Try.func61, Try.ntmps61
  go_wp2_with fail
  rw [← hw0]
  refine (takeNumber_any _ ao n cp 2 F (HX.out.below b0) (by omega) (by omega) (by omega)).mono ?_
  rintro e wa ⟨bo, rfl, hbo, ha⟩
  go_wp2_with fail
  refine (takeNumber_any _ bo (n - 2) (cp - 2) 4 _ (hbo _ (HX.out.below (below_then b0 ha))) (by omega) (by omega) (by omega)).mono ?_
  rintro e wb ⟨co, rfl, hco, hb⟩
  have hB := below_then ha hb
  have m0 := blk_held hw0 hB 0 rfl
  have m1 := blk_held hw0 hB 1 rfl
  have f := blk_free hw0 hB
  clear hw0 hco hbo
  rw [HM.out]
  go_wp2_with fail
  refine bodyPost_ret (v := .agg #[.int .i64 ((nm F 0 2 : Nat) : Int), .int .i64 ((nm F 2 4 : Nat) : Int)]) (by simp [results, Try.results61, go_sem, m0, m1]) rfl ⟨rfl, ?_⟩
  exact ((below_then b0 hB).setCell (Nat.le_refl _) _).setCell (Nat.le_refl _) _
/-- The first i of a list; 0 behind. -/
def fstI (i : Nat) (R : Nat → Int) : Nat → Int := fun t => if t < i then R t else 0
theorem fstI_succ (i : Nat) (R : Nat → Int) : put i (R i) (fstI i R) = fstI (i + 1) R := by
  funext t
  unfold put fstI
  by_cases e : t = i
  · rw [if_pos e, if_pos (by omega), e]
  · rw [if_neg e]
    by_cases h : t < i
    · rw [if_pos h, if_pos (by omega)]
    · rw [if_neg h, if_neg (by omega)]
theorem fstI_all {i t : Nat} (R : Nat → Int) (h : t < i) : fstI i R t = R t := if_pos h
theorem fstI_zero (R : Nat → Int) : fstI 0 R = fun _ => 0 := by funext t; exact if_neg (by omega)
set_option maxHeartbeats 4000000 in
set_option maxRecDepth 100000 in
theorem readLeaf_any (w : World) (ao : Option Addr) (n cp m : Nat) (F : Nat → UInt8) (h : Bec w ao n cp F) (hm : 6 * m ≤ n) (hm2 : m ≤ 1000) :
    Calls Try.prog 36 #[.slice ao n cp, .int .i64 (m : Int)] w fun e w' => ∃ g bo, e = .returned (.agg #[.int .i64 0, .int .i64 0, .int .i64 0, .slice (some ⟨g, 0, none⟩) m m, .slice bo (n - 6 * m) (cp - 6 * m)]) ∧ OwR w.heap.size w' (some ⟨g, 0, none⟩) m m (rdR F 0) (rdV F 0) ∧ (∀ u, Bec u ao n cp F → Bec u bo (n - 6 * m) (cp - 6 * m) (fun j => F (6 * m + j))) ∧ Below w.heap.size w w' := by
  have HX : Hid (Bec w ao n cp F) := h
  have hroom := h.room
  have HM : Hid (∀ i, nm (fun j => F (6 * i + j)) 0 2 = nm F (6 * i) 2 ∧ nm (fun j => F (6 * i + j)) 2 4 = nm F (6 * i + 2) 4) := fun i => ⟨nm_move F (6 * i) 0 2, nm_move F (6 * i) 2 4⟩
  have HRV : Hid (∀ i, rdR F 0 i = ((nm F (6 * i) 2 : Nat) : Int) ∧ rdV F 0 i = ((nm F (6 * i + 2) 4 : Nat) : Int)) := fun i => by unfold rdR rdV; rw [Nat.zero_add]; exact ⟨rfl, rfl⟩
  clear h
  obtain ⟨j0, hj, hj0, hj1, hj2⟩ := info_parts info27
  obtain ⟨Z, hZ⟩ : ∃ Z, Z = madeCells #[Value.int .i64 0, .int .i64 0] (m * 2) := ⟨_, rfl⟩
  have hmk : ∀ w, (Instr.makeSlice 28 (.int .i64 (m : Int)) (.int .i64 (m : Int))).run Try.prog w = .ok (.slice (some ⟨w.heap.size, 0, none⟩) m m) (w.alloc (.cells Z 27)) := by
    intro w
    have := run_make (P := Try.prog) w 28 27 j0 _ Try.underlying28 hj hj0 .i64 .i64 (m : Int) (m : Int) (by omega) (Int.le_refl _) (by rw [hj2]; omega) (by omega)
    rw [Int.toNat_natCast, hj1] at this
    rw [this, hZ]
    rfl
  have HZ : Hid (Z.toList = rvl (fun _ => 0) (fun _ => 0) m ∧ Z.size = m * 2) := by
    refine ⟨by rw [hZ]; exact made_zeros m, by rw [hZ, size_madeCells]⟩
  clear hZ hj hj0 hj1 hj2
  obtain ⟨w0, hw0⟩ : ∃ w0, w0 = w.alloc (.cells #[.int .i64 0, .int .i64 0, .int .i64 0, .slice none 0 0, .slice none 0 0] 56) := ⟨_, rfl⟩
  have b0 : Below w.heap.size w w0 := by rw [hw0]; exact below_alloc _ _
  obtain ⟨w1, hw1⟩ : ∃ w1, w1 = w0.alloc (.cells Z 27) := ⟨_, rfl⟩
  have b1 : Below w0.heap.size w0 w1 := by rw [hw1]; exact below_alloc _ _
  have z0 : w0.heap.size = w.heap.size + 1 := by rw [hw0]; simp
  have HO : Hid (OwR w0.heap.size w1 (some ⟨w.heap.size + 1, 0, none⟩) m m (fstI 0 (rdR F 0)) (fstI 0 (rdV F 0))) := by
    show OwR _ _ _ _ _ _ _
    rw [fstI_zero, fstI_zero, hw1, ← z0]
    unfold OwR
    rw [← HZ.out.1]
    exact World.ownsRow_lit w0 Z m (Nat.le_refl _) (by unfold maxLen; omega) HZ.out.2
  have HB1 : Hid (Below w0.heap.size w0 w1) := b1
  have HA1 : Hid (Bec w1 ao n cp F) := HX.out.below (below_then b0 b1)
  have HB0 : Hid (Below w.heap.size w w0) := b0
  have HC0 : Hid (∀ v, Below w0.heap.size w0 v → (v.cell? ⟨w.heap.size, 0, none⟩ = some (.int .i64 0) ∧ v.cell? ⟨w.heap.size, 1, none⟩ = some (.int .i64 0) ∧ v.cell? ⟨w.heap.size, 2, none⟩ = some (.int .i64 0) ∧ v.cell? ⟨w.heap.size, 3, none⟩ = some (.slice none 0 0) ∧ v.cell? ⟨w.heap.size, 4, none⟩ = some (.slice none 0 0)) ∧ ∀ i, v.frozen? ⟨w.heap.size, i, none⟩ = false) := fun v hv => ⟨mea_held hw0 hv, blk_free hw0 hv⟩
  have HS0 : Hid (w0.heap.size = w.heap.size + 1) := z0
  go_enter Try.func36, Try.ntmps36
  go_wp2_with fail
  rw [← hw0, ← hw1]
  clear hw0 hw1 b0 b1 z0
  go_loopw [0, 11] (fun y x wr => ∃ i l c : Nat, i ≤ m ∧ l + 6 * i = n ∧ c + 6 * i = cp ∧ x = .int .i64 (i : Int) ∧ (∃ bo, y = .slice bo l c ∧ Hid (∀ u, Bec u ao n cp F → Bec u bo l c (fun j => F (6 * i + j)))) ∧ Hid (OwR w0.heap.size wr (some ⟨w.heap.size + 1, 0, none⟩) m m (fstI i (rdR F 0)) (fstI i (rdV F 0))) ∧ Hid (Below w0.heap.size w0 wr)) (fun _ x _ => m - (intOf x).toNat)
  case atStart => exact ⟨0, n, cp, Nat.zero_le _, rfl, rfl, rfl, ⟨ao, rfl, fun u hu => hu.congr fun j _ => by rw [Nat.mul_zero, Nat.zero_add]⟩, HO, HB1⟩
  case round =>
    obtain ⟨i, l, c, hi, hl, hc, rfl, ⟨bo, rfl, hbo⟩, hown, hbel⟩ := hrel
    by_cases hlt : i < m
    · have hl6 : 6 ≤ l := by omega
      have hlc : l ≤ c := (hbo.out _ HX.out).room
      have HRR := fun w h => readRef_any w bo l c (fun j => F (6 * i + j)) h hl6
      rw [(HM.out i).1, (HM.out i).2, ← (HRV.out i).1, ← (HRV.out i).2] at HRR
      obtain ⟨ri, hri⟩ : ∃ ri, ri = rdR F 0 i := ⟨_, rfl⟩
      obtain ⟨vi, hvi⟩ : ∃ vi, vi = rdV F 0 i := ⟨_, rfl⟩
      have HF : Hid (put i ri (fstI i (rdR F 0)) = fstI (i + 1) (rdR F 0) ∧ put i vi (fstI i (rdV F 0)) = fstI (i + 1) (rdV F 0)) := by rw [hri, hvi]; exact ⟨fstI_succ _ _, fstI_succ _ _⟩
      rw [← hri, ← hvi] at HRR
      clear hri hvi
      have i1 : (0 : Int) ≤ (i : Int) := by omega
      have i2 : (i : Int) < (m : Int) := by omega
      have c6 : (6 : Int) ≤ (l : Int) := by omega
      have d6 : (6 : Int) ≤ (c : Int) := by omega
      obtain ⟨b, off, rfl, _⟩ := (hbo.out _ HX.out).rd (by omega)
      go_wp2_with fail
      refine (HRR _ (hbo.out _ (HX.out.below (below_step HB0.out hbel.out HB0.out.size)))).mono ?_
      rintro e wa ⟨rfl, ha⟩
      have ho2 := hown.out.below ha
      obtain ⟨q0, q1⟩ := ho2.cell hlt
      have f := ho2.free
      have HO2 : Hid (OwR w0.heap.size ((wa.setCell ⟨w.heap.size + 1, i * 2, none⟩ (.int .i64 ri)).setCell ⟨w.heap.size + 1, i * 2 + 1, none⟩ (.int .i64 vi)) (some ⟨w.heap.size + 1, 0, none⟩) m m (fstI (i + 1) (rdR F 0)) (fstI (i + 1) (rdV F 0))) := by
        have := ho2.set hlt ri vi
        rw [HF.out.1, HF.out.2] at this
        exact this
      clear ho2
      have HB2 : Hid (Below w0.heap.size w0 ((wa.setCell ⟨w.heap.size + 1, i * 2, none⟩ (.int .i64 ri)).setCell ⟨w.heap.size + 1, i * 2 + 1, none⟩ (.int .i64 vi))) := by
        have h1 := below_step hbel.out ha hbel.out.size
        have h2 : w0.heap.size ≤ w.heap.size + 1 := by rw [HS0.out]; exact Nat.le_refl _
        exact (h1.setCell h2 _).setCell h2 _
      have HBO : Hid (∀ u, Bec u ao n cp F → Bec u (some ⟨b, off + 6, none⟩) (l - 6) (c - 6) (fun j => F (6 * (i + 1) + j))) := fun u hu => (bec_behind (hbo.out u hu) hl6).congr fun j _ => by show F (6 * i + (6 + j)) = _; rw [show 6 * i + (6 + j) = 6 * (i + 1) + j by omega]
      by_cases hcap : c = 6
      · obtain rfl : l = 6 := by omega
        subst hcap
        go_wp2_with fail
        refine ⟨⟨i + 1, 0, 0, by omega, by omega, by omega, by go_num, ⟨_, rfl, ?_⟩, HO2, HB2⟩, by simp [intOf]; omega⟩
        exact fun u _ => ⟨fun h => absurd h (Nat.lt_irrefl 0), (fun e => by cases e), Nat.le_refl _⟩
      · have hcap2 : ¬ (c : Int) = 6 := by omega
        go_wp2_with fail
        exact ⟨⟨i + 1, l - 6, c - 6, by omega, by omega, by omega, by go_num, ⟨_, rfl, HBO⟩, HO2, HB2⟩, by simp [intOf]; omega⟩
    · obtain rfl : i = m := by omega
      obtain ⟨⟨m0, m1, m2, m3, m4⟩, f⟩ := HC0.out _ hbel.out
      obtain rfl : l = n - 6 * i := by omega
      obtain rfl : c = cp - 6 * i := by omega
      generalize hl' : n - 6 * i = l at *
      generalize hc' : cp - 6 * i = c at *
      have HL : Hid (n - 6 * i = l ∧ cp - 6 * i = c) := ⟨hl', hc'⟩
      clear hl' hc' hl hc
      go_wp2_with fail
      refine bodyPost_ret (v := .agg #[.int .i64 0, .int .i64 0, .int .i64 0, .slice (some ⟨w.heap.size + 1, 0, none⟩) i i, .slice bo l c]) (by simp [results, Try.results36, go_sem, m0, m1, m2, m3, m4]) rfl ⟨w.heap.size + 1, bo, by rw [HL.out.1, HL.out.2], ?_, ?_, ?_⟩
      all_goals have hW := (((((below_step HB0.out hbel.out HB0.out.size).setCell (p := ⟨w.heap.size, 0, none⟩) (Nat.le_refl _) (.int .i64 0)).setCell (p := ⟨w.heap.size, 1, none⟩) (Nat.le_refl _) (.int .i64 0)).setCell (p := ⟨w.heap.size, 2, none⟩) (Nat.le_refl _) (.int .i64 0)).setCell (p := ⟨w.heap.size, 3, none⟩) (Nat.le_refl _) (.slice (some ⟨w.heap.size + 1, 0, none⟩) i i)).setCell (p := ⟨w.heap.size, 4, none⟩) (Nat.le_refl _) (.slice bo l c)
      · refine ((hown.out.stay fun g hg hg2 => ?_).congr fun t ht => ⟨fstI_all _ ht, fstI_all _ ht⟩).mono HB0.out.size
        have hne : g ≠ w.heap.size := by rw [HS0.out] at hg; omega
        rw [heap_setCell_other _ _ _ _ hne, heap_setCell_other _ _ _ _ hne, heap_setCell_other _ _ _ _ hne, heap_setCell_other _ _ _ _ hne, heap_setCell_other _ _ _ _ hne]
      · rw [HL.out.1, HL.out.2]; exact hbo.out
      · exact hW
end Go.Proofs.Ytjhbbnacaebihaa
