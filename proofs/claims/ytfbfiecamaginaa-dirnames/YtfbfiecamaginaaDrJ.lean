/- Find, by both; lists one behind the other. -/
import Derived.Test.YtfbfiecamaginaaDrI
import Derived.Lib.AppendZeros
namespace Go.Proofs.Ytfbfiecamaginaa
open Go.RowKit Go.Sort

def fiR (E : Int) (l : List En) (s : Nm) : Int := if asI E l s = true then gR l (posE l s) else 0
theorem asI_lt {E : Int} {l : List En} {s : Nm} (h : asI E l s = true) : E = 0 ∧ isE l s = true ∧ posE l s < l.length := by
  unfold asI at h
  rw [Bool.and_eq_true] at h
  have h2 := h.2
  unfold isE at h2
  rw [Bool.and_eq_true] at h2
  exact ⟨by simpa using h.1, h.2, by simpa using h2.1⟩
set_option maxHeartbeats 1000000 in
set_option maxRecDepth 100000 in
theorem Find_any {k r c q : Int} {M : Nat} {e : Int} (hp : PP k r c q M e) (w : World) (ao : Option Addr) (l : List En) (ca : Nat) (hv : Ren w ao l ca) (hf : Few l) (s : Nm) :
    Calls Try.prog 13 #[.agg #[.int .i64 k, .int .i64 r, .int .i64 c, .int .i64 q], .slice ao l.length ca, .string ⟨s.toArray⟩] w fun e' w' =>
      ∃ E, E = erN (erC e M q l) s ∧ e' = .returned (.tuple #[.int .i64 (fiR E l s), .bool (asI E l s), .int .i64 E]) ∧ RowKit.Below w.heap.size w w' := by
  obtain ⟨w0, hw0⟩ : ∃ w0, w0 = w.alloc (.cells #[.int .i64 k, .int .i64 r, .int .i64 c, .int .i64 q] 24) := ⟨_, rfl⟩
  have b0 : RowKit.Below w.heap.size w w0 := by rw [hw0]; exact below_alloc _ _
  have HB0 : Hid (RowKit.Below w.heap.size w w0) := b0
  have HC := asked_any hp w0 ao l ca (hv.below b0) hf s
  obtain ⟨x0, x1, x2, x3⟩ := par_held hw0 (Below.refl _ _)
  have HV : Hid (Ren w0 ao l ca) := hv.below b0
  clear hv hf b0 hp
  go_enter Try.func13, Try.ntmps13
  go_wp2_with fail
  rw [← hw0]
  clear hw0
  refine HC.mono ?_
  rintro _ w1 ⟨E, hE, rfl, h1⟩
  have HE : Hid (E = erN (erC e M q l) s) := hE
  have HB1 : Hid (RowKit.Below w0.heap.size w0 w1) := h1
  clear hE h1 HC x0 x1 x2 x3
  cases hi : asI E l s
  · by_cases h0 : E = 0
    · subst h0
      go_wp2
      go_ret3
      exact ⟨0, HE.out, by unfold fiR; rw [hi]; rfl, below_then HB0.out HB1.out⟩
    · have hz : (E != 0) = true := by simpa using h0
      have H0 : Hid (E ≠ 0) := h0
      clear h0
      go_wp2
      go_ret3
      exact ⟨E, HE.out, by unfold fiR; rw [hi]; rfl, below_then HB0.out HB1.out⟩
  · obtain ⟨h0, h2, h3⟩ := asI_lt hi
    subst h0
    obtain ⟨b, off, rfl, hc⟩ := (HV.out.below HB1.out).at_ (by omega)
    obtain ⟨c0, c1⟩ := hc _ h3
    have HR : Hid (fiR 0 l s = gR l (posE l s)) := by show _ = _; unfold fiR; rw [hi]; rfl
    have HI : Hid (asI 0 l s = true) := hi
    have HAP : Hid (asP 0 l s = posE l s) := rfl
    rw [HAP.out]
    obtain ⟨p, hp⟩ : ∃ p, p = posE l s := ⟨_, rfl⟩
    rw [← hp] at c0 c1 h3 HR ⊢
    obtain ⟨R, hR⟩ : ∃ R, R = gR l p := ⟨_, rfl⟩
    rw [← hR] at c1 HR
    have i1 : (0 : Int) ≤ (p : Int) := by omega
    have i2 : (p : Int) < (l.length : Int) := by omega
    clear hc hp hR hi h2 h3 HAP
    go_wp2
    go_ret3
    exact ⟨0, HE.out, by rw [HR.out, HI.out]; rfl, below_then HB0.out HB1.out⟩
set_option maxHeartbeats 1000000 in
set_option maxRecDepth 100000 in
theorem RFind_any {k r c q : Int} {M : Nat} {e : Int} (hp : PP k r c q M e) (w : World) (ao : Option Addr) (l : List En) (ca : Nat) (hv : Ren w ao l ca) (hf : Few l) (s : Nm) :
    Calls Try.prog 20 #[.agg #[.int .i64 k, .int .i64 r, .int .i64 c, .int .i64 q], .slice ao l.length ca, .string ⟨s.toArray⟩] w fun e' w' =>
      ∃ E, E = erN (erC e M q l) s ∧ e' = .returned (.tuple #[.int .i64 (fiR E l s), .bool (asI E l s), .int .i64 E]) ∧ RowKit.Below w.heap.size w w' := by
  obtain ⟨w0, hw0⟩ : ∃ w0, w0 = w.alloc (.cells #[.int .i64 k, .int .i64 r, .int .i64 c, .int .i64 q] 24) := ⟨_, rfl⟩
  have b0 : RowKit.Below w.heap.size w w0 := by rw [hw0]; exact below_alloc _ _
  have HB0 : Hid (RowKit.Below w.heap.size w w0) := b0
  have HC := named_any hp w0 ao l ca (hv.below b0) hf s
  obtain ⟨x0, x1, x2, x3⟩ := par_held hw0 (Below.refl _ _)
  have HV : Hid (Ren w0 ao l ca) := hv.below b0
  have HA : Hid (∀ u, RowKit.Below w0.heap.size w0 u → Calls Try.prog 44 #[.slice ao l.length ca, .string ⟨s.toArray⟩] u fun e w' => e = .returned (.tuple #[.int .i64 (posE l s : Int), .bool (isE l s)]) ∧ RowKit.Below u.heap.size u w') := fun u hu => at_any u ao l ca (HV.out.below hu) hf s
  obtain ⟨E, hE⟩ : ∃ E, E = erN (erC e M q l) s := ⟨_, rfl⟩
  rw [← hE] at HC
  have HE : Hid (E = erN (erC e M q l) s) := hE
  clear hv hf b0 hp hE
  by_cases h0 : E = 0
  · subst h0
    go_enter Try.func20, Try.ntmps20
    go_wp2_with fail
    rw [← hw0]
    clear hw0
    refine HC.mono ?_
    rintro _ w1 ⟨rfl, h1⟩
    have HB1 : Hid (RowKit.Below w0.heap.size w0 w1) := h1
    have hA := HA.out w1 h1
    clear h1 HC x0 x1 x2 x3
    cases hi : isE l s
    · rw [hi] at hA
      go_wp2_with fail
      refine hA.mono ?_
      rintro _ w2 ⟨rfl, h2⟩
      go_wp2
      go_ret3
      exact ⟨0, HE.out, by unfold fiR asI; rw [hi]; rfl, below_then HB0.out (below_then HB1.out h2)⟩
    · have hi2 : asI 0 l s = true := by unfold asI; rw [hi]; rfl
      obtain ⟨_, h2, h3⟩ := asI_lt hi2
      rw [hi] at hA
      have HR : Hid (fiR 0 l s = gR l (posE l s)) := by show _ = _; unfold fiR; rw [hi2]; rfl
      have HI : Hid (asI 0 l s = true) := hi2
      obtain ⟨b, off, rfl, hc⟩ := (HV.out.below HB1.out).at_ (by omega)
      obtain ⟨c0, c1⟩ := hc _ h3
      obtain ⟨p, hp⟩ : ∃ p, p = posE l s := ⟨_, rfl⟩
      rw [← hp] at c0 c1 h3 HR hA
      obtain ⟨R, hR⟩ : ∃ R, R = gR l p := ⟨_, rfl⟩
      rw [← hR] at c1 HR
      have i1 : (0 : Int) ≤ (p : Int) := by omega
      have i2 : (p : Int) < (l.length : Int) := by omega
      clear hc hp hR hi h2 h3 hi2 c0
      go_wp2_with fail
      refine hA.mono ?_
      rintro _ w2 ⟨rfl, h2⟩
      have c2 := held c1 h2
      go_wp2
      go_ret3
      exact ⟨0, HE.out, by rw [HR.out, HI.out]; rfl, below_then HB0.out (below_then HB1.out h2)⟩
  · have hz : (E != 0) = true := by simpa using h0
    have H0 : Hid (E ≠ 0) := h0
    clear h0
    go_enter Try.func20, Try.ntmps20
    go_wp2_with fail
    rw [← hw0]
    clear hw0
    refine HC.mono ?_
    rintro _ w1 ⟨rfl, h1⟩
    go_wp2
    go_ret3
    refine ⟨E, HE.out, ?_, below_then HB0.out h1⟩
    unfold fiR asI
    rw [decide_eq_false H0.out]
    rfl
theorem zero_sizeE (m n : Nat) : (Builtin.zeroCells (Value.agg #[.string ⟨#[]⟩, .int .i64 0]).cells m ++ Builtin.zeroCells (Value.agg #[.string ⟨#[]⟩, .int .i64 0]).cells n).size = (m + n) * 2 := by
  rw [Array.size_append, size_zeroCells, size_zeroCells]
  have : (Value.agg #[.string ⟨#[]⟩, .int .i64 0]).cells.size = 2 := rfl
  rw [this]; omega
set_option maxHeartbeats 1000000 in
set_option maxRecDepth 100000 in
theorem grow_any (w : World) (n : Nat) (hn : n ≤ 3000000) :
    Calls Try.prog 54 #[.slice none 0 0, .int .i64 (n : Int)] w fun e w' => ∃ ao cap, e = .returned (.slice ao 0 cap) ∧ OwE w.heap.size w' ao [] cap ∧ RowKit.Below w.heap.size w w' := by
  by_cases h0 : n = 0
  · subst h0
    go_enter Try.func54, Try.ntmps54
    go_wp2
    go_ret
    exact ⟨none, 0, rfl, owe_nil _ _, Below.refl _ _⟩
  · obtain ⟨j0, hj, hj0, hj1, hj2⟩ := info_parts info34
    have hr := fun ty => Lib.run_append_nil_zeros (P := Try.prog) w 26 3 ty 34 j0 (.agg #[.string ⟨#[]⟩, .int .i64 0]) .i64 .i64 Try.underlying26 Try.underlying3 hj hj0 n (by omega) (by rw [hj1]; decide) (by omega) (by rw [hj2]; omega)
    have hc1 := grownCap_ge w n 0 34
    have hc2 := grownCap_le_maxLen w n 0 34 (by unfold maxLen; omega)
    obtain ⟨cp, hcp⟩ : ∃ c, c = grownCap w n 0 34 := ⟨_, rfl⟩
    rw [← hcp] at hr hc1 hc2
    obtain ⟨w1, hw1⟩ : ∃ w1, w1 = w.drew.alloc (.cells (Builtin.zeroCells (Value.agg #[.string ⟨#[]⟩, .int .i64 0]).cells n ++ Builtin.zeroCells (Value.agg #[.string ⟨#[]⟩, .int .i64 0]).cells (cp - n)) 34) := ⟨_, rfl⟩
    rw [← hw1] at hr
    have HO : Hid (OwE w.heap.size w1 (some ⟨w.heap.size, 0, none⟩) [] cp) := by
      refine ⟨rfl, .inr ⟨w.heap.size, cp, _, rfl, Nat.le_refl _, by rw [hw1]; exact heap_alloc_new w.drew _, Nat.zero_le _, hc2, ?_, by simp [evl]⟩⟩
      rw [zero_sizeE, Nat.add_sub_cancel' hc1]
    have HB : Hid (RowKit.Below w.heap.size w w1) := by rw [hw1]; exact (below_drew _ w).alloc (Nat.le_refl _) _
    clear hw1 hcp hj hj0 hj1 hj2 hc2
    have hpos : (0 : Int) < (n : Int) := by omega
    go_enter Try.func54, Try.ntmps54
    go_wp2_with (at_builtin; refine Lib.wpList_append_run _ (by rfl) (.tmp 20) (.tmp 21) 26 3 (by rfl) (.slice none 0 0) (.int .i64 (n : Int)) (by rfl) (by rfl) _ _ (hr _) ?_)
    go_ret
    exact ⟨_, _, rfl, HO.out, HB.out⟩
/-- The first i lists, one behind the other. -/
def cat (ls : Nat → List En) : Nat → List En
  | 0 => []
  | i + 1 => cat ls i ++ ls i
theorem cat_le (ls : Nat → List En) : ∀ (i j : Nat), i ≤ j → (cat ls i).length ≤ (cat ls j).length := fun i j h => by
  induction j with
  | zero =>
    obtain rfl : i = 0 := by omega
    exact Nat.le_refl _
  | succ j ih =>
    rcases Nat.lt_or_ge i (j + 1) with h1 | h1
    · have := ih (by omega)
      rw [cat, List.length_append]; omega
    · obtain rfl : i = j + 1 := by omega
      exact Nat.le_refl _
set_option maxHeartbeats 2000000 in
set_option maxRecDepth 100000 in
theorem concat_any (w : World) (g m : Nat) (hm : m ≤ 100) (ad : Nat → Option Addr) (ls : Nat → List En) (cp : Nat → Nat) (hc : ∀ i, i < m → w.cell? ⟨g, i, none⟩ = some (.slice (ad i) (ls i).length (cp i)) ∧ Ren w (ad i) (ls i) (cp i)) (hlen : (cat ls m).length ≤ 3000000) :
    Calls Try.prog 35 #[.slice (some ⟨g, 0, none⟩) m m] w fun e w' => ∃ ro rc L, L = cat ls m ∧ e = .returned (.slice ro L.length rc) ∧ OwE w.heap.size w' ro L rc ∧ RowKit.Below w.heap.size w w' := by
  have HC : Hid (∀ u, RowKit.Below w.heap.size w u → ∀ i, i < m → u.cell? ⟨g, i, none⟩ = some (.slice (ad i) (ls i).length (cp i)) ∧ Ren u (ad i) (ls i) (cp i)) := fun u hu i hi => ⟨held (hc i hi).1 hu, (hc i hi).2.below hu⟩
  have HK : Hid (∀ i, i < m → (cat ls i).length + (ls i).length ≤ 3000000) := fun i hi => by
    have := cat_le ls (i + 1) m hi
    rw [cat, List.length_append] at this; omega
  have HG := fun u => grow_any u (cat ls m).length hlen
  have hm2 : (m : Int) ≤ 100 := by omega
  clear hc
  go_enter Try.func35, Try.ntmps35
  go_wp2_with fail
  go_loopw [3, 11] (fun v x wr => ∃ i z : Nat, i ≤ m ∧ x = .int .i64 (i : Int) ∧ v = .int .i64 (z : Int) ∧ Hid (z = (cat ls i).length) ∧ wr = w) (fun _ x _ => m - (intOf x).toNat)
  case atStart => exact ⟨0, 0, Nat.zero_le _, rfl, rfl, rfl, rfl⟩
  case round =>
    obtain ⟨i, z, hi, rfl, rfl, hz, hw⟩ := hrel
    have hw2 := hw.symm
    subst hw2
    clear hw
    by_cases hlt : i < m
    · obtain ⟨c0, hr⟩ := HC.out w (Below.refl _ _) i hlt
      have hk := HK.out i hlt
      have HZ : Hid (z + (ls i).length = (cat ls (i + 1)).length) := by show _ = _; rw [cat, List.length_append, hz.out]
      have hzk : z + (ls i).length ≤ 3000000 := by rw [hz.out]; exact hk
      obtain ⟨n, hn⟩ : ∃ n, n = (ls i).length := ⟨_, rfl⟩
      rw [← hn] at c0 HZ hzk
      have i1 : (0 : Int) ≤ (i : Int) := by omega
      have i2 : (i : Int) < (m : Int) := by omega
      have i3 : ¬ (z : Int) + (n : Int) < 0 := by omega
      clear hn hk hr
      go_wp2
      go_roundw
      case rel => exact ⟨i + 1, z + n, by omega, by go_num, by go_num, HZ, trivial⟩
      case measure => simp [intOf]; omega
    · obtain rfl : i = m := by omega
      rw [← hz.out] at HG
      go_wp2_with fail
      refine (HG _).mono ?_
      rintro _ w1 ⟨ao, cap, rfl, hown, hb1⟩
      have HO1 : Hid (OwE w.heap.size w1 ao [] cap) := hown
      have HB1 : Hid (RowKit.Below w.heap.size w w1) := hb1
      clear hown hb1 HG
      go_wp2_with fail
      go_loopw [6, 27] (fun v x wu => ∃ (j : Nat) (bo : Option Addr) (cb : Nat) (L : List En), j ≤ i ∧ x = .int .i64 (j : Int) ∧ v = .slice bo L.length cb ∧ Hid (L = cat ls j) ∧ Hid (OwE w.heap.size wu bo L cb) ∧ Hid (RowKit.Below w.heap.size w wu)) (fun _ x _ => i - (intOf x).toNat)
      case atStart => exact ⟨0, ao, cap, [], Nat.zero_le _, rfl, rfl, rfl, HO1, HB1⟩
      case round =>
        obtain ⟨j, bo, cb, L, hj, rfl, rfl, hL, hown, hbel⟩ := hrel
        by_cases hjt : j < i
        · obtain ⟨c0, hr⟩ := HC.out wr hbel.out j hjt
          have hk := HK.out j hjt
          rw [← hL.out] at hk
          have HLC : Hid (L ++ ls j = cat ls (j + 1)) := by show _ = _; rw [cat, hL.out]
          obtain ⟨l, hl⟩ : ∃ l, l = ls j := ⟨_, rfl⟩
          rw [← hl] at c0 hr hk HLC
          have i1 : (0 : Int) ≤ (j : Int) := by omega
          have i2 : (j : Int) < (i : Int) := by omega
          have hsz := hbel.out.size
          have hge := hown.out.ge
          clear hl
          go_wp2_with (at_builtin; refine append_ents (by rfl) (.tmp 31) (.tmp 32) (by rfl) w.heap.size cb (cp j) bo (ad j) L l (by rfl) (by rfl) hown.out hr (by omega) hsz ?_; intro bo2 cb2 w2 L2 hL2 ho2 hg2; have HL2 : Hid (L2 = L ++ l) := hL2; clear hL2)
          go_roundw
          case rel => exact ⟨j + 1, bo2, cb2, L2, by omega, by go_num, rfl, by show _ = _; rw [HL2.out, HLC.out], ho2, hbel.out.grown hg2 hsz hge⟩
          case measure => simp [intOf]; omega
        · obtain rfl : j = i := by omega
          go_wp2
          go_ret
          exact ⟨bo, cb, L, hL.out, rfl, hown.out, hbel.out⟩
end Go.Proofs.Ytfbfiecamaginaa
