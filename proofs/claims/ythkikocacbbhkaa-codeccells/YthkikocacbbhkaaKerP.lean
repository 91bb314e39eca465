/- What the document's own sum of multiples comes to, and whether two lists are the same. -/
import Derived.Test.YthkikocacbbhkaaKerN
import Derived.Test.YthkikocacbbhkaaKerK
import Derived.BigQuiet
namespace Go.Proofs.Ythkikocacbbhkaa.Ker
open Go.RowKit

set_option maxHeartbeats 1000000 in
set_option maxRecDepth 100000 in
theorem rdot_any (w : World) (co lo : Option Addr) (lc cc ll cl : Nat) (F : Nat → Nat) (A : Nat → Option Addr) (C L : Nat → Nat) (H : Nat → Nat → Nat)
    (hlc : lc ≤ 1000000) (hll : ll ≤ 1000000) (hc : Rd w co lc F) (hl : Lst w lo ll A C L H) (hL : ∀ i, i < ll → L i ≤ 1000000) :
    Calls Try.prog 35 #[.slice co lc cc, .slice lo ll cl] w (Made w (okL lc ll L) (n0 ll L) (tot F H ll)) := by
  have HC : Hid (Rd w co lc F) := hc
  have HL : Hid (Lst w lo ll A C L H) := hl
  have HM : Hid (∀ i, i < ll → L i ≤ 1000000) := hL
  clear hc hl hL
  by_cases h1 : lc ≤ 16
  · by_cases h2 : ll = lc
    · subst h2
      have hbq : ((ll : Int) == (ll : Int)) = true := by simp
      by_cases hall : ∀ i, i < ll → L i ≤ 65536 ∧ L i = L 0
      · rw [show okL ll ll L = true from decide_eq_true ⟨h1, rfl, hall⟩]
        have HA : Hid (∀ i, i < ll → L i ≤ 65536 ∧ L i = L 0) := hall
        clear hall
        by_cases hz : ll = 0
        · subst hz
          go_enter Try.func35, Try.ntmps35
          go_wp2
          go_loop [6] (fun i => i = .int .i64 0) (fun i => 0)
          case atStart => rfl
          case round =>
            obtain rfl := hrel
            go_wp2
            go_ret2
            exact ⟨none, rfl, .inl ⟨rfl, rfl, tot_lt F H HC.out.1 0⟩, Below.refl _ _⟩
        · obtain ⟨b, off, rfl, hcl⟩ := HL.out.at_ (by omega)
          have HCL : Hid (∀ i, i < ll → w.cell? ⟨b, off + i, none⟩ = some (.slice (A i) (L i) (C i))) := hcl
          have c0 := hcl 0 (by omega)
          rw [Nat.add_zero] at c0
          have hzq : ((ll : Int) == 0) = false := by simpa using hz
          obtain ⟨n, hn⟩ : ∃ n, n = L 0 := ⟨_, rfl⟩
          have HN : Hid (n = L 0) := hn
          rw [← hn] at c0
          rw [show n0 ll L = n by rw [n0, if_neg hz, hn]]
          have hn1 : n ≤ 65536 := by rw [hn]; exact (HA.out 0 (by omega)).1
          have HE : Hid (∀ i, i < ll → L i = n) := fun i hi => by rw [hn]; exact (HA.out i hi).2
          clear hcl hn
          have hmk := run_make_row' (P := Try.prog) 23 5 (.int .u8 0) 1 Try.underlying23 info5 rfl .i64 .i64 n (by omega) (by omega)
          go_enter Try.func35, Try.ntmps35
          go_wp2
          go_loopw [6] (fun i wr => ∃ k : Nat, k ≤ ll ∧ i = .int .i64 k ∧ Hid (Below w.heap.size w wr)) (fun i _ => ll - (intOf i).toNat)
          case atStart => exact ⟨0, Nat.zero_le _, rfl, Below.refl _ _⟩
          case round =>
            obtain ⟨k, hk, rfl, hbel⟩ := hrel
            have d0 := World.block_lt_of_cell? w _ c0
            simp only at d0
            have e0 := (hbel.out.cell d0).trans c0
            by_cases hlt : k < ll
            · have ck := (hbel.out.cell (show (⟨b, off + k, none⟩ : Addr).block < w.heap.size from d0)).trans (HCL.out k hlt)
              rw [HE.out k hlt] at ck
              have i1 : (0 : Int) ≤ (k : Int) := by omega
              have i2 : (k : Int) < (ll : Int) := by omega
              have i3 : (0 : Int) < (ll : Int) := by omega
              have hd : decide ((65536 : Int) < (n : Int)) = false := by simp; omega
              have hbn : ((n : Int) == (n : Int)) = true := by simp
              go_wp2
              go_quiet (fail)
              go_wp2
              go_roundw
              case rel => exact ⟨k + 1, by omega, by go_num, ⟨hbel.out.os, hbel.out.tape, hbel.out.output, hbel.out.size, hbel.out.block⟩⟩
              case measure => simp [intOf]; omega
            · obtain rfl : k = ll := by omega
              obtain ⟨w1, rfl⟩ : ∃ x, x = wr := ⟨wr, rfl⟩
              go_wp2
              go_loopw [7, 8] (fun v i wr => ∃ j : Nat, j ≤ k ∧ i = .int .i64 j ∧ (∃ g, v = .slice (some ⟨g, 0, none⟩) n n ∧ w1.heap.size ≤ g ∧ Hid (Own wr g n (tot F H j))) ∧ Hid (Below w1.heap.size w1 wr)) (fun _ i _ => k - (intOf i).toNat)
              case atStart => exact ⟨0, Nat.zero_le _, rfl, ⟨_, rfl, Nat.le_refl _, own_made w1 n⟩, below_alloc _ _⟩
              case round =>
                obtain ⟨j, hj, rfl, ⟨g, rfl, hg, hown⟩, hbel2⟩ := hrel
                have bb : Below w.heap.size w wr := below_step hbel.out hbel2.out hbel.out.size
                by_cases hlt : j < k
                · obtain ⟨b', off', rfl, hcc⟩ := (HC.out.below bb).2 (by omega)
                  have c1 := hcc j hlt
                  have c2 := (bb.cell (show (⟨b, off + j, none⟩ : Addr).block < w.heap.size from d0)).trans (HCL.out j hlt)
                  rw [HE.out j hlt] at c2
                  have HR : Hid (Rd wr (A j) n (H j)) := by have := (HL.out.below bb).rd j hlt; rwa [HE.out j hlt] at this
                  clear hcc
                  have i1 : (0 : Int) ≤ (j : Int) := by omega
                  have i2 : (j : Int) < (k : Int) := by omega
                  have HP : Hid (Calls Try.prog 48 #[.slice (some ⟨g, 0, none⟩) n n, .int .u8 (F j : Int), .slice (A j) n (C j)] wr.drew fun e w' => ∃ g, e = .returned (.slice (some ⟨g, 0, none⟩) n n) ∧ wr.drew.heap.size ≤ g ∧ Own w' g n (tot F H (j + 1)) ∧ Below wr.drew.heap.size wr.drew w') :=
                    radd_any wr.drew (F j) _ _ n n (C j) (tot F H j) (H j) (by omega) (HC.out.1 j) hown.out.rd HR.out
                  go_wp2
                  refine wp_region_still_tail 9 (by kernel_rfl) (by kernel_rfl) ?_
                  simp only [List.take_succ_cons, List.take_zero, List.drop_succ_cons, List.drop_zero]
                  repeat still_step
                  refine wpStill_nil ?_
                  go_wp2_with (go_at_call 48; refine HP.out.mono ?_; rintro e w' ⟨g', rfl, hg', ho', hb'⟩)
                  have ho2 : Hid (Own w' g' n (tot F H (j + 1))) := ho'
                  have hg2 : w1.heap.size ≤ g' := Nat.le_trans hbel2.out.size hg'
                  have hb2 : Hid (Below w1.heap.size w1 w') := below_step hbel2.out.drew hb' hbel2.out.size
                  clear ho' hb' hg'
                  go_roundw
                  case rel => exact ⟨j + 1, by omega, by go_num, ⟨g', rfl, hg2, ho2⟩, hb2⟩
                  case measure => simp [intOf]; omega
                · obtain rfl : j = k := by omega
                  go_wp2
                  go_ret2
                  exact ⟨_, rfl, .inr ⟨g, rfl, Nat.le_trans hbel.out.size hg, hown.out⟩, bb⟩
      · rw [show okL ll ll L = false from decide_eq_false fun h => hall h.2.2]
        obtain ⟨q, hq, hne, heq⟩ : ∃ q, q < ll ∧ ¬ (L q ≤ 65536 ∧ L q = L 0) ∧ ∀ i, i < q → L i ≤ 65536 ∧ L i = L 0 := by
          obtain ⟨i, hi⟩ := Classical.not_forall.1 hall
          obtain ⟨p1, p2⟩ := Classical.not_imp.1 hi
          obtain ⟨k, hk, p3, p4⟩ := exists_first (p := fun i => L i ≤ 65536 ∧ L i = L 0) i p2
          exact ⟨k, by omega, p3, p4⟩
        have HE : Hid (∀ i, i < q → L i ≤ 65536 ∧ L i = L 0) := heq
        have HNE : Hid (¬ (L q ≤ 65536 ∧ L q = L 0)) := hne
        clear hall heq hne
        obtain ⟨b, off, rfl, hcl⟩ := HL.out.at_ (by omega)
        have HCL : Hid (∀ i, i < ll → w.cell? ⟨b, off + i, none⟩ = some (.slice (A i) (L i) (C i))) := hcl
        have c0 := hcl 0 (by omega)
        rw [Nat.add_zero] at c0
        clear hcl
        go_enter Try.func35, Try.ntmps35
        go_wp2
        go_loopw [6] (fun i wr => ∃ k : Nat, k ≤ q ∧ i = .int .i64 k ∧ Hid (Below w.heap.size w wr)) (fun i _ => ll - (intOf i).toNat)
        case atStart => exact ⟨0, Nat.zero_le _, rfl, Below.refl _ _⟩
        case round =>
          obtain ⟨k, hk, rfl, hbel⟩ := hrel
          have d0 := World.block_lt_of_cell? w _ c0
          simp only at d0
          have e0 := (hbel.out.cell d0).trans c0
          have ck := (hbel.out.cell (show (⟨b, off + k, none⟩ : Addr).block < w.heap.size from d0)).trans (HCL.out k (by omega))
          have i1 : (0 : Int) ≤ (k : Int) := by omega
          have i2 : (k : Int) < (ll : Int) := by omega
          have i3 : (0 : Int) < (ll : Int) := by omega
          by_cases hlt : k < q
          · rw [(HE.out k hlt).2] at ck
            have hd : decide ((65536 : Int) < (L 0 : Int)) = false := by have := HE.out k hlt; simp; omega
            have hbn : ((L 0 : Int) == (L 0 : Int)) = true := by simp
            go_wp2
            go_quiet (fail)
            go_wp2
            go_roundw
            case rel => exact ⟨k + 1, by omega, by go_num, ⟨hbel.out.os, hbel.out.tape, hbel.out.output, hbel.out.size, hbel.out.block⟩⟩
            case measure => simp [intOf]; omega
          · obtain rfl : k = q := by omega
            by_cases hbig : L k ≤ 65536
            · have hd : decide ((65536 : Int) < (L k : Int)) = false := by simp; omega
              have hbn : ((L k : Int) != (L 0 : Int)) = true := by
                have : ¬ L k = L 0 := fun e => HNE.out ⟨hbig, e⟩
                simp; omega
              go_wp2
              go_quiet (fail)
              go_wp2
              go_ret2
              exact ⟨none, rfl, .inl ⟨rfl, rfl, tot_lt F H HC.out.1 ll⟩, ⟨hbel.out.os, hbel.out.tape, hbel.out.output, hbel.out.size, hbel.out.block⟩⟩
            · have hd : decide ((65536 : Int) < (L k : Int)) = true := by simp; omega
              go_wp2
              go_quiet (fail)
              go_wp2
              go_ret2
              exact ⟨none, rfl, .inl ⟨rfl, rfl, tot_lt F H HC.out.1 ll⟩, ⟨hbel.out.os, hbel.out.tape, hbel.out.output, hbel.out.size, hbel.out.block⟩⟩
    · have hbq : ((ll : Int) != (lc : Int)) = true := by simp; omega
      rw [show okL lc ll L = false from decide_eq_false fun h => h2 h.2.1]
      go_enter Try.func35, Try.ntmps35
      go_wp2
      go_ret2
      exact ⟨none, rfl, .inl ⟨rfl, rfl, tot_lt F H HC.out.1 ll⟩, Below.refl _ _⟩
  · rw [show okL lc ll L = false from decide_eq_false fun h => h1 h.1]
    go_enter Try.func35, Try.ntmps35
    go_wp2
    go_ret2
    exact ⟨none, rfl, .inl ⟨rfl, rfl, tot_lt F H HC.out.1 ll⟩, Below.refl _ _⟩
set_option maxHeartbeats 1000000 in
set_option maxRecDepth 100000 in
theorem sameAll_any (w : World) (ao bo : Option Addr) (ll ca cb : Nat) (A B : Nat → Option Addr) (C D L : Nat → Nat) (H : Nat → Nat → Nat) (hll : ll ≤ 1000000) (ha : Lst w ao ll A C L H) (hb : Lst w bo ll B D L H) :
    Calls Try.prog 19 #[.slice ao ll ca, .slice bo ll cb] w fun e w' => e = .returned (.bool true) ∧ Below w.heap.size w w' := by
  have HA : Hid (Lst w ao ll A C L H) := ha
  have HB : Hid (Lst w bo ll B D L H) := hb
  clear ha hb
  have hbq : ((ll : Int) == (ll : Int)) = true := by simp
  go_enter Try.func19, Try.ntmps19
  go_wp2
  go_loopw [5] (fun i wr => ∃ k : Nat, k ≤ ll ∧ i = .int .i64 k ∧ Hid (Below w.heap.size w wr)) (fun i _ => ll - (intOf i).toNat)
  case atStart => exact ⟨0, Nat.zero_le _, rfl, Below.refl _ _⟩
  case round =>
    obtain ⟨k, hk, rfl, hbel⟩ := hrel
    by_cases hlt : k < ll
    · obtain ⟨b, off, rfl, hca⟩ := (HA.out.below hbel.out).at_ (by omega)
      obtain ⟨b', off', rfl, hcb⟩ := (HB.out.below hbel.out).at_ (by omega)
      have c1 := hca k hlt
      have c2 := hcb k hlt
      have v1 : ∀ m, (convert 23 9 (.slice (A k) (L k) (C k))).run Try.prog (wr.drewN m) = .ok (.string (str (L k) (H k))) (wr.drewN m) := fun m => conv_any (w := wr.drewN m) ((HA.out.below hbel.out).rd k hlt) (C k)
      have v2 : ∀ m, (convert 23 9 (.slice (B k) (L k) (D k))).run Try.prog (wr.drewN m) = .ok (.string (str (L k) (H k))) (wr.drewN m) := fun m => conv_any (w := wr.drewN m) ((HB.out.below hbel.out).rd k hlt) (D k)
      clear hca hcb
      have i1 : (0 : Int) ≤ (k : Int) := by omega
      have i2 : (k : Int) < (ll : Int) := by omega
      go_wp2
      go_quiet (fail)
      go_wp2
      go_roundw
      case rel => exact ⟨k + 1, by omega, by go_num, ⟨hbel.out.os, hbel.out.tape, hbel.out.output, hbel.out.size, hbel.out.block⟩⟩
      case measure => simp [intOf]; omega
    · go_wp2
      go_ret
      exact ⟨rfl, hbel.out⟩
end Go.Proofs.Ythkikocacbbhkaa.Ker
