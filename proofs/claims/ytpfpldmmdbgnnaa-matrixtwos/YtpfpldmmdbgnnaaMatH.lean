/- What Pick and Rank of the program answer. -/
import Derived.Test.YtpfpldmmdbgnnaaMatG
namespace Go.Proofs.Ytpfpldmmdbgnnaa
open Go.RowKit

/-- A slice of n integers that begins at ao reads as R 0, R 1, .. -/
def RdI (w : World) (ao : Option Addr) (n : Nat) (R : Nat → Int) : Prop :=
  0 < n → ∃ b off, ao = some ⟨b, off, none⟩ ∧ ∀ i, i < n → w.cell? ⟨b, off + i, none⟩ = some (.int .i64 (R i))
theorem RdI.below {w w' : World} {ao : Option Addr} {n : Nat} {R : Nat → Int} (h : RdI w ao n R) (ho : Below w.heap.size w w') : RdI w' ao n R := by
  intro hn
  obtain ⟨b, off, rfl, hc⟩ := h hn
  exact ⟨b, off, rfl, fun i hi => held (hc i hi) ho⟩
theorem RdI.past {w0 w w' : World} {B T : Nat} {ao : Option Addr} {n : Nat} {R : Nat → Int} (h0 : RdI w0 ao n R) (h : RdI w ao n R) (hk : Keeps B T w w') (hB : w0.heap.size ≤ B) : RdI w' ao n R := by
  intro hn
  obtain ⟨b, off, rfl, hc⟩ := h hn
  obtain ⟨b', off', e, hc'⟩ := h0 hn
  cases e
  exact ⟨b, off, rfl, fun i hi => hk.cell (hc i hi) (.inl (Nat.lt_of_lt_of_le (World.block_lt_of_cell? w0 _ (hc' i hi)) hB))⟩
def okPick (ll : Nat) (L : Nat → Nat) (lr : Nat) (R : Nat → Int) : Bool := okM ll L && decide (1 ≤ lr ∧ lr ≤ 32 ∧ ∀ i, i < lr → 0 ≤ R i ∧ R i < ll)
def errM (b : Bool) (e : Int) : Int := if b then e else 30
def picked (H : M) (R : Nat → Int) : M := fun i j => H (R i).toNat j

set_option maxHeartbeats 400000 in
set_option maxRecDepth 100000 in
theorem pick_rule (w : World) (p p' : Nat) (lo ro : Option Addr) (ll cl lr cr : Nat) (A : Nat → Option Addr) (C L : Nat → Nat) (H : M) (R : Nat → Int) (hp : w.cell? ⟨p, 0, none⟩ = some (.slice lo ll cl)) (hp' : w.cell? ⟨p', 0, none⟩ = some (.slice ro lr cr))
    (hl : Lst w lo ll A C L H) (hr : RdI w ro lr R) (n : Nat) (hL : ∀ i, i < ll → L i = n) (hR : ∀ i, i < lr → 0 ≤ R i ∧ R i < ll) :
    Rule w 38 #[.pointer (some ⟨p, 0, none⟩), .pointer (some ⟨p', 0, none⟩)] lr n (picked H R) := by
  intro w' i j hb hi hj
  show Calls Try.prog 38 #[.int .i64 (i : Int), .int .i64 (j : Int), .pointer (some ⟨p, 0, none⟩), .pointer (some ⟨p', 0, none⟩)] w' _
  have c0 := held hp hb
  have c1 := held hp' hb
  obtain ⟨b, off, rfl, hcr⟩ := hr.below hb (by omega)
  have c2 := hcr i hi
  obtain ⟨r, hri⟩ : ∃ r : Nat, R i = (r : Int) := Int.eq_ofNat_of_zero_le (hR i hi).1
  have hrl : r < ll := by have := (hR i hi).2; omega
  rw [show picked H R i j = H r j by unfold picked; rw [hri]; rfl]
  rw [hri] at c2
  obtain ⟨b1, off1, b2, off2, rfl, _, c3, c4⟩ := (hl.below hb).spot hrl (show j < L r by rw [hL r hrl]; exact hj)
  rw [hL r hrl] at c3
  clear hp hp' hl hr hb hL hR hcr hri
  have i1 : (0 : Int) ≤ (i : Int) := by omega
  have i2 : (i : Int) < (lr : Int) := by omega
  have i3 : (0 : Int) ≤ (j : Int) := by omega
  have i4 : (j : Int) < (n : Int) := by omega
  have i5 : (0 : Int) ≤ (r : Int) := by omega
  have i6 : (r : Int) < (ll : Int) := by omega
  go_enter Try.func38, Try.ntmps38
  go_wp2
  go_quiet (fail)
  go_wp2
  go_ret
  exact ⟨rfl, _, rfl⟩

set_option maxHeartbeats 1000000 in
set_option maxRecDepth 100000 in
theorem pick_any (w : World) (lo ro : Option Addr) (ll cl lr cr : Nat) (A : Nat → Option Addr) (C L : Nat → Nat) (H : M) (R : Nat → Int) (hl : Lst w lo ll A C L H) (hr : RdI w ro lr R) :
    Calls Try.prog 12 #[.slice lo ll cl, .slice ro lr cr] w (Made w (okPick ll L lr R) (errM (okM ll L) 2) lr (L 0) (picked H R)) := by
  obtain ⟨w1, hw1⟩ : ∃ w1, w1 = (w.alloc (.cells #[.slice lo ll cl] 23)).alloc (.cells #[.slice ro lr cr] 29) := ⟨_, rfl⟩
  have hb1 : Below w.heap.size w w1 := by rw [hw1]; exact below_2 w _ _
  have cp : w1.cell? ⟨w.heap.size, 0, none⟩ = some (.slice lo ll cl) := by rw [hw1, World.cell?_alloc_past _ _ _ (by simp), World.cell?_alloc_at _ _ _ _ rfl]; rfl
  have cq : w1.cell? ⟨w.heap.size + 1, 0, none⟩ = some (.slice ro lr cr) := by rw [hw1, World.cell?_alloc_at _ _ _ _ (by simp)]; rfl
  have CA := check_any w1 lo ll cl A C L H (hl.below hb1)
  have HL1 : Hid (Lst w1 lo ll A C L H) := hl.below hb1
  have HR1 : Hid (RdI w1 ro lr R) := hr.below hb1
  have hmf := makes
  clear hl hr
  cases hok : okM ll L
  · rw [hok] at CA
    rw [show okPick ll L lr R = false by unfold okPick; rw [hok]; rfl]
    clear hok
    go_enter Try.func12, Try.ntmps12
    go_wp2_with fail
    rw [← hw1]
    refine CA.mono ?_
    rintro e w' ⟨rfl, hw'⟩
    obtain rfl := hw'.symm
    clear hw1
    go_wp2_with fail
    go_ret2
    exact made_no hb1
  · rw [hok] at CA
    have W1 := within_any w1 (lr : Int) 32
    obtain ⟨h1, h2, h3, h4, h5⟩ := okM_true hok
    by_cases hlr : 1 ≤ lr ∧ lr ≤ 32
    · rw [show decide ((1 : Int) ≤ (lr : Int) ∧ (lr : Int) ≤ 32) = true from decide_eq_true (by omega)] at W1
      obtain ⟨b, off, rfl, hcr⟩ := HR1.out (by omega)
      have HCR : Hid (∀ i, i < lr → w1.cell? ⟨b, off + i, none⟩ = some (.int .i64 (R i))) := hcr
      clear hcr
      by_cases hall : ∀ i, i < lr → 0 ≤ R i ∧ R i < ll
      · rw [show okPick ll L lr R = true by unfold okPick; rw [hok]; exact decide_eq_true ⟨hlr.1, hlr.2, hall⟩]
        obtain ⟨b', off', rfl, hcl⟩ := HL1.out.at_ (by omega)
        have c0 := hcl 0 (by omega)
        rw [Nat.add_zero] at c0
        obtain ⟨n, hn⟩ : ∃ n, n = L 0 := ⟨_, rfl⟩
        rw [← hn] at c0 ⊢
        have HMD := made_any w1.drew lr n 38 _ (picked H R) (by omega) (by omega) (fun _ _ => rfl) (pick_rule w1.drew w.heap.size (w.heap.size + 1) (some ⟨b', off', none⟩) (some ⟨b, off, none⟩) ll cl lr cr A C L H R cp cq (HL1.out.below (below_drew _ _)) (HR1.out.below (below_drew _ _)) n (fun i hi => by rw [hn]; exact h5 i hi) hall)
        have HALL : Hid (∀ i, i < lr → 0 ≤ R i ∧ R i < ll) := hall
        clear hok hcl hall h5 hn HL1 HR1
        have i0 : 0 < ll := by omega
        have i1 : (0 : Int) < (ll : Int) := by omega
        go_enter Try.func12, Try.ntmps12
        go_wp2_with fail
        rw [← hw1]
        refine CA.mono ?_
        rintro e w' ⟨rfl, hw'⟩
        obtain rfl := hw'.symm
        clear hw1 CA
        go_wp2_with fail
        refine W1.mono ?_
        rintro e w' ⟨rfl, hw'⟩
        obtain rfl := hw'.symm
        go_wp2_with fail
        go_loop [20] (fun i => ∃ k : Nat, k ≤ lr ∧ i = .int .i64 k) (fun i => lr - (intOf i).toNat)
        case atStart => exact ⟨0, Nat.zero_le _, rfl⟩
        case round =>
          obtain ⟨k, hk, rfl⟩ := hrel
          by_cases hlt : k < lr
          · have ck := HCR.out k hlt
            have r1 := (HALL.out k hlt).1
            have r2 := (HALL.out k hlt).2
            have i2 : (0 : Int) ≤ (k : Int) := by omega
            have i3 : (k : Int) < (lr : Int) := by omega
            go_wp2
            go_round
            case rel => exact ⟨k + 1, by omega, by go_num⟩
            case measure => simp [intOf]; omega
          · go_wp2_with fail
            refine wp_region_still_tail 7 (by kernel_rfl) (by kernel_rfl) ?_
            simp only [List.take_succ_cons, List.take_zero, List.drop_succ_cons, List.drop_zero]
            repeat still_step
            refine wpStill_nil ?_
            go_wp2_with fail
            refine HMD.mono ?_
            rintro e w2 ⟨l, G, U, rfl, hm, hb⟩
            go_wp2_with fail
            go_ret2
            exact made_of (w1 := w1.drew) hb1.drew hm hb
      · rw [show okPick ll L lr R = false by unfold okPick; rw [hok]; exact decide_eq_false fun h => hall h.2.2]
        obtain ⟨q, hq, hne, heq⟩ := first_not hall
        have HE : Hid (∀ i, i < q → 0 ≤ R i ∧ R i < ll) := heq
        have HNE : Hid (¬ (0 ≤ R q ∧ R q < ll)) := hne
        clear hok heq hne hall h5 HL1 HR1
        go_enter Try.func12, Try.ntmps12
        go_wp2_with fail
        rw [← hw1]
        refine CA.mono ?_
        rintro e w' ⟨rfl, hw'⟩
        obtain rfl := hw'.symm
        clear hw1 CA
        go_wp2_with fail
        refine W1.mono ?_
        rintro e w' ⟨rfl, hw'⟩
        obtain rfl := hw'.symm
        go_wp2_with fail
        go_loop [20] (fun i => ∃ k : Nat, k ≤ q ∧ i = .int .i64 k) (fun i => lr - (intOf i).toNat)
        case atStart => exact ⟨0, Nat.zero_le _, rfl⟩
        case round =>
          obtain ⟨k, hk, rfl⟩ := hrel
          have ck := HCR.out k (by omega)
          have i2 : (0 : Int) ≤ (k : Int) := by omega
          have i3 : (k : Int) < (lr : Int) := by omega
          by_cases hlt : k < q
          · have r1 := (HE.out k hlt).1
            have r2 := (HE.out k hlt).2
            go_wp2
            go_round
            case rel => exact ⟨k + 1, by omega, by go_num⟩
            case measure => simp [intOf]; omega
          · obtain rfl : k = q := by omega
            by_cases hneg : R k < 0
            · go_wp2
              go_ret2
              exact made_no hb1
            · have r2 : (ll : Int) ≤ R k := by have := HNE.out; omega
              go_wp2
              go_ret2
              exact made_no hb1
    · rw [show decide ((1 : Int) ≤ (lr : Int) ∧ (lr : Int) ≤ 32) = false from decide_eq_false (by omega)] at W1
      rw [show okPick ll L lr R = false by unfold okPick; rw [hok]; exact decide_eq_false fun h => hlr ⟨h.1, h.2.1⟩]
      clear hok h5
      go_enter Try.func12, Try.ntmps12
      go_wp2_with fail
      rw [← hw1]
      refine CA.mono ?_
      rintro e w' ⟨rfl, hw'⟩
      obtain rfl := hw'.symm
      clear hw1
      go_wp2_with fail
      refine W1.mono ?_
      rintro e w' ⟨rfl, hw'⟩
      obtain rfl := hw'.symm
      go_wp2_with fail
      go_ret2
      exact made_no hb1

set_option maxHeartbeats 400000 in
set_option maxRecDepth 100000 in
theorem rank_rule (w : World) (p : Nat) (lo : Option Addr) (ll cl : Nat) (A : Nat → Option Addr) (C L : Nat → Nat) (H : M) (hp : w.cell? ⟨p, 0, none⟩ = some (.slice lo ll cl)) (hl : Lst w lo ll A C L H) (n : Nat) (hL : ∀ i, i < ll → L i = n) :
    Rule w 43 #[.pointer (some ⟨p, 0, none⟩)] ll n H := by
  intro w' i j hb hi hj
  show Calls Try.prog 43 #[.int .i64 (i : Int), .int .i64 (j : Int), .pointer (some ⟨p, 0, none⟩)] w' _
  have c0 := held hp hb
  obtain ⟨b, off, b', off', rfl, _, c1, c2⟩ := (hl.below hb).spot hi (show j < L i by rw [hL i hi]; exact hj)
  rw [hL i hi] at c1
  clear hp hl hb hL
  have i1 : (0 : Int) ≤ (i : Int) := by omega
  have i2 : (i : Int) < (ll : Int) := by omega
  have i3 : (0 : Int) ≤ (j : Int) := by omega
  have i4 : (j : Int) < (n : Int) := by omega
  go_enter Try.func43, Try.ntmps43
  go_wp2
  go_ret
  exact ⟨rfl, 0, rfl⟩

def rankV (ll : Nat) (L : Nat → Nat) (H : M) : Nat := lenB (okM ll L) (rankOf ll (L 0) H)
def Told (w : World) (n : Nat) (err : Int) (e : Ending) (w' : World) : Prop := e = .returned (.tuple #[.int .i64 (n : Int), .int .i64 err]) ∧ Below w.heap.size w w'

set_option maxHeartbeats 1000000 in
set_option maxRecDepth 100000 in
theorem rank_any (w : World) (lo : Option Addr) (ll cl : Nat) (A : Nat → Option Addr) (C L : Nat → Nat) (H : M) (hl : Lst w lo ll A C L H) :
    Calls Try.prog 20 #[.slice lo ll cl] w (Told w (rankV ll L H) (errB (okM ll L) 30)) := by
  obtain ⟨w1, hw1⟩ : ∃ w1, w1 = w.alloc (.cells #[.slice lo ll cl] 23) := ⟨_, rfl⟩
  have hb1 : Below w.heap.size w w1 := by rw [hw1]; exact (Below.refl _ _).alloc (Nat.le_refl _) _
  have cp : w1.cell? ⟨w.heap.size, 0, none⟩ = some (.slice lo ll cl) := by rw [hw1, World.cell?_alloc_at _ _ _ _ rfl]; rfl
  have HL1 : Hid (Lst w1 lo ll A C L H) := hl.below hb1
  have HC := check_any w1 lo ll cl A C L H HL1.out
  clear hl
  cases hok : okM ll L
  · rw [show rankV ll L H = 0 by unfold rankV; rw [hok]; rfl]
    rw [hok] at HC
    clear hok
    go_enter Try.func20, Try.ntmps20
    go_wp2_with fail
    rw [← hw1]
    refine HC.mono ?_
    rintro e w' ⟨rfl, hw'⟩
    obtain rfl := hw'.symm
    clear hw1
    go_wp2_with fail
    go_ret2
    exact ⟨rfl, hb1⟩
  · rw [hok] at HC
    rw [show rankV ll L H = rankOf ll (L 0) H by unfold rankV; rw [hok]; rfl]
    obtain ⟨h1, h2, h3, h4, h5⟩ := okM_true hok
    obtain ⟨b, off, rfl, hcl⟩ := HL1.out.at_ (by omega)
    have c0 := hcl 0 (by omega)
    rw [Nat.add_zero] at c0
    obtain ⟨n, hn⟩ : ∃ n, n = L 0 := ⟨_, rfl⟩
    rw [← hn] at c0 h4 ⊢
    have HMD := made_any w1.drew ll n 43 #[.pointer (some ⟨w.heap.size, 0, none⟩)] H (by omega) (by omega) (fun _ _ => rfl) (rank_rule w1.drew w.heap.size (some ⟨b, off, none⟩) ll cl A C L H cp (HL1.out.below (below_drew _ _)) n (fun i hi => by rw [hn]; exact h5 i hi))
    have hmf := makes
    have i0 : 0 < ll := by omega
    have i1 : (0 : Int) < (ll : Int) := by omega
    clear hok HL1 hcl h5 hn
    go_enter Try.func20, Try.ntmps20
    go_wp2_with fail
    rw [← hw1]
    refine HC.mono ?_
    rintro e w' ⟨rfl, hw'⟩
    obtain rfl := hw'.symm
    clear hw1 HC
    go_wp2_with fail
    refine wp_region_still_tail 7 (by kernel_rfl) (by kernel_rfl) ?_
    simp only [List.take_succ_cons, List.take_zero, List.drop_succ_cons, List.drop_zero]
    repeat still_step
    refine wpStill_nil ?_
    go_wp2_with fail
    refine HMD.mono ?_
    rintro e w2 ⟨l, G, U, rfl, hm, hb⟩
    have d0 : w2.cell? ⟨b, off, none⟩ = some (.slice (A 0) n (C 0)) := held (w := w1.drew) c0 hb
    have dp : w2.cell? ⟨w.heap.size, 0, none⟩ = some (.slice (some ⟨b, off, none⟩) ll cl) := held (w := w1.drew) cp hb
    have hb2 : Below w.heap.size w w2 := below_step hb1.drew hb hb1.size
    have HRD := reduce_any w2 _ _ l ll ll n n G U H (by omega) (by omega) (Nat.le_refl _) hm
    have hs1 : w.heap.size ≤ w1.drew.heap.size := hb1.size
    clear hm hb HMD c0 cp
    go_wp2_with fail
    refine HRD.mono ?_
    rintro e w3 ⟨r, P, G', U', rfl, hred, hm3, hk3⟩
    go_wp2_with fail
    go_ret2
    rw [rankOf_eq hred.rk]
    exact ⟨rfl, hb2.trans (hk3.below hb2.size hs1)⟩
end Go.Proofs.Ytpfpldmmdbgnnaa
