/- What the document's own picking of rows comes to, and its clearing of a column. -/
import Derived.Test.YtpfpldmmdbgnnaaMatT
namespace Go.Proofs.Ytpfpldmmdbgnnaa
open Go.RowKit

set_option maxHeartbeats 1000000 in
set_option maxRecDepth 100000 in
theorem rpick_any (w : World) (lo ro : Option Addr) (ll cl lr cr : Nat) (A : Nat → Option Addr) (C L : Nat → Nat) (H : M) (R : Nat → Int) (hl : Lst w lo ll A C L H) (hr : RdI w ro lr R) (hn : ∀ i, i < ll → A i = none → L i = 0 ∧ C i = 0) :
    Calls Try.prog 22 #[.slice lo ll cl, .slice ro lr cr] w (Made w (okPick ll L lr R) (errM (okM ll L) 2) lr (L 0) (picked H R)) := by
  obtain ⟨j0, hj, hj0, hj1, hj2⟩ := info_parts info34
  have CA := rcheck_any w lo ll cl A C L H hl
  have HL : Hid (Lst w lo ll A C L H) := hl
  have HR : Hid (RdI w ro lr R) := hr
  have HN : Hid (∀ i, i < ll → A i = none → L i = 0 ∧ C i = 0) := hn
  clear hl hr hn
  cases hok : okM ll L
  · rw [hok] at CA
    rw [show okPick ll L lr R = false by unfold okPick; rw [hok]; rfl]
    go_enter Try.func22, Try.ntmps22
    go_wp2_with fail
    refine CA.mono ?_
    rintro e w1 ⟨rfl, hq⟩
    have b1 := drewN_below hq
    clear hq
    go_wp2_with fail
    go_ret2
    exact made_no b1
  rw [hok] at CA
  obtain ⟨h1, h2, h3, h4, h5⟩ := okM_true hok
  have e2 : errB true 30 = 0 := rfl
  by_cases hlr : 1 ≤ lr ∧ lr ≤ 32
  · obtain ⟨hlr1, hlr2⟩ := hlr
    obtain ⟨n, hnn⟩ : ∃ n, n = L 0 := ⟨_, rfl⟩
    have HL5 : Hid (∀ i, i < ll → L i = n) := fun i hi => by rw [h5 i hi, hnn]
    rw [← hnn] at h3 h4 ⊢
    clear h5 hnn
    by_cases hall : ∀ i, i < lr → 0 ≤ R i ∧ R i < ll
    · rw [show okPick ll L lr R = true by unfold okPick; rw [hok]; exact decide_eq_true ⟨hlr1, hlr2, hall⟩]
      have HALL : Hid (∀ i, i < lr → 0 ≤ R i ∧ R i < ll) := hall
      clear hok hall
      go_enter Try.func22, Try.ntmps22
      go_wp2_with fail
      refine CA.mono ?_
      rintro e w1 ⟨rfl, hq⟩
      have HB1 : Hid (Below w.heap.size w w1) := drewN_below hq
      replace HL : Hid (Lst w1 lo ll A C L H) := HL.out.below (drewN_below hq)
      replace HR : Hid (RdI w1 ro lr R) := HR.out.below (drewN_below hq)
      clear hq CA
      go_wp2_with fail
      go_loopw [6, 7] (fun v i wr => ∃ k : Nat, k ≤ lr ∧ i = .int .i64 k ∧ (∃ to tc, v = .slice to k tc) ∧ Hid (∃ T U, Copied wr w1.heap.size k v T (fun _ => n) U (picked H R)) ∧ Hid (Below w1.heap.size w1 wr)) (fun _ i _ => lr - (intOf i).toNat)
      case atStart => exact ⟨0, Nat.zero_le _, rfl, ⟨none, 0, rfl⟩, ⟨fun _ => none, fun _ => 0, World.ownsRow_nil _ _ _ _, fun i hi => absurd hi (Nat.not_lt_zero i), fun i _ _ _ hi => absurd hi (Nat.not_lt_zero i)⟩, Below.refl _ _⟩
      case round =>
        obtain ⟨k, hk, rfl, ⟨to, tc, rfl⟩, hcop, hbel⟩ := hrel
        by_cases hlt : k < lr
        · obtain ⟨rb, roff, rfl, hcr⟩ := (HR.out.below hbel.out) (by omega)
          have cr' := hcr k hlt
          obtain ⟨x, hx⟩ : ∃ x : Nat, R k = (x : Int) := Int.eq_ofNat_of_zero_le (HALL.out k hlt).1
          have hxl : x < ll := by have := (HALL.out k hlt).2; omega
          rw [hx] at cr'
          obtain ⟨b, off, rfl, hcl⟩ := (HL.out.below hbel.out).at_ (by omega)
          have ck := hcl x hxl
          rw [HL5.out x hxl] at ck
          clear hcl hcr
          obtain ⟨T, U, hcp⟩ := hcop.out
          have HCP : Hid (Copied wr w1.heap.size k (.slice to k tc) T (fun _ => n) U (picked H R)) := hcp
          have HRD : Hid (Rd wr (A x) n (H x)) := by have := (HL.out.below hbel.out).rd x hxl; rwa [HL5.out x hxl] at this
          have HNX : Hid (A x = none → n = 0 ∧ C x = 0) := by have := HN.out x hxl; rwa [HL5.out x hxl] at this
          have HPX : Hid (picked H R k = H x) := by unfold picked; rw [hx]; rfl
          have hs1 : w1.heap.size ≤ wr.heap.size := hbel.out.size
          obtain ⟨XS, hXS⟩ : ∃ X, X = rowsOf k T (fun _ => n) U := ⟨_, rfl⟩
          have HXS : Hid (rowsOf k T (fun _ => n) U = XS) := hXS.symm
          clear hcop hcp hXS hx
          have i1 : (0 : Int) ≤ (k : Int) := by omega
          have i2 : (k : Int) < (lr : Int) := by omega
          have i3 : (0 : Int) ≤ (x : Int) := by omega
          have i4 : (x : Int) < (ll : Int) := by omega
          go_wp2_with (first
            | (at_builtin; refine wpList_append_start (by rfl) (.tmp 41) (.tmp 48) (by rfl) (by rfl) (A x) n (C x) (H x) (by rfl) HNX.out HRD.out (by omega) ?_; intro v1 w2 hown1 hgrow1; obtain ⟨ao1, cap1, rfl⟩ := owns_form hown1; have HO1 : Hid (w2.ownsRow wr.heap.size 5 1 (.slice ao1 n cap1) n (cellsOf n (H x))) := hown1; have HG1 : Hid (wr.grownBy w2 none) := hgrow1; have HOV : Hid (w2.ownsRow w1.heap.size 34 1 (.slice to k tc) k XS) := (by rw [← HXS.out]; exact HCP.out.out.kept hgrow1 (by cases (Value.slice to k tc).ownBlock <;> simp)); have hs2 : wr.heap.size ≤ w2.heap.size := hgrow1.size; clear hown1 hgrow1)
            | (at_builtin; refine wpList_append_lies _ (by rfl) (.tmp 40) (.tmp 50) 23 (by rfl) w1.heap.size 34 j0 (.slice none 0 0) 1 24 Try.underlying23 hj hj0 hj1 hj2 (by rfl) (by decide) (.slice to k tc) k XS (by rfl) (HOV.out.alloc _) ⟨w2.heap.size, 0, none⟩ 1 1 [.slice ao1 n cap1] (by rfl) (by rfl) (World.news_of_block (heap_alloc_new w2 _)) (by simp [Value.oneCell']) (by decide) (by unfold maxLen; omega) (by omega) (by simp; omega) (w2.heap.size + 1) (by simp) ?_; intro g cap w3 hown2 hgrow2 _ _))
          have hb1 : Below w1.heap.size w1 w2 := hbel.out.grown HG1.out hs1 (fun r hr => by cases hr)
          have hb2 : Hid (Below w1.heap.size w1 w3) := (hb1.alloc (by omega) _).grown hgrow2 (by simp; omega) (fun r hr => (HOV.out.lt r hr).1)
          have hcop2 : Hid (∃ T U, Copied w3 w1.heap.size (k + 1) (.slice (some ⟨g, 0, none⟩) (k + 1) cap) T (fun _ => n) U (picked H R)) := by
            have st := HCP.out.step HG1.out HO1.out hs1 hgrow2 (by rw [HXS.out]; exact hown2)
            rw [← HPX.out] at st
            exact ⟨_, _, st.congr (fun _ _ => rfl) (fun i _ => put_self k i (fun _ => n)) (fun _ _ => rfl) (fun i _ => put_self k i (picked H R))⟩
          clear hown2 hgrow2 hb1
          go_wp2_with fail
          go_roundw
          case rel => exact ⟨k + 1, by omega, by go_num, ⟨_, _, rfl⟩, hcop2, hb2⟩
          case measure => simp [intOf]; omega
        · obtain rfl : k = lr := by omega
          obtain ⟨T, U, hcp⟩ := hcop.out
          obtain ⟨l, G, rfl, hmat⟩ := hcp.mat (fun _ _ => rfl) h3 (by omega)
          have HMT : Hid (Mat wr w1.heap.size wr.heap.size l tc k n G U (picked H R)) := hmat
          clear hcop hcp hmat
          go_wp2_with fail
          go_ret2
          exact ref_made (HMT.out.lower HB1.out.size) (Nat.le_refl _) (below_step HB1.out hbel.out HB1.out.size)
    · rw [show okPick ll L lr R = false by unfold okPick; rw [hok]; exact decide_eq_false fun h => hall h.2.2]
      obtain ⟨z, hz, hne, heq⟩ := first_not hall
      have HALL : Hid (∀ i, i < z → 0 ≤ R i ∧ R i < ll) := heq
      have HNE : Hid (¬ (0 ≤ R z ∧ R z < ll)) := hne
      clear hok heq hne hall
      go_enter Try.func22, Try.ntmps22
      go_wp2_with fail
      refine CA.mono ?_
      rintro e w1 ⟨rfl, hq⟩
      have HB1 : Hid (Below w.heap.size w w1) := drewN_below hq
      replace HL : Hid (Lst w1 lo ll A C L H) := HL.out.below (drewN_below hq)
      replace HR : Hid (RdI w1 ro lr R) := HR.out.below (drewN_below hq)
      clear hq CA
      go_wp2_with fail
      go_loopw [6, 7] (fun v i wr => ∃ k : Nat, k ≤ z ∧ i = .int .i64 k ∧ (∃ to tc, v = .slice to k tc) ∧ Hid (∃ T U, Copied wr w1.heap.size k v T (fun _ => n) U (picked H R)) ∧ Hid (Below w1.heap.size w1 wr)) (fun _ i _ => lr - (intOf i).toNat)
      case atStart => exact ⟨0, Nat.zero_le _, rfl, ⟨none, 0, rfl⟩, ⟨fun _ => none, fun _ => 0, World.ownsRow_nil _ _ _ _, fun i hi => absurd hi (Nat.not_lt_zero i), fun i _ _ _ hi => absurd hi (Nat.not_lt_zero i)⟩, Below.refl _ _⟩
      case round =>
        obtain ⟨k, hk, rfl, ⟨to, tc, rfl⟩, hcop, hbel⟩ := hrel
        obtain ⟨rb, roff, rfl, hcr⟩ := (HR.out.below hbel.out) (by omega)
        have cr' := hcr k (by omega)
        have i1 : (0 : Int) ≤ (k : Int) := by omega
        have i2 : (k : Int) < (lr : Int) := by omega
        by_cases hlt : k < z
        · clear i1 i2
          obtain ⟨x, hx⟩ : ∃ x : Nat, R k = (x : Int) := Int.eq_ofNat_of_zero_le (HALL.out k hlt).1
          have hxl : x < ll := by have := (HALL.out k hlt).2; omega
          rw [hx] at cr'
          obtain ⟨b, off, rfl, hcl⟩ := (HL.out.below hbel.out).at_ (by omega)
          have ck := hcl x hxl
          rw [HL5.out x hxl] at ck
          clear hcl hcr
          obtain ⟨T, U, hcp⟩ := hcop.out
          have HCP : Hid (Copied wr w1.heap.size k (.slice to k tc) T (fun _ => n) U (picked H R)) := hcp
          have HRD : Hid (Rd wr (A x) n (H x)) := by have := (HL.out.below hbel.out).rd x hxl; rwa [HL5.out x hxl] at this
          have HNX : Hid (A x = none → n = 0 ∧ C x = 0) := by have := HN.out x hxl; rwa [HL5.out x hxl] at this
          have HPX : Hid (picked H R k = H x) := by unfold picked; rw [hx]; rfl
          have hs1 : w1.heap.size ≤ wr.heap.size := hbel.out.size
          obtain ⟨XS, hXS⟩ : ∃ X, X = rowsOf k T (fun _ => n) U := ⟨_, rfl⟩
          have HXS : Hid (rowsOf k T (fun _ => n) U = XS) := hXS.symm
          clear hcop hcp hXS hx
          have i1 : (0 : Int) ≤ (k : Int) := by omega
          have i2 : (k : Int) < (lr : Int) := by omega
          have i3 : (0 : Int) ≤ (x : Int) := by omega
          have i4 : (x : Int) < (ll : Int) := by omega
          go_wp2_with (first
            | (at_builtin; refine wpList_append_start (by rfl) (.tmp 41) (.tmp 48) (by rfl) (by rfl) (A x) n (C x) (H x) (by rfl) HNX.out HRD.out (by omega) ?_; intro v1 w2 hown1 hgrow1; obtain ⟨ao1, cap1, rfl⟩ := owns_form hown1; have HO1 : Hid (w2.ownsRow wr.heap.size 5 1 (.slice ao1 n cap1) n (cellsOf n (H x))) := hown1; have HG1 : Hid (wr.grownBy w2 none) := hgrow1; have HOV : Hid (w2.ownsRow w1.heap.size 34 1 (.slice to k tc) k XS) := (by rw [← HXS.out]; exact HCP.out.out.kept hgrow1 (by cases (Value.slice to k tc).ownBlock <;> simp)); have hs2 : wr.heap.size ≤ w2.heap.size := hgrow1.size; clear hown1 hgrow1)
            | (at_builtin; refine wpList_append_lies _ (by rfl) (.tmp 40) (.tmp 50) 23 (by rfl) w1.heap.size 34 j0 (.slice none 0 0) 1 24 Try.underlying23 hj hj0 hj1 hj2 (by rfl) (by decide) (.slice to k tc) k XS (by rfl) (HOV.out.alloc _) ⟨w2.heap.size, 0, none⟩ 1 1 [.slice ao1 n cap1] (by rfl) (by rfl) (World.news_of_block (heap_alloc_new w2 _)) (by simp [Value.oneCell']) (by decide) (by unfold maxLen; omega) (by omega) (by simp; omega) (w2.heap.size + 1) (by simp) ?_; intro g cap w3 hown2 hgrow2 _ _))
          have hb1 : Below w1.heap.size w1 w2 := hbel.out.grown HG1.out hs1 (fun r hr => by cases hr)
          have hb2 : Hid (Below w1.heap.size w1 w3) := (hb1.alloc (by omega) _).grown hgrow2 (by simp; omega) (fun r hr => (HOV.out.lt r hr).1)
          have hcop2 : Hid (∃ T U, Copied w3 w1.heap.size (k + 1) (.slice (some ⟨g, 0, none⟩) (k + 1) cap) T (fun _ => n) U (picked H R)) := by
            have st := HCP.out.step HG1.out HO1.out hs1 hgrow2 (by rw [HXS.out]; exact hown2)
            rw [← HPX.out] at st
            exact ⟨_, _, st.congr (fun _ _ => rfl) (fun i _ => put_self k i (fun _ => n)) (fun _ _ => rfl) (fun i _ => put_self k i (picked H R))⟩
          clear hown2 hgrow2 hb1
          go_wp2_with fail
          go_roundw
          case rel => exact ⟨k + 1, by omega, by go_num, ⟨_, _, rfl⟩, hcop2, hb2⟩
          case measure => simp [intOf]; omega
        · obtain rfl : k = z := by omega
          have HBF : Hid (Below w.heap.size w wr) := below_step HB1.out hbel.out HB1.out.size
          clear hcop hcr
          by_cases hneg : R k < 0
          · go_wp2_with fail
            go_ret2
            exact made_no HBF.out
          · have hge : (ll : Int) ≤ R k := by have := HNE.out; omega
            go_wp2_with fail
            go_ret2
            exact made_no HBF.out
  · rw [show okPick ll L lr R = false by unfold okPick; rw [hok]; exact decide_eq_false fun h => hlr ⟨h.1, h.2.1⟩]
    by_cases hl1 : lr < 1
    · clear hlr hok h5
      go_enter Try.func22, Try.ntmps22
      go_wp2_with fail
      refine CA.mono ?_
      rintro e w1 ⟨rfl, hq⟩
      have b1 := drewN_below hq
      clear hq
      go_wp2_with fail
      go_ret2
      exact made_no b1
    · have hl2 : 32 < lr := by omega
      clear hlr hok h5
      go_enter Try.func22, Try.ntmps22
      go_wp2_with fail
      refine CA.mono ?_
      rintro e w1 ⟨rfl, hq⟩
      have b1 := drewN_below hq
      clear hq
      go_wp2_with fail
      go_ret2
      exact made_no b1
end Go.Proofs.Ytpfpldmmdbgnnaa
