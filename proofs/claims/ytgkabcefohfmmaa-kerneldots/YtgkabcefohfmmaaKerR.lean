/- The walk of the statement that a sum of multiples of slices is what the document says, and that nothing that is handed in changes. -/
import Derived.Test.YtgkabcefohfmmaaKerQ
namespace Go.Proofs.Ytgkabcefohfmmaa
open Go.RowKit

theorem lenB_le' (b : Bool) (n : Nat) : lenB b n ≤ n := by unfold lenB; split; exact Nat.le_refl _; exact Nat.zero_le _
theorem Rd.past {w0 w w' : World} {ao : Option Addr} {n g : Nat} {f : Nat → Nat} (h0 : Rd w0 ao n f) (h : Rd w ao n f) (ho : Only g w w') (hg : w0.heap.size ≤ g) : Rd w' ao n f := h.only ho fun hp => h0.off hg hp
theorem Lst.past {w0 w w' : World} {lo : Option Addr} {ll g : Nat} {A : Nat → Option Addr} {C L : Nat → Nat} {H : Nat → Nat → Nat} (h0 : Lst w0 lo ll A C L H) (h : Lst w lo ll A C L H) (ho : Only g w w') (hg : w0.heap.size ≤ g) : Lst w' lo ll A C L H := by
  refine ⟨fun i hi => (h0.rd i hi).past (h.rd i hi) ho hg, fun hp => ?_⟩
  obtain ⟨b, off, rfl, hc⟩ := h.at_ hp
  obtain ⟨b', off', he, hc'⟩ := h0.at_ hp
  cases he
  have := World.block_lt_of_cell? w0 _ (hc' 0 hp)
  exact ⟨b, off, rfl, fun i hi => ho.cell (hc i hi) (by simp only at this ⊢; omega)⟩
theorem Ans.apart {w0 w1 w W W' : World} {ro : Option Addr} {n g : Nat} {f : Nat → Nat} (h : Ans w0 w ro n f) (hW : Ans w0 W ro n f) (ho : Only g W W') (h1 : w1.heap.size ≤ w0.heap.size) (h2 : w.heap.size ≤ W.heap.size) (hg : g < w1.heap.size ∨ W.heap.size ≤ g) : Ans w0 W' ro n f :=
  hW.only ho fun a ha => by have := h.lt a ha; omega

set_option maxHeartbeats 2000000 in
set_option maxRecDepth 100000 in
theorem dots_walk (w : World) (co lo : Option Addr) (lc cc ll cl : Nat) (F : Nat → Nat) (A : Nat → Option Addr) (C L : Nat → Nat) (H : Nat → Nat → Nat) (hnc : co = none → lc = 0 ∧ cc = 0) (hc : Rd w co lc F) (hl : Lst w lo ll A C L H)
    (hn : ∀ i, i < ll → A i = none → L i = 0 ∧ C i = 0) (hL : ∀ i, i < ll → L i ≤ 9223372036854775807) (hH : ∀ i j, H i j < 256) (hlc : lc ≤ 9223372036854775807) (hll : ll ≤ 9223372036854775807) :
    Calls Try.prog 5 #[.slice co lc cc, .slice lo ll cl] w fun e w' => e = .returned (.bool true) ∧ Below w.heap.size w w' := by
  have HNC : Hid (co = none → lc = 0 ∧ cc = 0) := hnc
  have HC : Hid (Rd w co lc F) := hc
  have HL : Hid (Lst w lo ll A C L H) := hl
  have HN : Hid (∀ i, i < ll → A i = none → L i = 0 ∧ C i = 0) := hn
  have HM : Hid (∀ i, i < ll → L i ≤ 9223372036854775807) := hL
  have HH : Hid (∀ i j, H i j < 256) := hH
  clear hc hl hn hL hH hnc
  by_cases h1 : lc ≤ 1000
  · by_cases h2 : ll ≤ 60
    · go_enter Try.func5, Try.ntmps5
      go_wp2_with fail
      refine (alive_any w).mono ?_
      rintro e w1 ⟨rfl, b1⟩
      replace HC : Hid (Rd w1 co lc F) := HC.out.below b1
      replace HL : Hid (Lst w1 lo ll A C L H) := HL.out.below b1
      by_cases hbig : ∀ i, i < ll → L i ≤ 70000
      · have HS : Hid (∀ i, i < ll → L i ≤ 70000) := hbig
        clear hbig
        go_wp2
        go_loop [6] (fun i => ∃ k : Nat, k ≤ ll ∧ i = .int .i64 k) (fun i => ll - (intOf i).toNat)
        case atStart => exact ⟨0, Nat.zero_le _, rfl⟩
        case round =>
          obtain ⟨k, hk, rfl⟩ := hrel
          by_cases hlt : k < ll
          · obtain ⟨b, off, rfl, hcl⟩ := HL.out.at_ (by omega)
            have ck := hcl k hlt
            have hs := HS.out k hlt
            clear hcl
            go_wp2
            go_round
            case rel => exact ⟨k + 1, by omega, by go_num⟩
            case measure => simp [intOf]; omega
          · obtain rfl : k = ll := by omega
            have HS2 : Hid (∀ i, i < k → L i ≤ 1000000) := fun i hi => Nat.le_trans (HS.out i hi) (by decide)
            go_wp2_with fail
            refine (twin_any w1 lo k cl A C L H (by omega) HL.out HN.out HS2.out HH.out).mono ?_
            rintro e w2 ⟨to, tc, T, U, rfl, hx, bn⟩
            replace HC : Hid (Rd w2 co lc F) := HC.out.below bn
            replace HL : Hid (Lst w2 lo k A C L H) := HL.out.below bn
            have HX : Hid (Lst w2 to k T U L H) := hx
            replace b1 := below_step b1 bn b1.size
            clear hx bn
            go_wp2_with (at_builtin; refine wpList_append_start (by rfl) (.tmp 41) (.tmp 42) (by rfl) (by rfl) co lc cc F (by rfl) HNC.out HC.out (by omega) ?_; intro v1 w3 hown1 hgrow1; obtain ⟨yo, yc, rfl⟩ := owns_form hown1; have bn : Below w2.heap.size w2 w3 := grown_below hgrow1 (Nat.le_refl _) (fun r hr => by cases hr); have HY : Hid (Rd w3 yo lc F) := owns_rd' HC.out.1 hown1; have HC3 : Hid (Rd w3 co lc F) := HC.out.below bn; have HL3 : Hid (Lst w3 lo k A C L H) := HL.out.below bn; have HX3 : Hid (Lst w3 to k T U L H) := HX.out.below bn; have b3 : Below w.heap.size w w3 := below_step b1 bn b1.size; clear hown1 hgrow1 bn b1 HC HL HX)
            refine (dot_any w3 yo to lc yc k tc F T U L H (by omega) (by omega) HY.out HX3.out).mono ?_
            obtain ⟨ok, hok⟩ : ∃ ok, ok = okL lc k L := ⟨_, rfl⟩
            obtain ⟨E, hE⟩ : ∃ E, E = errB ok := ⟨_, rfl⟩
            obtain ⟨n, hn⟩ : ∃ n, n = lenB ok (n0 k L) := ⟨_, rfl⟩
            rw [← hok]
            rintro e w4 ⟨ro, rfl, hr, bn⟩
            rw [← hE, ← hn]
            rw [← hn] at hr
            have HK : Hid (okL lc k L = ok ∧ errB ok = E ∧ lenB ok (n0 k L) = n) := ⟨hok.symm, hE.symm, hn.symm⟩
            have hn1 : n ≤ 70000 := by
              rw [hn]
              refine Nat.le_trans (lenB_le' _ _) ?_
              unfold n0
              split
              · decide
              · exact HS.out 0 (by omega)
            clear hok hE hn
            have HR : Hid (Ans w3 w4 ro n (tot F H k)) := hr
            have HR0 : Hid (∀ a, ro = some a → w3.heap.size ≤ a.block ∧ a.block < w4.heap.size) := hr.lt
            have s3 : w3.heap.size ≤ w4.heap.size := bn.size
            have HC4 : Hid (Rd w4 co lc F) := HC3.out.below bn
            have HL4 : Hid (Lst w4 lo k A C L H) := HL3.out.below bn
            have HX4 : Hid (Lst w4 to k T U L H) := HX3.out.below bn
            have HY4 : Hid (Rd w4 yo lc F) := HY.out.below bn
            have b4 : Below w.heap.size w w4 := below_step b3 bn b3.size
            clear hr bn
            go_wp2_with fail
            refine (rdot_any w4 co lo lc cc k cl F A C L H (by omega) (by omega) HC4.out HL4.out HS2.out).mono ?_
            rintro e w5 ⟨wo, rfl, hr, bn⟩
            rw [HK.out.1, HK.out.2.1, HK.out.2.2]
            rw [HK.out.1, HK.out.2.2] at hr
            have HW : Hid (Ans w4 w5 wo n (tot F H k)) := hr
            have s4 : w4.heap.size ≤ w5.heap.size := bn.size
            have HC5 : Hid (Rd w5 co lc F) := HC4.out.below bn
            have HL5 : Hid (Lst w5 lo k A C L H) := HL4.out.below bn
            have HX5 : Hid (Lst w5 to k T U L H) := HX4.out.below bn
            have HY5 : Hid (Rd w5 yo lc F) := HY4.out.below bn
            have HR5 : Hid (Ans w3 w5 ro n (tot F H k)) := HR.out.below bn
            have b5 : Below w.heap.size w w5 := below_step b4 bn b4.size
            clear hr bn HC4 HL4 HX4 HY4 b4
            have qE : (E == E) = true := by simp
            go_wp2_with fail
            refine (same_any w5 ro wo n n n _ _ HR5.out.rd HW.out.rd (fun _ _ => rfl)).mono ?_
            rintro e w' ⟨rfl, hw'⟩
            obtain rfl := hw'.symm
            go_wp2_with fail
            refine (spoil_any w3 w5 ro n n w3.heap.size w4.heap.size _ (by omega) HR5.out HR0.out (by omega)).mono ?_
            rintro e w6 ⟨rfl, g, u, v, on⟩
            have HC6 : Hid (Rd w6 co lc F) := HC3.out.past HC5.out on u
            have HL6 : Hid (Lst w6 lo k A C L H) := HL3.out.past HL5.out on u
            have HX6 : Hid (Lst w6 to k T U L H) := HX3.out.past HX5.out on u
            have HY6 : Hid (Rd w6 yo lc F) := HY.out.past HY5.out on u
            have HW6 : Hid (Ans w4 w6 wo n (tot F H k)) := HW.out.apart (w1 := w4) HW.out on (Nat.le_refl _) (Nat.le_refl _) v
            have b6 : Below w.heap.size w w6 := b5.trans (on.below b5.size (Nat.le_trans b3.size u))
            clear on HC5 HL5 HX5 HY5 HW b5 HR HR5 HR0 HC3 HL3 HX3 HY
            go_wp2_with fail
            refine (dot_any w6 yo to lc yc k tc F T U L H (by omega) (by omega) HY6.out HX6.out).mono ?_
            rintro e w7 ⟨ao, rfl, hr, bn⟩
            rw [HK.out.1, HK.out.2.1, HK.out.2.2]
            rw [HK.out.1, HK.out.2.2] at hr
            have HA7 : Hid (Rd w7 ao n (tot F H k)) := hr.rd
            have HC7 : Hid (Rd w7 co lc F) := HC6.out.below bn
            have HL7 : Hid (Lst w7 lo k A C L H) := HL6.out.below bn
            have HX7 : Hid (Lst w7 to k T U L H) := HX6.out.below bn
            have HY7 : Hid (Rd w7 yo lc F) := HY6.out.below bn
            have HW7 : Hid (Rd w7 wo n (tot F H k)) := HW6.out.rd.below bn
            have b7 : Below w.heap.size w w7 := below_step b6 bn b6.size
            clear hr bn HC6 HL6 HX6 HY6 HW6 b6
            go_wp2_with fail
            refine (same_any w7 ao wo n n n _ _ HA7.out HW7.out (fun _ _ => rfl)).mono ?_
            rintro e w' ⟨rfl, hw'⟩
            obtain rfl := hw'.symm
            go_wp2_with fail
            refine (sameAll_any w7 to lo k tc cl T A U C L H (by omega) HX7.out HL7.out).mono ?_
            rintro e w8 ⟨rfl, bn⟩
            have v1 := conv_any (HY7.out.below bn) yc
            have v2 := conv_any (HC7.out.below bn) cc
            have b8 : Below w.heap.size w w8 := below_step b7 bn b7.size
            clear bn
            go_wp2_with fail
            go_ret
            exact ⟨rfl, b8⟩
      · obtain ⟨q, hq, hne, heq⟩ : ∃ q, q < ll ∧ ¬ L q ≤ 70000 ∧ ∀ i, i < q → L i ≤ 70000 := by
          obtain ⟨i, hi⟩ := Classical.not_forall.1 hbig
          obtain ⟨p1, p2⟩ := Classical.not_imp.1 hi
          obtain ⟨k, hk, p3, p4⟩ := exists_first (p := fun i => L i ≤ 70000) i p2
          exact ⟨k, by omega, p3, p4⟩
        have HE : Hid (∀ i, i < q → L i ≤ 70000) := heq
        have HNE : Hid (¬ L q ≤ 70000) := hne
        clear hbig heq hne
        obtain ⟨b, off, rfl, hcl⟩ := HL.out.at_ (by omega)
        have HCL : Hid (∀ i, i < ll → w1.cell? ⟨b, off + i, none⟩ = some (.slice (A i) (L i) (C i))) := hcl
        clear hcl
        go_wp2
        go_loop [6] (fun i => ∃ k : Nat, k ≤ q ∧ i = .int .i64 k) (fun i => ll - (intOf i).toNat)
        case atStart => exact ⟨0, Nat.zero_le _, rfl⟩
        case round =>
          obtain ⟨k, hk, rfl⟩ := hrel
          have ck := HCL.out k (by omega)
          by_cases hlt : k < q
          · have hs := HE.out k hlt
            go_wp2
            go_round
            case rel => exact ⟨k + 1, by omega, by go_num⟩
            case measure => simp [intOf]; omega
          · obtain rfl : k = q := by omega
            have hs := HNE.out
            go_wp2
            go_ret
            exact ⟨rfl, b1⟩
    · go_enter Try.func5, Try.ntmps5
      go_wp2_with fail
      refine (alive_any w).mono ?_
      rintro e w1 ⟨rfl, b1⟩
      go_wp2_with fail
      go_ret
      exact ⟨rfl, b1⟩
  · go_enter Try.func5, Try.ntmps5
    go_wp2_with fail
    refine (alive_any w).mono ?_
    rintro e w1 ⟨rfl, b1⟩
    go_wp2_with fail
    go_ret
    exact ⟨rfl, b1⟩
end Go.Proofs.Ytgkabcefohfmmaa
