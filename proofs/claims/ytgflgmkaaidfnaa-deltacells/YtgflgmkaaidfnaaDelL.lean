/- What the document's own Of answers, and what it says of numbers and parity cells. -/
import Derived.Test.YtgflgmkaaidfnaaDelF
namespace Go.Proofs.Ytgflgmkaaidfnaa
open Go.RowKit

theorem rcell_any (w : World) (ao : Option Addr) (n c : Nat) : Calls Try.prog 27 #[.slice ao n c] w fun e w' => e = .returned (.bool (decide (1 ≤ n ∧ n ≤ 65536))) ∧ w' = w := by
  by_cases h1 : 1 ≤ n
  · by_cases h2 : n ≤ 65536
    · rw [decide_eq_true ⟨h1, h2⟩]
      go_enter Try.func27, Try.ntmps27
      go_wp2
      go_ret
      exact ⟨by simp; omega, rfl⟩
    · rw [decide_eq_false fun h => h2 h.2]
      go_enter Try.func27, Try.ntmps27
      go_wp2
      go_ret
      exact ⟨by simp; omega, rfl⟩
  · rw [decide_eq_false fun h => h1 h.1]
    go_enter Try.func27, Try.ntmps27
    go_wp2
    go_ret
    exact ⟨by simp, rfl⟩
theorem radd_k (w : World) (c : K) (ao bo : Option Addr) (n ca cb : Nat) (f h : Nat → K) (hn : n ≤ 1000000) (ha : Rd w ao n f) (hb : Rd w bo n h) :
    Calls Try.prog 28 #[.slice ao n ca, .int .u8 (c.n : Int), .slice bo n cb] w fun e w' => ∃ g, e = .returned (.slice (some ⟨g, 0, none⟩) n n) ∧ w.heap.size ≤ g ∧ Own w' g n n (fun i => K.add (f i) (K.mul c (h i))) ∧ Below w.heap.size w w' := by
  refine (Ker.radd_any w c.n ao bo n ca cb _ _ hn c.lt (rd_ker ha) (rd_ker hb)).mono ?_
  rintro e w' ⟨g, rfl, hg, ho, hb'⟩
  exact ⟨g, rfl, hg, own_ker ho (by unfold maxLen; omega) (fun i => rfl), hb'⟩
theorem addF_one (f h : Nat → K) : (fun i => K.add (f i) (K.mul 1 (h i))) = addF f h := by funext i; rw [K.one_mul]; rfl
set_option maxHeartbeats 1000000 in
set_option maxRecDepth 100000 in
theorem rOf_any (w : World) (ao bo : Option Addr) (la ca lb cb : Nat) (f h : Nat → K) (ha : Rd w ao la f) (hb : Rd w bo lb h) :
    Calls Try.prog 14 #[.slice ao la ca, .slice bo lb cb] w (OneAns w (okOf la lb) 40 la (addF f h)) := by
  have H1 := rcell_any w ao la ca
  have H2 := rcell_any w bo lb cb
  have bad : OneAns w false 40 la (addF f h) (.returned (.tuple #[.slice none 0 0, .int .i64 40])) w := ⟨none, 0, rfl, .inl ⟨rfl, rfl, rfl⟩, Below.refl _ _⟩
  by_cases h1 : 1 ≤ la ∧ la ≤ 65536
  · rw [decide_eq_true h1] at H1
    by_cases h2 : 1 ≤ lb ∧ lb ≤ 65536
    · rw [decide_eq_true h2] at H2
      by_cases h3 : la = lb
      · subst h3
        rw [okOf_of h1.1 h1.2 rfl]
        have HA : Hid (Calls Try.prog 28 #[.slice ao la ca, .int .u8 1, .slice bo la cb] w fun e w' => ∃ g, e = .returned (.slice (some ⟨g, 0, none⟩) la la) ∧ w.heap.size ≤ g ∧ Own w' g la la (addF f h) ∧ Below w.heap.size w w') := by
          have := radd_k w 1 ao bo la ca cb f h (by omega) ha hb
          rw [addF_one] at this
          exact this
        have hbn := bne_no (la : Int)
        clear bad ha hb
        go_enter Try.func14, Try.ntmps14
        go_wp2_with fail
        refine H1.mono ?_
        rintro e w' ⟨rfl, hw'⟩
        obtain rfl := hw'.symm
        go_wp2_with fail
        refine H2.mono ?_
        rintro e w' ⟨rfl, hw'⟩
        obtain rfl := hw'.symm
        go_wp2_with fail
        refine HA.out.mono ?_
        rintro e w' ⟨g, rfl, hg, ho, hb⟩
        go_wp2_with fail
        go_ret2
        exact ⟨_, _, rfl, .inr ⟨g, rfl, hg, ho.lt, ho⟩, hb⟩
      · rw [show okOf la lb = false from Bool.eq_false_iff.2 fun h => h3 (okOf_true h).2.2.symm]
        have hbn : ((la : Int) != (lb : Int)) = true := bne_yes (by omega)
        clear ha hb
        go_enter Try.func14, Try.ntmps14
        go_wp2_with fail
        refine H1.mono ?_
        rintro e w' ⟨rfl, hw'⟩
        obtain rfl := hw'.symm
        go_wp2_with fail
        refine H2.mono ?_
        rintro e w' ⟨rfl, hw'⟩
        obtain rfl := hw'.symm
        go_wp2_with fail
        go_ret2
        exact bad
    · rw [decide_eq_false h2] at H2
      rw [show okOf la lb = false from Bool.eq_false_iff.2 fun h => h2 (by obtain ⟨a, b, c⟩ := okOf_true h; rw [c]; exact ⟨a, b⟩)]
      clear ha hb
      go_enter Try.func14, Try.ntmps14
      go_wp2_with fail
      refine H1.mono ?_
      rintro e w' ⟨rfl, hw'⟩
      obtain rfl := hw'.symm
      go_wp2_with fail
      refine H2.mono ?_
      rintro e w' ⟨rfl, hw'⟩
      obtain rfl := hw'.symm
      go_wp2_with fail
      go_ret2
      exact bad
  · rw [decide_eq_false h1] at H1
    rw [show okOf la lb = false from Bool.eq_false_iff.2 fun h => h1 (by obtain ⟨a, b, c⟩ := okOf_true h; exact ⟨a, b⟩)]
    clear ha hb
    go_enter Try.func14, Try.ntmps14
    go_wp2_with fail
    refine H1.mono ?_
    rintro e w' ⟨rfl, hw'⟩
    obtain rfl := hw'.symm
    go_wp2_with fail
    go_ret2
    exact bad

def askE (k r : Int) (pl : Nat) (PL : Nat → Nat) : Int := if mayB k r then (if parB r pl PL then 0 else 40) else 2
set_option maxHeartbeats 2000000 in
set_option maxRecDepth 100000 in
theorem asked_any (w : World) (k r : Int) (po : Option Addr) (pl pc : Nat) (PA : Nat → Option Addr) (PC PL : Nat → Nat) (P : M) (hp : Lst w po pl PA PC PL P) :
    Calls Try.prog 29 #[.int .i64 k, .int .i64 r, .slice po pl pc] w fun e w' => e = .returned (.int .i64 (askE k r pl PL)) ∧ Below w.heap.size w w' := by
  have may_no : ∀ (h : mayB k r = false), askE k r pl PL = 2 := fun h => by unfold askE; rw [h]; rfl
  by_cases h1 : 1 ≤ k
  rotate_left
  · rw [may_no (decide_eq_false fun h => h1 h.1)]
    clear hp may_no
    go_enter Try.func29, Try.ntmps29
    go_wp2
    go_ret
    exact ⟨rfl, Below.refl _ _⟩
  by_cases h2 : k ≤ 12
  rotate_left
  · rw [may_no (decide_eq_false fun h => h2 h.2.1)]
    clear hp may_no
    go_enter Try.func29, Try.ntmps29
    go_wp2
    go_ret
    exact ⟨rfl, Below.refl _ _⟩
  by_cases h3 : 0 ≤ r
  rotate_left
  · rw [may_no (decide_eq_false fun h => h3 h.2.2.1)]
    clear hp may_no
    go_enter Try.func29, Try.ntmps29
    go_wp2
    go_ret
    exact ⟨rfl, Below.refl _ _⟩
  by_cases h4 : r ≤ 4
  rotate_left
  · rw [may_no (decide_eq_false fun h => h4 h.2.2.2)]
    clear hp may_no
    go_enter Try.func29, Try.ntmps29
    go_wp2
    go_ret
    exact ⟨rfl, Below.refl _ _⟩
  have hmay : mayB k r = true := decide_eq_true ⟨h1, h2, h3, h4⟩
  by_cases hpr : (pl : Int) = r
  rotate_left
  · rw [show askE k r pl PL = 40 by unfold askE parB; rw [hmay, decide_eq_false hpr]; rfl]
    have hbn : ((pl : Int) != r) = true := bne_yes hpr
    clear hp may_no hmay
    go_enter Try.func29, Try.ntmps29
    go_wp2
    go_ret
    exact ⟨rfl, Below.refl _ _⟩
  subst hpr
  have HP : Hid (Lst w po pl PA PC PL P) := hp
  have HAY : Hid (alikeB pl PL = true → askE k (pl : Int) pl PL = 0) := fun h => by unfold askE parB; rw [hmay, h, decide_eq_true rfl]; rfl
  have HAN : Hid (alikeB pl PL = false → askE k (pl : Int) pl PL = 40) := fun h => by unfold askE parB; rw [hmay, h, Bool.and_false]; rfl
  have hbn := bne_no (pl : Int)
  clear hp may_no hmay
  go_enter Try.func29, Try.ntmps29
  go_wp2
  go_loopw [7] (fun x wr => ∃ i : Nat, i ≤ pl ∧ x = .int .i64 i ∧ Hid (∀ j, j < i → 1 ≤ PL j ∧ PL j ≤ 65536 ∧ PL j = PL 0) ∧ Hid (Below w.heap.size w wr)) (fun x _ => pl - (intOf x).toNat)
  case atStart => exact ⟨0, Nat.zero_le _, rfl, fun j hj => absurd hj (Nat.not_lt_zero j), Below.refl _ _⟩
  case round =>
    obtain ⟨i, hi, rfl, hgood, hbel⟩ := hrel
    by_cases hlt : i < pl
    · obtain ⟨b, off, rfl, hc⟩ := (HP.out.below hbel.out).at_ (by omega)
      have c0 := hc 0 (by omega)
      rw [Nat.add_zero] at c0
      have ck := hc i hlt
      clear hc
      have i1 : (0 : Int) ≤ (i : Int) := by omega
      have i2 : (i : Int) < (pl : Int) := by omega
      have i3 : (0 : Int) < (pl : Int) := by omega
      have HC := rcell_any wr (PA i) (PL i) (PC i)
      by_cases hcell : 1 ≤ PL i ∧ PL i ≤ 65536
      · rw [decide_eq_true hcell] at HC
        by_cases heq : PL i = PL 0
        · have HG : Hid (∀ j, j < i + 1 → 1 ≤ PL j ∧ PL j ≤ 65536 ∧ PL j = PL 0) := fun j hj => by
            by_cases e : j = i
            · subst e; exact ⟨hcell.1, hcell.2, heq⟩
            · exact hgood.out j (by omega)
          rw [heq] at ck HC
          obtain ⟨m, hm⟩ : ∃ m, m = PL 0 := ⟨_, rfl⟩
          rw [← hm] at c0 ck HC
          have hbm := bne_no (m : Int)
          clear hcell heq hm
          go_wp2_with (go_at_call 27; refine HC.mono ?_; rintro e w' ⟨rfl, hw'⟩; obtain rfl := hw'.symm)
          go_quiet (fail)
          go_wp2
          go_roundw
          case rel => exact ⟨i + 1, by omega, by go_num, HG, ⟨hbel.out.os, hbel.out.tape, hbel.out.output, hbel.out.size, hbel.out.block⟩⟩
          case measure => simp [intOf]; omega
        · have HF := HAN.out (decide_eq_false fun h => heq (h i hlt).2.2)
          have HFF : Hid (askE k (pl : Int) pl PL = 40) := HF
          have hbm : ((PL i : Int) != (PL 0 : Int)) = true := bne_yes (by omega)
          clear HF hcell heq
          go_wp2_with (go_at_call 27; refine HC.mono ?_; rintro e w' ⟨rfl, hw'⟩; obtain rfl := hw'.symm)
          go_quiet (fail)
          go_wp2
          go_ret
          exact ⟨by rw [HFF.out]; rfl, ⟨hbel.out.os, hbel.out.tape, hbel.out.output, hbel.out.size, hbel.out.block⟩⟩
      · rw [decide_eq_false hcell] at HC
        have HF := HAN.out (decide_eq_false fun h => hcell ⟨(h i hlt).1, (h i hlt).2.1⟩)
        have HFF : Hid (askE k (pl : Int) pl PL = 40) := HF
        clear HF hcell
        go_wp2_with (go_at_call 27; refine HC.mono ?_; rintro e w' ⟨rfl, hw'⟩; obtain rfl := hw'.symm)
        go_quiet (fail)
        go_wp2
        go_ret
        exact ⟨by rw [HFF.out]; rfl, ⟨hbel.out.os, hbel.out.tape, hbel.out.output, hbel.out.size, hbel.out.block⟩⟩
    · obtain rfl : i = pl := by omega
      have HF : Hid (askE k (i : Int) i PL = 0) := HAY.out (decide_eq_true hgood.out)
      go_wp2
      go_ret
      exact ⟨by rw [HF.out]; rfl, hbel.out⟩
end Go.Proofs.Ytgflgmkaaidfnaa
