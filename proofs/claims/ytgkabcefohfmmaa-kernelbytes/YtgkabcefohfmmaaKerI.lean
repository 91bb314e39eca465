/- The walk of the statement that slices are added and multiplied byte by byte by the field's sum and product. -/
import Derived.Test.YtgkabcefohfmmaaKerH
import Derived.BigQuiet
namespace Go.Proofs.Ytgkabcefohfmmaa
open Go.RowKit

def eqB (k : Nat) (f h : Nat → Nat) : Bool := decide (∀ i, i < k → f i = h i)
theorem eqB_zero (f h : Nat → Nat) : eqB 0 f h = true := decide_eq_true fun i hi => absurd hi (Nat.not_lt_zero i)
theorem eqB_succ (k : Nat) (f h : Nat → Nat) : eqB (k + 1) f h = (eqB k f h && ((f k : Int) == (h k : Int))) := by
  unfold eqB
  by_cases h1 : ∀ i, i < k → f i = h i
  · rw [decide_eq_true h1, Bool.true_and]
    by_cases h2 : f k = h k
    · rw [h2, beq_self_eq_true]
      exact decide_eq_true fun i hi => by
        by_cases e : i = k
        · rw [e]; exact h2
        · exact h1 i (by omega)
    · rw [beq_eq_false_iff_ne.2 (fun e => h2 (by omega))]
      exact decide_eq_false fun g => h2 (g k (by omega))
  · rw [decide_eq_false h1, Bool.false_and]
    exact decide_eq_false fun g => h1 fun i hi => g i (by omega)
theorem add_eq_zero (a b : Nat) : Gf.add a b = 0 ↔ a = b := by
  constructor
  · intro h
    have : Gf.add (Gf.add a b) b = b := by rw [h, zero_add]
    rw [Gf.add_assoc, Gf.add_self, Gf.add_zero] at this
    exact this
  · rintro rfl
    exact Gf.add_self a
theorem plus1 (f h : Nat → Nat) (hh : ∀ i, h i < 256) (i : Nat) : plus f 1 h i = Gf.add (f i) (h i) := by unfold plus; rw [Gf.one_mul _ (hh i)]
theorem zero_eq (n : Nat) (f h : Nat → Nat) (hh : ∀ i, h i < 256) : zeroB n (plus f 1 h) = eqB n f h := by
  unfold zeroB eqB
  rw [decide_eq_decide]
  constructor
  · intro g i hi
    have := g i hi
    rw [plus1 f h hh] at this
    exact (add_eq_zero _ _).1 this
  · intro g i hi
    rw [plus1 f h hh]
    exact (add_eq_zero _ _).2 (g i hi)
theorem plus_back (f h : Nat → Nat) (hh : ∀ i, h i < 256) (i : Nat) : plus (plus f 1 h) 1 h i = f i := by
  rw [plus1 _ _ hh, plus1 _ _ hh, Gf.add_assoc, Gf.add_self, Gf.add_zero]
theorem okP_self {n : Nat} (h : n ≤ 65536) : okP n n = true := by simp [okP, h]

theorem below_drewN {B : Nat} {a w : World} (h : Below B a w) (n : Nat) : Below B a (w.drewN n) := ⟨h.os, h.tape, h.output, h.size, h.block⟩

set_option maxHeartbeats 2000000 in
set_option maxRecDepth 100000 in
theorem bytes_walk (w : World) (c : Nat) (ao bo : Option Addr) (la ca lb cb : Nat) (f h : Nat → Nat) (hc : c < 256) (ha : Rd w ao la f) (hb : Rd w bo lb h) (hla : la ≤ 9223372036854775807) (hlb : lb ≤ 9223372036854775807) :
    Calls Try.prog 6 #[.slice ao la ca, .slice bo lb cb, .int .u8 (c : Int)] w fun e w' => e = .returned (.bool true) ∧ Below w.heap.size w w' := by
  have HA : Hid (Rd w ao la f) := ha
  have HB : Hid (Rd w bo lb h) := hb
  clear ha hb
  by_cases h1 : la ≤ 5000
  · by_cases h2 : lb ≤ 5000
    · by_cases h3 : la = lb
      · subst h3
        go_enter Try.func6, Try.ntmps6
        go_wp2_with fail
        refine (alive_any w).mono ?_
        rintro e w1 ⟨rfl, b1⟩
        replace HA : Hid (Rd w1 ao la f) := HA.out.below b1
        replace HB : Hid (Rd w1 bo la h) := HB.out.below b1
        go_wp2_with fail
        refine (plus_any w1 c ao bo la ca la cb f h hc HA.out HB.out).mono ?_
        rw [okP_self (by omega)]
        rintro e w2 ⟨po, rfl, hp, b2⟩
        replace HA : Hid (Rd w2 ao la f) := HA.out.below b2
        replace HB : Hid (Rd w2 bo la h) := HB.out.below b2
        have HP : Hid (Rd w2 po la (plus f c h)) := hp.rd
        replace b1 := below_step b1 b2 b1.size
        rw [show lenB true la = la from rfl, show errB true = 0 from rfl]
        clear hp b2
        have hbq : ((la : Int) == (la : Int)) = true := by simp
        go_wp2_with fail
        refine (xor_any w2 ao bo la ca la cb f h HA.out HB.out).mono ?_
        rw [okP_self (by omega)]
        rintro e w3 ⟨so, rfl, hs, b2⟩
        replace HA : Hid (Rd w3 ao la f) := HA.out.below b2
        replace HB : Hid (Rd w3 bo la h) := HB.out.below b2
        replace HP : Hid (Rd w3 po la (plus f c h)) := HP.out.below b2
        have HS : Hid (Rd w3 so la (plus f 1 h)) := hs.rd
        replace b1 := below_step b1 b2 b1.size
        rw [show lenB true la = la from rfl, show errB true = 0 from rfl]
        clear hs b2
        go_wp2_with fail
        refine (scale_any w3 c bo la cb h hc HB.out).mono ?_
        rw [okP_self (by omega)]
        rintro e w4 ⟨mo, rfl, hm, b2⟩
        replace HA : Hid (Rd w4 ao la f) := HA.out.below b2
        replace HB : Hid (Rd w4 bo la h) := HB.out.below b2
        replace HP : Hid (Rd w4 po la (plus f c h)) := HP.out.below b2
        replace HS : Hid (Rd w4 so la (plus f 1 h)) := HS.out.below b2
        have HM : Hid (Rd w4 mo la (scl c h)) := hm.rd
        replace b1 := below_step b1 b2 b1.size
        rw [show lenB true la = la from rfl, show errB true = 0 from rfl]
        clear hm b2
        go_wp2_with fail
        go_loopw [14, 15] (fun v i wr => ∃ k : Nat, k ≤ la ∧ i = .int .i64 k ∧ v = .bool (eqB k f h) ∧ Hid (Below w4.heap.size w4 wr)) (fun _ i _ => la - (intOf i).toNat)
        case atStart => exact ⟨0, Nat.zero_le _, rfl, by rw [eqB_zero], Below.refl _ _⟩
        case round =>
          obtain ⟨k, hk, rfl, rfl, hbel⟩ := hrel
          have HE : Hid (eqB (k + 1) f h = (eqB k f h && ((f k : Int) == (h k : Int)))) := eqB_succ k f h
          by_cases hlt : k < la
          · obtain ⟨b0, o0, rfl, c0⟩ := (HA.out.below hbel.out).2 (by omega)
            obtain ⟨b1, o1, rfl, c1⟩ := (HB.out.below hbel.out).2 (by omega)
            obtain ⟨b2, o2, rfl, c2⟩ := (HP.out.below hbel.out).2 (by omega)
            obtain ⟨b3, o3, rfl, c3⟩ := (HS.out.below hbel.out).2 (by omega)
            obtain ⟨b4, o4, rfl, c4⟩ := (HM.out.below hbel.out).2 (by omega)
            replace c0 := c0 k hlt
            replace c1 := c1 k hlt
            replace c2 := c2 k hlt
            replace c3 := c3 k hlt
            replace c4 := c4 k hlt
            rw [plus1 f h HB.out.1] at c3
            unfold plus at c2
            unfold scl at c4
            have hfk := HA.out.1 k
            have hhk := HB.out.1 k
            have i1 : (0 : Int) ≤ (k : Int) := by omega
            have i2 : (k : Int) < (la : Int) := by omega
            cases hq : eqB k f h
            · rw [hq, Bool.false_and] at HE
              clear hq
              go_wp2
              go_quiet (fail)
              go_wp2
              have e0 : (wr.drewN nq).cell? ⟨b0, o0 + k, none⟩ = some (.int .u8 (f k : Int)) := c0
              have e1 : (wr.drewN nq).cell? ⟨b1, o1 + k, none⟩ = some (.int .u8 (h k : Int)) := c1
              have e2 : (wr.drewN nq).cell? ⟨b2, o2 + k, none⟩ = some (.int .u8 ((Gf.add (f k) (Gf.mul c (h k)) : Nat) : Int)) := c2
              have e3 : (wr.drewN nq).cell? ⟨b3, o3 + k, none⟩ = some (.int .u8 ((Gf.add (f k) (h k) : Nat) : Int)) := c3
              have e4 : (wr.drewN nq).cell? ⟨b4, o4 + k, none⟩ = some (.int .u8 ((Gf.mul c (h k) : Nat) : Int)) := c4
              have bq : Below w4.heap.size w4 (wr.drewN nq) := below_drewN hbel.out nq
              generalize wr.drewN nq = wq at e0 e1 e2 e3 e4 bq ⊢
              go_quiet (first | (go_at_call 28; exact Calls.quiet_of_same (mul_n _ _ _ (by omega) (by omega))) | (go_at_call 27; exact Calls.quiet_of_same (add_n _ _ _ (by omega) (by first | omega | exact Gf.mul_lt _ _ (by omega)))))
              go_wp2
              go_roundw
              case rel => exact ⟨k + 1, by omega, by go_num, by rw [HE.out], below_drewN bq _⟩
              case measure => simp [intOf]; omega
            · rw [hq, Bool.true_and] at HE
              clear hq
              go_wp2
              go_quiet (fail)
              go_wp2
              have e0 : (wr.drewN nq).cell? ⟨b0, o0 + k, none⟩ = some (.int .u8 (f k : Int)) := c0
              have e1 : (wr.drewN nq).cell? ⟨b1, o1 + k, none⟩ = some (.int .u8 (h k : Int)) := c1
              have e2 : (wr.drewN nq).cell? ⟨b2, o2 + k, none⟩ = some (.int .u8 ((Gf.add (f k) (Gf.mul c (h k)) : Nat) : Int)) := c2
              have e3 : (wr.drewN nq).cell? ⟨b3, o3 + k, none⟩ = some (.int .u8 ((Gf.add (f k) (h k) : Nat) : Int)) := c3
              have e4 : (wr.drewN nq).cell? ⟨b4, o4 + k, none⟩ = some (.int .u8 ((Gf.mul c (h k) : Nat) : Int)) := c4
              have bq : Below w4.heap.size w4 (wr.drewN nq) := below_drewN hbel.out nq
              generalize wr.drewN nq = wq at e0 e1 e2 e3 e4 bq ⊢
              go_quiet (first | (go_at_call 28; exact Calls.quiet_of_same (mul_n _ _ _ (by omega) (by omega))) | (go_at_call 27; exact Calls.quiet_of_same (add_n _ _ _ (by omega) (by first | omega | exact Gf.mul_lt _ _ (by omega)))))
              go_wp2
              go_roundw
              case rel => exact ⟨k + 1, by omega, by go_num, by rw [HE.out], below_drewN bq _⟩
              case measure => simp [intOf]; omega
          · obtain rfl : k = la := by omega
            have HS' : Hid (Rd wr so k (plus f 1 h)) := HS.out.below hbel.out
            have HB' : Hid (Rd wr bo k h) := HB.out.below hbel.out
            have HA' : Hid (Rd wr ao k f) := HA.out.below hbel.out
            have HZ : Hid (zeroB k (plus f 1 h) = eqB k f h) := zero_eq k f h HB.out.1
            go_wp2_with fail
            refine (xor_any wr so bo k k k cb (plus f 1 h) h HS'.out HB'.out).mono ?_
            rw [okP_self (by omega)]
            rintro e w5 ⟨ro, rfl, hr, b5⟩
            have v1 := conv_any hr.rd k
            have v2 := conv_any (HA'.out.below b5) ca
            rw [show lenB true k = k from rfl, str_congr (fun i _ => plus_back f h HB.out.1 i)] at v1
            rw [show lenB true k = k from rfl, show errB true = 0 from rfl]
            replace HS' : Hid (Rd w5 so k (plus f 1 h)) := HS'.out.below b5
            have b6 : Below w.heap.size w w5 := below_step (below_step b1 hbel.out b1.size) b5 (Nat.le_trans b1.size hbel.out.size)
            clear hr b5
            go_wp2_with fail
            refine (zero_any w5 so k k (plus f 1 h) (by omega) HS'.out).mono ?_
            rintro e w' ⟨rfl, hw'⟩
            obtain rfl := hw'.symm
            rw [HZ.out]
            have hee : (eqB k f h == eqB k f h) = true := by simp
            go_wp2_with fail
            go_ret
            exact ⟨rfl, b6⟩
      · have hok : okP la lb = false := by simp [okP, h3]
        have hbq : ((la : Int) != (lb : Int)) = true := by simp; omega
        go_enter Try.func6, Try.ntmps6
        go_wp2_with fail
        refine (alive_any w).mono ?_
        rintro e w1 ⟨rfl, b1⟩
        go_wp2_with fail
        refine (plus_any w1 c ao bo la ca lb cb f h hc (HA.out.below b1) (HB.out.below b1)).mono ?_
        rw [hok]
        rintro e w2 ⟨po, rfl, hp, b2⟩
        replace b1 := below_step b1 b2 b1.size
        rw [show lenB false la = 0 from rfl, show errB false = 20 from rfl]
        clear hp b2
        go_wp2_with fail
        go_ret
        exact ⟨rfl, b1⟩
    · go_enter Try.func6, Try.ntmps6
      go_wp2_with fail
      refine (alive_any w).mono ?_
      rintro e w1 ⟨rfl, b1⟩
      go_wp2_with fail
      go_ret
      exact ⟨rfl, b1⟩
  · go_enter Try.func6, Try.ntmps6
    go_wp2_with fail
    refine (alive_any w).mono ?_
    rintro e w1 ⟨rfl, b1⟩
    go_wp2_with fail
    go_ret
    exact ⟨rfl, b1⟩
end Go.Proofs.Ytgkabcefohfmmaa
