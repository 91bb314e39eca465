/- Where a name stands: by halving, and one by one. -/
import Derived.Test.YtfbfiecamaginaaDrG
namespace Go.Proofs.Ytfbfiecamaginaa
open Go.RowKit Go.Sort

theorem ri_not {l : List En} (h : Ri l) {s : Nm} {i j : Nat} (hij : i ≤ j) (hj : j < l.length) (g : ¬ gN l i < s) : ¬ gN l j < s := by
  intro e
  rcases Nat.lt_or_ge i j with h1 | h1
  · exact g (nlt_trans (ri_lt h h1 hj) e)
  · obtain rfl : i = j := by omega
    exact g e
set_option maxHeartbeats 2000000 in
set_option maxRecDepth 100000 in
theorem search_any (w : World) (ao : Option Addr) (l : List En) (ca : Nat) (hv : Ren w ao l ca) (hn : l.length ≤ 1000000) (hri : Ri l) (s : Nm) :
    Calls Try.prog 34 #[.slice ao l.length ca, .string ⟨s.toArray⟩] w fun e w' => e = .returned (.tuple #[.int .i64 (posE l s : Int), .bool (isE l s)]) ∧ RowKit.Below w.heap.size w w' := by
  have HV : Hid (Ren w ao l ca) := hv
  have HRI : Hid (Ri l) := hri
  have HL := fun i => Less_any (gN l i) s
  have hn2 : (l.length : Int) ≤ 1000000 := by omega
  clear hv hri
  go_enter Try.func34, Try.ntmps34
  go_wp2_with fail
  go_loopw [4, 6] (fun x y wr => ∃ p b : Nat, p ≤ b ∧ b ≤ l.length ∧ x = .int .i64 (p : Int) ∧ y = .int .i64 (b : Int) ∧ Hid (∀ j, j < p → gN l j < s) ∧ Hid (∀ j, b ≤ j → j < l.length → ¬ gN l j < s) ∧ wr = w) (fun x y _ => (intOf y).toNat - (intOf x).toNat)
  case atStart => exact ⟨0, l.length, Nat.zero_le _, Nat.le_refl _, rfl, rfl, fun j hj => absurd hj (by omega), fun j h1 h2 => absurd h1 (by omega), rfl⟩
  case round =>
    obtain ⟨p, b, hpb, hb, rfl, rfl, hlo, hhi, rfl⟩ := hrel
    by_cases hlt : p < b
    · obtain ⟨m, hm⟩ : ∃ m, m = (p + b) / 2 := ⟨_, rfl⟩
      obtain ⟨g, off, rfl, hc⟩ := HV.out.at_ (by omega)
      obtain ⟨c0, c1⟩ := hc m (by omega)
      have m1 : p ≤ m := by omega
      have m2 : m < b := by omega
      have m3 : ((p : Int) + (b : Int)) / 2 = (m : Int) := by omega
      have i1 : (0 : Int) ≤ (m : Int) := by omega
      have i2 : (m : Int) < (l.length : Int) := by omega
      have i3 : (p : Int) < (b : Int) := by omega
      have i4 : Int.tdiv ((p : Int) + (b : Int)) 2 = (m : Int) := by rw [Int.tdiv_eq_ediv_of_nonneg (by omega)]; exact m3
      have hLL := HL m
      clear hc hm
      cases hd : decide (gN l m < s)
      · have HHI : Hid (∀ j, m ≤ j → j < l.length → ¬ gN l j < s) := fun j h1 h2 => ri_not HRI.out h1 h2 (of_decide_eq_false hd)
        rw [hd] at hLL
        clear hd
        go_wp2_with fail
        refine (hLL _).mono ?_
        rintro _ w2 ⟨rfl, rfl⟩
        go_wp2
        go_roundw
        case rel => exact ⟨p, m, by omega, by omega, rfl, rfl, hlo, HHI, trivial⟩
        case measure => simp [intOf]; omega
      · have HLO : Hid (∀ j, j < m + 1 → gN l j < s) := fun j h1 => by
          rcases Nat.lt_or_ge j m with h2 | h2
          · exact nlt_trans (ri_lt HRI.out h2 (by omega)) (of_decide_eq_true hd)
          · obtain rfl : j = m := by omega
            exact of_decide_eq_true hd
        rw [hd] at hLL
        clear hd
        go_wp2_with fail
        refine (hLL _).mono ?_
        rintro _ w2 ⟨rfl, rfl⟩
        go_wp2
        go_roundw
        case rel => exact ⟨m + 1, b, by omega, by omega, by go_num, rfl, HLO, hhi, trivial⟩
        case measure => simp [intOf]; omega
    · obtain rfl : p = b := by omega
      have hp : posE l s = p := pos_of hb hlo.out fun h => hhi.out p (Nat.le_refl _) h
      have HIS : Hid (isE l s = (decide (p < l.length) && (gN l p == s))) := by show _ = _; unfold isE; rw [hp]
      have HP : Hid (posE l s = p) := hp
      clear hp
      have d0 : decide ((p : Int) < (p : Int)) = false := by simp
      by_cases he : p < l.length
      · obtain ⟨g, off, rfl, hc⟩ := HV.out.at_ (by omega)
        obtain ⟨c0, c1⟩ := hc p he
        obtain ⟨N, hN⟩ : ∃ N, N = gN l p := ⟨_, rfl⟩
        rw [← hN] at c0 HIS
        have i1 : (0 : Int) ≤ (p : Int) := by omega
        have i2 : (p : Int) < (l.length : Int) := by omega
        have d1 : decide ((p : Int) < (l.length : Int)) = true := by simp; omega
        have d2 : decide (p < l.length) = true := by simp; omega
        clear hc hN
        cases hq : (N == s)
        · go_wp2
          go_big_quiet (fail)
          go_wp2
          go_ret2
          exact ⟨by rw [HP.out, HIS.out, hq, d2]; rfl, below_drewN _ _ _⟩
        · go_wp2
          go_big_quiet (fail)
          go_wp2
          go_ret2
          exact ⟨by rw [HP.out, HIS.out, hq, d2]; rfl, below_drewN _ _ _⟩
      · have d1 : decide ((p : Int) < (l.length : Int)) = false := by simp; omega
        have d2 : decide (p < l.length) = false := by simp; omega
        have d3 : ¬ (p : Int) < (l.length : Int) := by omega
        go_wp2
        go_big_quiet (fail)
        go_wp2
        go_ret2
        exact ⟨by rw [HP.out, HIS.out, d2]; rfl, below_drewN _ _ _⟩
end Go.Proofs.Ytfbfiecamaginaa
