/- The program's reduction of a whole matrix. -/
import Derived.Test.YthkikocacbbhkaaMatB
import Derived.Deep.LoopGhost
import Derived.WalkMore
namespace Go.Proofs.Ythkikocacbbhkaa
open Go.RowKit

set_option maxHeartbeats 1000000 in
set_option maxRecDepth 100000 in
theorem reduce_any (w : World) (B T l cl rows cols C : Nat) (G U : Nat → Nat) (A : M) (hr : rows ≤ 1000) (hc : cols ≤ 1000) (hC : C ≤ cols) (hm : Mat w B T l cl rows cols G U A) :
    Calls Try.prog 63 #[.slice (some ⟨l, 0, none⟩) rows cl, .int .i64 (C : Int)] w fun e w' => ∃ b P G U, e = .returned (.int .i64 ((b : Nat) : Int)) ∧ Red true rows A C b P ∧ Mat w' B T l cl rows cols G U P ∧ Keeps B T w w' := by
  have HM : Hid (Mat w B T l cl rows cols G U A) := hm
  clear hm
  go_enter Try.func63, Try.ntmps63
  go_wp2
  go_step3
  go_wp2
  go_step3
  go_wp2
  go_loopg [5, 9] C (fun g x i wr => ∃ c b : Nat, c + g = C ∧ b ≤ rows ∧ i = .int .i64 c ∧ x = .int .i64 b ∧ Hid (∃ P G U, Red true rows A c b P ∧ Mat wr B T l cl rows cols G U P) ∧ Hid (Keeps B T w wr))
  case atStart => exact ⟨0, 0, by omega, Nat.zero_le _, rfl, rfl, ⟨A, G, U, Red.start _ _ _, HM.out⟩, Keeps.refl _ _ _⟩
  case round =>
    obtain ⟨c, b, hcC, hbr, rfl, rfl, hall, hkeep⟩ := hrel
    cases gk with
    | zero =>
      have hkz : ¬ ((c : Int) < (C : Int)) := by omega
      obtain rfl : c = C := by omega
      go_wp2
      try rw [Exit.noGoto_ret]
      go_ret
      obtain ⟨P, G, U, hred, hmat⟩ := hall.out
      exact ⟨b, P, G, U, rfl, hred, hmat, hkeep.out⟩
    | succ g =>
      have hkz : (c : Int) < (C : Int) := by omega
      obtain ⟨P, G, U, hred, hmat⟩ := hall.out
      have HRed : Hid (Red true rows A c b P) := hred
      have HMat : Hid (Mat wr B T l cl rows cols G U P) := hmat
      clear hall hred hmat
      obtain ⟨wm, rfl⟩ : ∃ x, x = wr := ⟨wr, rfl⟩
      go_wp2
      go_loopg [7] (rows - b) (fun g x wr => ∃ j : Nat, j + g = rows ∧ b ≤ j ∧ x = .int .i64 j ∧ wr = wm ∧ Hid (∀ i, b ≤ i → i < j → P i c = 0))
      case atStart => exact ⟨b, by omega, Nat.le_refl _, rfl, rfl, fun i h1 h2 => by omega⟩
      case round =>
        obtain ⟨j, hjg, hbj, rfl, rfl, hz⟩ := hrel
        cases gk with
        | zero =>
          obtain rfl : j = rows := by omega
          have hbq : ((j : Int) == (j : Int)) = true := by simp
          go_wp2
          go_roundg g
          case rel => exact ⟨c + 1, b, by omega, hbr, by go_num, rfl, ⟨P, G, U, HRed.out.skip hz.out, HMat.out⟩, hkeep.out⟩
          case measure => omega
        | succ g' =>
          have hj : j < rows := by omega
          have e1 := HMat.out.cell_l hj
          have e2 := (HMat.out.row j hj).cell (show c < cols by omega)
          have hbq : ((j : Int) == (rows : Int)) = false := by simp; omega
          have i1 : (0 : Int) ≤ (j : Int) := by omega
          have i2 : (j : Int) < (rows : Int) := by omega
          have i3 : (0 : Int) ≤ (c : Int) := by omega
          have i4 : (c : Int) < (cols : Int) := by omega
          by_cases hp : P j c = 0
          · have hn0 : (((P j c).n : Int) != 0) = false := by rw [hp]; rfl
            go_wp2
            go_roundg g'
            case rel => exact ⟨j + 1, by omega, by omega, by go_num, rfl, fun i h1 h2 => (Nat.lt_or_ge i j).elim (fun h => hz.out i h1 h) (fun h => by rw [show i = j by omega]; exact hp)⟩
            case measure => omega
          · have hn0 : (((P j c).n : Int) != 0) = true := by have := K.ne_zero hp; simp; omega
            have HP : Hid (¬ P j c = 0) := hp
            have hb : b < rows := by omega
            have e3 := HMat.out.cell_l hb
            have z1 := HMat.out.frozen_l b
            have z2 := HMat.out.frozen_l j
            have i5 : (0 : Int) ≤ (b : Int) := by omega
            have i6 : (b : Int) < (rows : Int) := by omega
            clear hp
            have z3 : (wr.setCell ⟨l, b, none⟩ (.slice (some ⟨G j, 0, none⟩) cols (U j))).cell? ⟨l, j, none⟩ = some (.slice (some ⟨G j, 0, none⟩) cols (U j)) := by
              obtain ⟨h, hr, hh⟩ := HMat.out.lst
              rw [(hr.set b _).cell (i := j) (Nat.lt_of_lt_of_le hj HMat.out.room)]
              show some (if j = b then _ else h j) = _
              split
              · rfl
              · rw [hh j hj]
            have HT : Hid (Calls Try.prog 68 #[.slice (some ⟨l, 0, none⟩) rows cl, .int .i64 (b : Int), .int .i64 (c : Int)] ((wr.setCell ⟨l, b, none⟩ (.slice (some ⟨G j, 0, none⟩) cols (U j))).setCell ⟨l, j, none⟩ (.slice (some ⟨G b, 0, none⟩) cols (U b))).drew fun e w' => e = .returned (.tuple #[]) ∧ Mat w' B T l cl rows cols (exch b j G) (exch b j U) (clr b (P j c).inv (fun i => (K.mul (swp b j P i c) ((P j c).inv))) (swp b j P)) ∧ Keeps B T ((wr.setCell ⟨l, b, none⟩ (.slice (some ⟨G j, 0, none⟩) cols (U j))).setCell ⟨l, j, none⟩ (.slice (some ⟨G b, 0, none⟩) cols (U b))).drew w') := by
              have hsw : swp b j P b = P j := if_pos rfl
              have := single_any _ B T l cl rows cols b c _ _ _ hr hc hb (by omega) ((HMat.out.swap hb hj).below (below_drew _ _)) (by rw [hsw]; exact HP.out)
              rwa [hsw] at this
            have HKS : Hid (Keeps B T w ((wr.setCell ⟨l, b, none⟩ (.slice (some ⟨G j, 0, none⟩) cols (U j))).setCell ⟨l, j, none⟩ (.slice (some ⟨G b, 0, none⟩) cols (U b))).drew) :=
              ((hkeep.out.setCell HMat.out.lo HMat.out.hi b _).setCell HMat.out.lo HMat.out.hi j _).drew
            go_wp2
            go_region
            go_wp2_with (go_at_call 68; refine HT.out.mono ?_; rintro e w2 ⟨rfl, hmat2, hkeep2⟩)
            have HM2 : Hid (Mat w2 B T l cl rows cols (exch b j G) (exch b j U) (clr b (P j c).inv (fun i => (K.mul (swp b j P i c) ((P j c).inv))) (swp b j P))) := hmat2
            have HK2 : Hid (Keeps B T w w2) := HKS.out.trans hkeep2
            clear hmat2 hkeep2
            go_roundg g
            case rel => exact ⟨c + 1, b + 1, by omega, hb, by go_num, by go_num, ⟨_, _, _, HRed.out.take1 hbj hj HP.out, HM2.out⟩, HK2.out⟩
            case measure => omega
end Go.Proofs.Ythkikocacbbhkaa
