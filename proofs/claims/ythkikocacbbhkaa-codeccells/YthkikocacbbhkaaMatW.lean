/- What the document's own reduction of a matrix comes to. -/
import Derived.Test.YthkikocacbbhkaaMatT
namespace Go.Proofs.Ythkikocacbbhkaa
open Go.RowKit

set_option maxHeartbeats 1000000 in
set_option maxRecDepth 100000 in
theorem cleared_any (w : World) (g q n u v c : Nat) (f h : Nat → K) (hn : n ≤ 1000) (hc : c < n) (hf : Own w g n u f) (hh : Own w q n v h) (hne : g ≠ q) (h0 : h c ≠ 0) :
    Calls Try.prog 59 #[.slice (some ⟨g, 0, none⟩) n u, .slice (some ⟨q, 0, none⟩) n v, .int .i64 (c : Int)] w fun e w' => e = .returned (.tuple #[]) ∧ Own w' g n u (plus f ((K.mul (f c) ((h c).inv))) h) ∧ Keeps g (g + 1) w w' := by
  have HF : Hid (Own w g n u f) := hf
  have HH : Hid (Own w q n v h) := hh
  have c1 := hf.cell hc
  have c2 := hh.cell hc
  have HD : Hid (∀ m, Calls Try.prog 47 #[.int .u8 ((f c).n : Int), .int .u8 ((h c).n : Int)] (w.drewN m) fun e w' => e = .returned (.tuple #[.int .u8 (((K.mul (f c) ((h c).inv))).n : Int), .int .i64 0]) ∧ w' = w.drewN m) := fun m => rdiv_k _ _ _ h0
  obtain ⟨S, hS⟩ : ∃ S, S = (K.mul (f c) ((h c).inv)) := ⟨_, rfl⟩
  rw [← hS] at HD ⊢
  clear hf hh h0 hS
  have i1 : (0 : Int) ≤ (c : Int) := by omega
  have i2 : (c : Int) < (n : Int) := by omega
  go_enter Try.func59, Try.ntmps59
  go_wp2
  go_quiet (first | (go_at_call 47; exact Calls.quiet_of_same (HD.out _)))
  have HF1 : Hid (Own (w.drewN nq) g n u f) := HF.out.below (below_drewN _ _ _)
  have HH1 : Hid (Own (w.drewN nq) q n v h) := HH.out.below (below_drewN _ _ _)
  have HK1 : Hid (Keeps g (g + 1) w (w.drewN nq)) := (Keeps.refl _ _ w).drewN nq
  clear HD c1 c2 HF HH
  generalize w.drewN nq = w1 at *
  go_wp2
  go_loopw [8] (fun i wr => ∃ k : Nat, k ≤ n ∧ i = .int .i64 k ∧ Hid (Own wr g n u (upto k (plus f S h) f)) ∧ Hid (Keeps g (g + 1) w1 wr)) (fun i _ => n - (intOf i).toNat)
  case atStart => exact ⟨0, Nat.zero_le _, rfl, by rw [upto_zero]; exact HF1.out, Keeps.refl _ _ _⟩
  case round =>
    obtain ⟨k, hk, rfl, hown, hkeep⟩ := hrel
    by_cases hlt : k < n
    · have d1 : wr.cell? ⟨g, k, none⟩ = some (.int .u8 ((f k).n : Int)) := by have := hown.out.cell hlt; rwa [upto_at] at this
      have d2 : wr.cell? ⟨q, k, none⟩ = some (.int .u8 ((h k).n : Int)) := (HH1.out.keeps hkeep.out (by omega)).cell hlt
      have z1 := hown.out.frozen k
      have HX : Hid (bits .xor .u8 ((f k).n : Int) (((K.mul S (h k))).n : Int) = (((plus f S h k).n : Nat) : Int)) := xor_k (f k) ((K.mul S (h k)))
      have j1 : (0 : Int) ≤ (k : Int) := by omega
      have j2 : (k : Int) < (n : Int) := by omega
      go_wp2
      refine wp_region_still_tail 14 (by kernel_rfl) (by kernel_rfl) ?_
      simp only [List.take_succ_cons, List.take_zero, List.drop_succ_cons, List.drop_zero]
      repeat still_step
      still_call (rmul_k S (h k) _)
      repeat still_step
      refine wpStill_nil ?_
      go_wp2
      go_roundw
      case rel => exact ⟨k + 1, by omega, by go_num, by rw [HX.out]; exact hown.out.store (f := plus f S h), (hkeep.out.setCell (Nat.le_refl _) (by omega) k _).drew⟩
      case measure => simp [intOf]; omega
    · obtain rfl : k = n := by omega
      go_wp2
      go_end0
      exact ⟨rfl, hown.out.all, HK1.out.trans hkeep.out⟩

theorem swp_comm (b i0 : Nat) (X : M) : swp b i0 X = swp i0 b X := by
  funext i
  unfold swp
  by_cases h : i = b
  · by_cases g : i = i0
    · rw [if_pos h, if_pos g]; rw [← h, ← g]
    · rw [if_pos h, if_neg g, if_pos h]
  · by_cases g : i = i0
    · rw [if_neg h, if_pos g, if_pos g]
    · rw [if_neg h, if_neg g, if_neg g, if_neg h]
/-- The rows ahead of the row k have been cleared. -/
def clrT (b c k : Nat) (H : M) (i : Nat) : Nat → K := if i = b then H b else if i < k then plus (H i) ((K.mul (H i c) ((H b c).inv))) (H b) else H i

set_option maxHeartbeats 4000000 in
set_option maxRecDepth 100000 in
theorem steps_any (w : World) (B T l cl rows cols C : Nat) (G U : Nat → Nat) (A : M) (hr : rows ≤ 1000) (hc : cols ≤ 1000) (hC : C ≤ cols) (hm : Mat w B T l cl rows cols G U A) :
    Calls Try.prog 46 #[.slice (some ⟨l, 0, none⟩) rows cl, .int .i64 (C : Int)] w fun e w' => ∃ b P G U, e = .returned (.int .i64 ((b : Nat) : Int)) ∧ Red false rows A C b P ∧ Mat w' B T l cl rows cols G U P ∧ Keeps B T w w' := by
  have HM : Hid (Mat w B T l cl rows cols G U A) := hm
  clear hm
  go_enter Try.func46, Try.ntmps46
  go_wp2
  go_loopw [5, 6] (fun x i wr => ∃ c b : Nat, c ≤ C ∧ b ≤ rows ∧ i = .int .i64 c ∧ x = .int .i64 b ∧ Hid (∃ P G U, Red false rows A c b P ∧ Mat wr B T l cl rows cols G U P) ∧ Hid (Keeps B T w wr)) (fun _ i _ => C - (intOf i).toNat)
  case atStart => exact ⟨0, 0, Nat.zero_le _, Nat.zero_le _, rfl, rfl, ⟨A, G, U, Red.start _ _ _, HM.out⟩, Keeps.refl _ _ _⟩
  case round =>
    obtain ⟨c, b, hcC, hbr, rfl, rfl, hall, hkeep⟩ := hrel
    by_cases hgo : c < C ∧ b < rows
    · obtain ⟨hlt, hb⟩ := hgo
      obtain ⟨P, G, U, hred, hmat⟩ := hall.out
      have HRed : Hid (Red false rows A c b P) := hred
      have HMat : Hid (Mat wr B T l cl rows cols G U P) := hmat
      clear hall hred hmat
      go_wp2
      go_loop [7] (fun x => ∃ j : Nat, j ≤ rows ∧ b ≤ j ∧ x = .int .i64 j ∧ Hid (∀ i, b ≤ i → i < j → P i c = 0)) (fun x => rows - (intOf x).toNat)
      case atStart => exact ⟨b, hbr, Nat.le_refl _, rfl, fun i h1 h2 => by omega⟩
      case round =>
        obtain ⟨j, hjr, hbj, rfl, hz⟩ := hrel
        by_cases hj : j < rows
        · have e1 := HMat.out.cell_l hj
          have e2 := (HMat.out.row j hj).cell (show c < cols by omega)
          have i1 : (0 : Int) ≤ (j : Int) := by omega
          have i2 : (j : Int) < (rows : Int) := by omega
          have i3 : (0 : Int) ≤ (c : Int) := by omega
          have i4 : (c : Int) < (cols : Int) := by omega
          by_cases hp : P j c = 0
          · have hn0 : (((P j c).n : Int) == 0) = true := by rw [hp]; rfl
            go_wp2
            go_round
            case rel => exact ⟨j + 1, by omega, by omega, by go_num, fun i h1 h2 => (Nat.lt_or_ge i j).elim (fun h => hz.out i h1 h) (fun h => by rw [show i = j by omega]; exact hp)⟩
            case measure => simp [intOf]; omega
          · have hn0 : (((P j c).n : Int) == 0) = false := by have := K.ne_zero hp; simp; omega
            have HP : Hid (¬ P j c = 0) := hp
            have e3 := HMat.out.cell_l hb
            have z1 := HMat.out.frozen_l b
            have z2 := HMat.out.frozen_l j
            have i5 : (0 : Int) ≤ (b : Int) := by omega
            have i6 : (b : Int) < (rows : Int) := by omega
            have hjq : ((j : Int) == (rows : Int)) = false := by simp; omega
            clear hp
            have z3 : (wr.setCell ⟨l, j, none⟩ (.slice (some ⟨G b, 0, none⟩) cols (U b))).cell? ⟨l, b, none⟩ = some (.slice (some ⟨G b, 0, none⟩) cols (U b)) := by
              obtain ⟨h, hr, hh⟩ := HMat.out.lst
              rw [(hr.set j _).cell (i := b) (Nat.lt_of_lt_of_le hb HMat.out.room)]
              show some (if b = j then _ else h b) = _
              split
              · rfl
              · rw [hh b hb]
            obtain ⟨w2, hw2⟩ : ∃ w2, w2 = (wr.setCell ⟨l, j, none⟩ (.slice (some ⟨G b, 0, none⟩) cols (U b))).setCell ⟨l, b, none⟩ (.slice (some ⟨G j, 0, none⟩) cols (U j)) := ⟨_, rfl⟩
            have HM2 : Hid (Mat w2 B T l cl rows cols (exch j b G) (exch j b U) (swp b j P)) := by rw [hw2, swp_comm]; exact HMat.out.swap hj hb
            have HK2 : Hid (Keeps B T w w2) := by rw [hw2]; exact (hkeep.out.setCell HMat.out.lo HMat.out.hi j _).setCell HMat.out.lo HMat.out.hi b _
            go_wp2
            rw [← hw2]
            clear hw2 z3
            obtain ⟨Q, hQ⟩ : ∃ Q, Q = swp b j P := ⟨_, rfl⟩
            have HQ : Hid (Q = swp b j P) := hQ
            rw [← hQ] at HM2
            have HQB : Hid (Q b c ≠ 0) := by rw [hQ]; show (swp b j P b) c ≠ 0; rw [show swp b j P b = P j from if_pos rfl]; exact HP.out
            clear hQ
            obtain ⟨G2, hG2⟩ : ∃ G2, G2 = exch j b G := ⟨_, rfl⟩
            obtain ⟨U2, hU2⟩ : ∃ U2, U2 = exch j b U := ⟨_, rfl⟩
            rw [← hG2, ← hU2] at HM2
            clear hG2 hU2
            go_loopw [9] (fun i wr => ∃ q : Nat, q ≤ rows ∧ i = .int .i64 q ∧ Hid (Mat wr B T l cl rows cols G2 U2 (clrT b c q Q)) ∧ Hid (Keeps B T w wr)) (fun i _ => rows - (intOf i).toNat)
            case atStart => exact ⟨0, Nat.zero_le _, rfl, HM2.out.congr (fun i j _ _ => by
              unfold clrT
              by_cases e : i = b
              · rw [if_pos e, e]
              · rw [if_neg e, if_neg (Nat.not_lt_zero i)]), HK2.out⟩
            case round =>
              obtain ⟨q, hq, rfl, hmat, hkeep3⟩ := hrel
              by_cases hqr : q < rows
              · have f1 := hmat.out.cell_l hqr
                have f2 := hmat.out.cell_l hb
                have k1 : (0 : Int) ≤ (q : Int) := by omega
                have k2 : (q : Int) < (rows : Int) := by omega
                by_cases hqb : q = b
                · subst hqb
                  have hbq : ((q : Int) != (q : Int)) = false := by simp
                  go_wp2
                  go_roundw
                  case rel => exact ⟨q + 1, by omega, by go_num, hmat.out.congr (fun i j _ _ => by
                    unfold clrT
                    by_cases e : i = q
                    · rw [if_pos e, if_pos e]
                    · rw [if_neg e, if_neg e]
                      by_cases e' : i < q
                      · rw [if_pos e', if_pos (by omega)]
                      · rw [if_neg e', if_neg (by omega)]), hkeep3.out⟩
                  case measure => simp [intOf]; omega
                · have hbq : ((q : Int) != (b : Int)) = true := by simp; omega
                  have hcq : clrT b c q Q q = Q q := by unfold clrT; rw [if_neg hqb, if_neg (by omega)]
                  have hcb : clrT b c q Q b = Q b := by unfold clrT; rw [if_pos rfl]
                  have HT : Hid (Calls Try.prog 59 #[.slice (some ⟨G2 q, 0, none⟩) cols (U2 q), .slice (some ⟨G2 b, 0, none⟩) cols (U2 b), .int .i64 (c : Int)] wr.drew fun e w' => e = .returned (.tuple #[]) ∧ Own w' (G2 q) cols (U2 q) (plus (Q q) ((K.mul (Q q c) ((Q b c).inv))) (Q b)) ∧ Keeps (G2 q) (G2 q + 1) wr.drew w') := by
                    refine cleared_any wr.drew (G2 q) (G2 b) cols (U2 q) (U2 b) c (Q q) (Q b) hc (by omega) ?_ ?_ (hmat.out.apart q b hqr hb hqb) HQB.out
                    · have := (hmat.out.row q hqr).below (below_drew _ wr)
                      rwa [hcq] at this
                    · have := (hmat.out.row b hb).below (below_drew _ wr)
                      rwa [hcb] at this
                  clear hcq hcb
                  go_wp2
                  refine wp_region_still_tail 9 (by kernel_rfl) (by kernel_rfl) ?_
                  simp only [List.take_succ_cons, List.take_zero, List.drop_succ_cons, List.drop_zero]
                  repeat still_step
                  refine wpStill_nil ?_
                  go_wp2_with (go_at_call 59; refine HT.out.mono ?_; rintro e w4 ⟨rfl, hown2, hkeep2⟩)
                  have HM4 : Hid (Mat w4 B T l cl rows cols G2 U2 (clrT b c (q + 1) Q)) := ((hmat.out.below (below_drew _ wr)).put hqr hown2 hkeep2).congr (fun i j _ _ => by
                    unfold clrT
                    by_cases e : i = q
                    · rw [if_pos e, e, if_neg hqb, if_pos (by omega)]
                    · rw [if_neg e]
                      by_cases e' : i = b
                      · rw [if_pos e', if_pos e']
                      · rw [if_neg e', if_neg e']
                        by_cases e'' : i < q
                        · rw [if_pos e'', if_pos (by omega)]
                        · rw [if_neg e'', if_neg (by omega)])
                  have HK4 : Hid (Keeps B T w w4) := hkeep3.out.drew.trans (hkeep2.mono (hmat.out.los q hqr) (hmat.out.his q hqr))
                  clear hown2 hkeep2
                  go_wp2_with fail
                  go_roundw
                  case rel => exact ⟨q + 1, by omega, by go_num, HM4.out, HK4.out⟩
                  case measure => simp [intOf]; omega
              · obtain rfl : q = rows := by omega
                have HM5 : Hid (Mat wr B T l cl q cols G2 U2 (clr b 1 (fun i => (K.mul (swp b j P i c) ((P j c).inv))) (swp b j P))) := hmat.out.congr fun i y hi _ => by
                  rw [HQ.out]
                  unfold clrT clr
                  have hsw : swp b j P b = P j := if_pos rfl
                  rw [hsw]
                  by_cases e : i = b
                  · rw [if_pos e, if_pos e, K.one_mul]
                  · rw [if_neg e, if_neg e, if_pos hi]; rfl
                go_wp2
                go_roundw
                case rel => exact ⟨c + 1, b + 1, by omega, hb, by go_num, by go_num, ⟨_, _, _, HRed.out.take0 hbj hj HP.out, HM5.out⟩, hkeep3.out⟩
                case measure => simp [intOf]; omega
        · obtain rfl : j = rows := by omega
          have hjq : ((j : Int) == (j : Int)) = true := by simp
          go_wp2
          go_roundw
          case rel => exact ⟨c + 1, b, by omega, hbr, by go_num, rfl, ⟨P, G, U, HRed.out.skip hz.out, HMat.out⟩, hkeep.out⟩
          case measure => simp [intOf]; omega
    · obtain ⟨P, G, U, hred, hmat⟩ := hall.out
      have HRed : Hid (Red false rows A C b P) := by
        by_cases h : c < C
        · have := hred.full (show rows ≤ b by omega) (C - c)
          rwa [show c + (C - c) = C by omega] at this
        · rw [show C = c by omega]; exact hred
      have HMat : Hid (Mat wr B T l cl rows cols G U P) := hmat
      clear hall hred hmat
      by_cases hcc : c < C
      · have hbb : ¬ (b : Int) < (rows : Int) := by omega
        go_wp2
        go_ret
        exact ⟨b, rfl, P, HRed.out, ⟨G, U, HMat.out⟩, hkeep.out⟩
      · go_wp2
        go_ret
        exact ⟨b, P, G, U, rfl, HRed.out, HMat.out, hkeep.out⟩
end Go.Proofs.Ythkikocacbbhkaa
