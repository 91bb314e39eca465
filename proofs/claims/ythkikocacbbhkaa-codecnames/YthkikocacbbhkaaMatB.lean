/- What the program's reduction does to a matrix of its own. -/
import Derived.Test.YthkikocacbbhkaaMatA
import Derived.StillTailTactics
import Derived.BigQuiet
namespace Go.Proofs.Ythkikocacbbhkaa
open Go.RowKit

theorem add_k (a b : K) (w : World) : Calls Try.prog 57 #[.int .u8 (a.n : Int), .int .u8 (b.n : Int)] w fun e w' => e = .returned (.int .u8 (((K.add a b)).n : Int)) ∧ w' = w := add_n a.n b.n w a.lt b.lt
theorem mul_k (a b : K) (w : World) : Calls Try.prog 60 #[.int .u8 (a.n : Int), .int .u8 (b.n : Int)] w fun e w' => e = .returned (.int .u8 (((K.mul a b)).n : Int)) ∧ w' = w := mul_n a.n b.n w a.lt b.lt
theorem inv_k (a : K) (w : World) (h : a ≠ 0) : Calls Try.prog 56 #[.int .u8 (a.n : Int)] w fun e w' => e = .returned (.tuple #[.int .u8 (a.inv.n : Int), .int .i64 0]) ∧ w' = w := inv_n a.n w a.lt (K.ne_zero h)

def plus (f : Nat → K) (c : K) (h : Nat → K) (i : Nat) : K := (K.add (f i) (K.mul c (h i)))

set_option maxHeartbeats 400000 in
set_option maxRecDepth 100000 in
theorem take_any (w : World) (g q n u v : Nat) (c : K) (f h : Nat → K) (hn : n ≤ 1000) (hf : Own w g n u f) (hh : Own w q n v h) (hne : g ≠ q) :
    Calls Try.prog 71 #[.slice (some ⟨g, 0, none⟩) n u, .int .u8 (c.n : Int), .slice (some ⟨q, 0, none⟩) n v] w fun e w' => e = .returned (.tuple #[]) ∧ Own w' g n u (plus f c h) ∧ Keeps g (g + 1) w w' := by
  have HF : Hid (Own w g n u f) := hf
  have HH : Hid (Own w q n v h) := hh
  clear hf hh
  go_enter Try.func71, Try.ntmps71
  go_wp2
  go_loopw [10] (fun i wr => ∃ k : Nat, k ≤ n ∧ i = .int .i64 k ∧ Hid (Own wr g n u (upto k (plus f c h) f)) ∧ Hid (Keeps g (g + 1) w wr)) (fun i _ => n - (intOf i).toNat)
  case atStart => exact ⟨0, Nat.zero_le _, rfl, by rw [upto_zero]; exact HF.out, Keeps.refl _ _ _⟩
  case round =>
    obtain ⟨k, hk, rfl, hown, hkeep⟩ := hrel
    by_cases hlt : k < n
    · have c1 : wr.cell? ⟨g, k, none⟩ = some (.int .u8 ((f k).n : Int)) := by have := hown.out.cell hlt; rwa [upto_at] at this
      have c2 : wr.cell? ⟨q, k, none⟩ = some (.int .u8 ((h k).n : Int)) := (HH.out.keeps hkeep.out (by omega)).cell hlt
      have z1 := hown.out.frozen k
      have i1 : (0 : Int) ≤ (k : Int) := by omega
      have i2 : (k : Int) < (n : Int) := by omega
      go_wp2
      refine wp_region_still_tail 11 (by kernel_rfl) (by kernel_rfl) ?_
      simp only [List.take_succ_cons, List.take_zero, List.drop_succ_cons, List.drop_zero]
      repeat still_step
      still_call (mul_k c (h k) _)
      still_call (add_k (f k) ((K.mul c (h k))) _)
      repeat still_step
      refine wpStill_nil ?_
      go_wp2
      go_roundw
      case rel => exact ⟨k + 1, by omega, by go_num, hown.out.store (f := plus f c h), (hkeep.out.setCell (Nat.le_refl _) (by omega) k _).drew⟩
      case measure => simp [intOf]; omega
    · obtain rfl : k = n := by omega
      go_wp2
      go_end0
      exact ⟨rfl, hown.out.all, hkeep.out⟩

def scl (c : K) (f : Nat → K) (i : Nat) : K := (K.mul c (f i))
/-- The rows behind the first k of the others have been cleared. -/
def clrTo (b : Nat) (R : Nat → K) (c k : Nat) (H : M) (i : Nat) : Nat → K := if i = b then R else if i < k then plus (H i) (H i c) R else H i

set_option maxHeartbeats 1000000 in
set_option maxRecDepth 100000 in
theorem single_any (w : World) (B T l cl rows cols b c : Nat) (G U : Nat → Nat) (H : M) (hr : rows ≤ 1000) (hc : cols ≤ 1000) (hb : b < rows) (hcc : c < cols) (hm : Mat w B T l cl rows cols G U H) (hne : H b c ≠ 0) :
    Calls Try.prog 68 #[.slice (some ⟨l, 0, none⟩) rows cl, .int .i64 (b : Int), .int .i64 (c : Int)] w fun e w' => e = .returned (.tuple #[]) ∧ Mat w' B T l cl rows cols G U (clr b (H b c).inv (fun i => (K.mul (H i c) ((H b c).inv))) H) ∧ Keeps B T w w' := by
  have HM : Hid (Mat w B T l cl rows cols G U H) := hm
  have c1 := hm.cell_l hb
  have c2 := (hm.row b hb).cell hcc
  have hlb := hm.ne_l hb
  obtain ⟨S, hS⟩ : ∃ S, S = (H b c).inv := ⟨_, rfl⟩
  have HINV : Hid (∀ w, Calls Try.prog 56 #[.int .u8 ((H b c).n : Int)] w fun e w' => e = .returned (.tuple #[.int .u8 (S.n : Int), .int .i64 0]) ∧ w' = w) := by rw [hS]; exact fun w => inv_k _ w hne
  rw [← hS]
  obtain ⟨R, hR⟩ : ∃ R, R = scl S (H b) := ⟨_, rfl⟩
  have HR : Hid (R = scl S (H b)) := hR
  clear hm hne hS hR
  have i1 : (0 : Int) ≤ (b : Int) := by omega
  have i2 : (b : Int) < (rows : Int) := by omega
  have i3 : (0 : Int) ≤ (c : Int) := by omega
  have i4 : (c : Int) < (cols : Int) := by omega
  go_enter Try.func68, Try.ntmps68
  go_wp2_with fail
  refine (HINV.out w).mono ?_
  rintro e w' ⟨rfl, hw'⟩
  obtain rfl := hw'.symm
  go_wp2_with fail
  go_loopw [28] (fun i wr => ∃ k : Nat, k ≤ cols ∧ i = .int .i64 k ∧ Hid (Own wr (G b) cols (U b) (upto k R (H b))) ∧ Hid (Keeps (G b) (G b + 1) w wr)) (fun i _ => cols - (intOf i).toNat)
  case atStart => exact ⟨0, Nat.zero_le _, rfl, by rw [upto_zero]; exact HM.out.row b hb, Keeps.refl _ _ _⟩
  case round =>
    obtain ⟨k, hk, rfl, hown, hkeep⟩ := hrel
    have d1 : wr.cell? ⟨l, b, none⟩ = _ := hkeep.out.cell c1 (by simp only; omega)
    by_cases hlt : k < cols
    · have d2 : wr.cell? ⟨G b, k, none⟩ = some (.int .u8 ((H b k).n : Int)) := by have := hown.out.cell hlt; rwa [upto_at] at this
      have z1 := hown.out.frozen k
      have HRk : Hid ((K.mul S (H b k)) = R k) := by rw [HR.out]; rfl
      have i5 : (0 : Int) ≤ (k : Int) := by omega
      have i6 : (k : Int) < (cols : Int) := by omega
      go_wp2
      refine wp_region_still_tail 9 (by kernel_rfl) (by kernel_rfl) ?_
      simp only [List.take_succ_cons, List.take_zero, List.drop_succ_cons, List.drop_zero]
      repeat still_step
      still_call (mul_k S (H b k) _)
      repeat still_step
      refine wpStill_nil ?_
      go_wp2
      go_roundw
      case rel => exact ⟨k + 1, by omega, by go_num, by rw [HRk.out]; exact hown.out.store, (hkeep.out.setCell (Nat.le_refl _) (by omega) k _).drew⟩
      case measure => simp [intOf]; omega
    · obtain rfl : k = cols := by omega
      have HM1 : Hid (Mat wr B T l cl rows k G U (fun i => if i = b then R else H i)) := HM.out.put hb hown.out.all hkeep.out
      have HK1 : Hid (Keeps B T w wr) := hkeep.out.mono (HM.out.los b hb) (HM.out.his b hb)
      clear hown hkeep
      obtain ⟨wm, rfl⟩ : ∃ x, x = wr := ⟨wr, rfl⟩
      go_wp2
      go_loopw [45] (fun i wr => ∃ q : Nat, q ≤ rows ∧ i = .int .i64 q ∧ Hid (Mat wr B T l cl rows k G U (clrTo b R c q H)) ∧ Hid (Keeps B T w wr)) (fun i _ => rows - (intOf i).toNat)
      case atStart => exact ⟨0, Nat.zero_le _, rfl, HM1.out.congr (fun i j _ _ => by unfold clrTo; simp), HK1.out⟩
      case round =>
        obtain ⟨q, hq, rfl, hmat, hkeep⟩ := hrel
        by_cases hlt : q < rows
        · have e1 := hmat.out.cell_l hlt
          have e2 := hmat.out.cell_l hb
          have e3 := (hmat.out.row q hlt).cell hcc
          have i5 : (0 : Int) ≤ (q : Int) := by omega
          have i6 : (q : Int) < (rows : Int) := by omega
          by_cases hqb : q = b
          · subst hqb
            have hbq : ((q : Int) != (q : Int)) = false := by simp
            go_wp2
            go_roundw
            case rel => exact ⟨q + 1, by omega, by go_num, hmat.out.congr (fun i j _ _ => by
              unfold clrTo
              by_cases e : i = q
              · simp [e]
              · rw [if_neg e, if_neg e]
                by_cases e' : i < q
                · rw [if_pos e', if_pos (by omega)]
                · rw [if_neg e', if_neg (by omega)]), hkeep.out⟩
            case measure => simp [intOf]; omega
          · have hbq : ((q : Int) != (b : Int)) = true := by simp; omega
            have hcq : clrTo b R c q H q = H q := by unfold clrTo; rw [if_neg hqb, if_neg (by omega)]
            have hcb : clrTo b R c q H b = R := by unfold clrTo; rw [if_pos rfl]
            rw [hcq] at e3
            have HT : Hid (Calls Try.prog 71 #[.slice (some ⟨G q, 0, none⟩) k (U q), .int .u8 ((H q c).n : Int), .slice (some ⟨G b, 0, none⟩) k (U b)] wr.drew fun e w' => e = .returned (.tuple #[]) ∧ Own w' (G q) k (U q) (plus (H q) (H q c) R) ∧ Keeps (G q) (G q + 1) wr.drew w') := by
              refine take_any wr.drew (G q) (G b) k (U q) (U b) (H q c) (H q) R hc ?_ ?_ (hmat.out.apart q b hlt hb hqb)
              · have := (hmat.out.row q hlt).below (below_drew _ wr)
                rwa [hcq] at this
              · have := (hmat.out.row b hb).below (below_drew _ wr)
                rwa [hcb] at this
            have HCQ : Hid (clrTo b R c q H q = H q) := hcq
            clear hcq hcb
            go_wp2
            refine wp_region_still_tail 9 (by kernel_rfl) (by kernel_rfl) ?_
            simp only [List.take_succ_cons, List.take_zero, List.drop_succ_cons, List.drop_zero]
            repeat still_step
            refine wpStill_nil ?_
            go_wp2_with (go_at_call 71; refine HT.out.mono ?_; rintro e w2 ⟨rfl, hown2, hkeep2⟩)
            have HM2 : Hid (Mat w2 B T l cl rows k G U (clrTo b R c (q + 1) H)) := ((hmat.out.below (below_drew _ wr)).put hlt hown2 hkeep2).congr (fun i j _ _ => by
              unfold clrTo
              by_cases e : i = q
              · rw [if_pos e, e, if_neg hqb, if_pos (by omega)]
              · rw [if_neg e]
                by_cases e' : i = b
                · rw [if_pos e', if_pos e']
                · rw [if_neg e', if_neg e']
                  by_cases e'' : i < q
                  · rw [if_pos e'', if_pos (by omega)]
                  · rw [if_neg e'', if_neg (by omega)])
            have HK2 : Hid (Keeps B T w w2) := hkeep.out.drew.trans (hkeep2.mono (hmat.out.los q hlt) (hmat.out.his q hlt))
            clear hown2 hkeep2
            go_roundw
            case rel => exact ⟨q + 1, by omega, by go_num, HM2.out, HK2.out⟩
            case measure => simp [intOf]; omega
        · obtain rfl : q = rows := by omega
          go_wp2
          go_end0
          refine ⟨rfl, hmat.out.congr (fun i j hi _ => ?_), hkeep.out⟩
          unfold clrTo clr
          rw [HR.out]
          by_cases e : i = b
          · rw [if_pos e, if_pos e]; rfl
          · rw [if_neg e, if_neg e, if_pos hi]
            show (K.add (H i j) (K.mul (H i c) ((K.mul S (H b j))))) = (K.add (H i j) (K.mul (K.mul (H i c) S) (H b j)))
            rw [K.mul_assoc]
end Go.Proofs.Ythkikocacbbhkaa
