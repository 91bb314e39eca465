/- What the document's own answers for slices (sums, multiples, what is padded, whether all is zero, whether two are the same) come to: the same bytes. -/
import Derived.Test.YthkikocacbbhkaaKerH
namespace Go.Proofs.Ythkikocacbbhkaa.Ker
open Go.RowKit

theorem own_made (w : World) (n : Nat) : Own (w.alloc (.cells (madeCells #[.int .u8 0] n) 5)) w.heap.size n (fun _ => 0) := ⟨fun _ => (by decide : 0 < 256), World.rowIs_made w (.int .u8 0) n 5⟩
/-- All multiples of c. -/
def timesF (c i : Nat) : Nat := Gf.mul c i
theorem timesF_lt (c : Nat) (hc : c < 256) (i : Nat) : timesF c i < 256 := Gf.mul_lt _ _ hc

set_option maxHeartbeats 1000000 in
set_option maxRecDepth 100000 in
theorem radd_any (w : World) (c : Nat) (ao bo : Option Addr) (n ca cb : Nat) (f h : Nat → Nat) (hn : n ≤ 1000000) (hc : c < 256) (ha : Rd w ao n f) (hb : Rd w bo n h) :
    Calls Try.prog 48 #[.slice ao n ca, .int .u8 (c : Int), .slice bo n cb] w fun e w' => ∃ g, e = .returned (.slice (some ⟨g, 0, none⟩) n n) ∧ w.heap.size ≤ g ∧ Own w' g n (plus f c h) ∧ Below w.heap.size w w' := by
  have HA : Hid (Rd w ao n f) := ha
  have HB : Hid (Rd w bo n h) := hb
  clear ha hb
  have hmk1 := run_make_row' (P := Try.prog) 23 5 (.int .u8 0) 1 Try.underlying23 info5 rfl .i64 .i64 256 (by omega) (by omega)
  rw [show ((256 : Nat) : Int) = 256 from rfl] at hmk1
  have hmk2 := run_make_row' (P := Try.prog) 23 5 (.int .u8 0) 1 Try.underlying23 info5 rfl .i64 .i64 n (by omega) (by omega)
  go_enter Try.func48, Try.ntmps48
  go_wp2
  go_loopw [8] (fun i wr => ∃ k : Nat, k ≤ 256 ∧ i = .int .i64 k ∧ Hid (Own wr w.heap.size 256 (upto k (timesF c) (fun _ => 0))) ∧ Hid (Only w.heap.size w wr)) (fun i _ => 256 - (intOf i).toNat)
  case atStart => exact ⟨0, Nat.zero_le _, rfl, by rw [upto_zero]; exact own_made w 256, (Only.refl _ w).alloc _⟩
  case round =>
    obtain ⟨k, hk, rfl, hown, honly⟩ := hrel
    by_cases hlt : k < 256
    · have c1 := hown.out.2.cell hlt
      have z1 := hown.out.2.frozen k
      go_wp2_with (go_at_call 58; refine (rmul_n _ _ _ (by omega) (by omega)).mono ?_; rintro e w' ⟨rfl, rfl⟩)
      go_roundw
      case rel => exact ⟨k + 1, by omega, by go_num, hown.out.store (timesF_lt c hc), honly.out.setCell k _⟩
      case measure => simp [intOf]; omega
    · obtain rfl : k = 256 := by omega
      have HO : Hid (Own wr w.heap.size 256 (timesF c)) := hown.out.all (timesF_lt c hc)
      have hBlt : w.heap.size < wr.heap.size := HO.out.lt
      have HA' : Hid (Rd wr ao n f) := HA.out.only honly.out fun hp => HA.out.off (Nat.le_refl _) hp
      have HB' : Hid (Rd wr bo n h) := HB.out.only honly.out fun hp => HB.out.off (Nat.le_refl _) hp
      have hb1 : Below w.heap.size w wr := honly.out.below (Nat.le_refl _) (Nat.le_refl _)
      obtain ⟨wm, rfl⟩ : ∃ x, x = wr := ⟨wr, rfl⟩
      clear hown HA HB hmk1
      go_wp2
      go_loopw [10] (fun i wr => ∃ k : Nat, k ≤ n ∧ i = .int .i64 k ∧ Hid (Own wr wm.heap.size n (upto k (plus f c h) (fun _ => 0))) ∧ Hid (Only wm.heap.size wm wr)) (fun i _ => n - (intOf i).toNat)
      case atStart => exact ⟨0, Nat.zero_le _, rfl, by rw [upto_zero]; exact own_made wm n, (Only.refl _ wm).alloc _⟩
      case round =>
        obtain ⟨k, hk, rfl, hown, honly2⟩ := hrel
        by_cases hlt : k < n
        · obtain ⟨b0, o0, rfl, c0⟩ := HA'.out.2 (by omega)
          obtain ⟨b1, o1, rfl, c1⟩ := HB'.out.2 (by omega)
          have d0 := World.block_lt_of_cell? wm _ (c0 k hlt)
          have d1 := World.block_lt_of_cell? wm _ (c1 k hlt)
          simp only at d0 d1
          replace c0 := honly2.out.cell (c0 k hlt) (by simp only; omega)
          replace c1 := honly2.out.cell (c1 k hlt) (by simp only; omega)
          have hfk := HA'.out.1 k
          have hhk := HB'.out.1 k
          have c2 : wr.cell? ⟨w.heap.size, h k, none⟩ = some (.int .u8 ((Gf.mul c (h k) : Nat) : Int)) := honly2.out.cell (HO.out.2.cell hhk) (by simp only; omega)
          have c3 := hown.out.2.cell hlt
          have z3 := hown.out.2.frozen k
          have i1 : (0 : Int) ≤ (k : Int) := by omega
          have i2 : (k : Int) < (n : Int) := by omega
          have i3 : (0 : Int) ≤ (h k : Int) := by omega
          have i4 : (h k : Int) < 256 := by omega
          have HX : Hid (bits .xor .u8 (f k : Int) ((Gf.mul c (h k) : Nat) : Int) = ((plus f c h k : Nat) : Int)) := u8_xor_nat _ _ hfk (Gf.mul_lt _ _ hc)
          go_wp2
          refine wp_region_still_tail 15 (by kernel_rfl) (by kernel_rfl) ?_
          simp only [List.take_succ_cons, List.take_zero, List.drop_succ_cons, List.drop_zero]
          repeat still_step
          refine wpStill_nil ?_
          go_wp2
          go_roundw
          case rel => exact ⟨.int .i64 ((k : Int) + 1), _, _, _, _, _, _, _, _, _, _, _, _, _, _, _, _, _, _, _, _, _, ⟨k + 1, by omega, by go_num, by rw [HX.out]; exact hown.out.store (plus_lt f c h HA'.out.1 hc), (honly2.out.setCell k _).drew⟩, rfl⟩
          case measure => simp [intOf]; omega
        · obtain rfl : k = n := by omega
          go_wp2
          go_ret
          refine ⟨_, rfl, by omega, hown.out.all (plus_lt f c h HA'.out.1 hc), hb1.trans (honly2.out.below (by omega) (by omega))⟩
theorem plus_zero (c : Nat) (f : Nat → Nat) (i : Nat) : plus (fun _ => 0) c f i = scl c f i := zero_add _
end Go.Proofs.Ythkikocacbbhkaa.Ker
