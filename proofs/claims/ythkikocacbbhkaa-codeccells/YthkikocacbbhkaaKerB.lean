/- What the program's summing does to the row that it gathers in. -/
import Derived.Test.YthkikocacbbhkaaKerA
import Derived.StillTailTactics
namespace Go.Proofs.Ythkikocacbbhkaa.Ker
open Go.RowKit

theorem box_set {w : World} {B g : Nat} {o : Obj} (h : w.heap[B]? = some o) (hB : ¬ B = g) (v : Value) (j : Nat) : (w.setCell ⟨g, j, none⟩ v).drew.heap[B]? = some o := by
  rw [← h]; exact Below.heap_setCell w ⟨g, j, none⟩ v B hB

set_option maxHeartbeats 400000 in
set_option maxRecDepth 100000 in
theorem gather_any (w : World) (g n : Nat) (f h : Nat → Nat) (c : Nat) (ao : Option Addr) (cp : Nat) (hn : n ≤ 65536) (hc : c < 256) (ho : Own w g n f) (hr : Rd w ao n h) (hg : 0 < n → Off ao g) :
    Calls Try.prog 50 #[.slice (some ⟨g, 0, none⟩) n n, .agg #[.int .u8 (c : Int), .slice ao n cp]] w fun e w' => e = .returned (.tuple #[]) ∧ Own w' g n (plus f c h) ∧ Only g w w' := by
  have HO : Hid (Own w g n f) := ho
  have HR : Hid (Rd w ao n h) := hr
  have HG : Hid (0 < n → Off ao g) := hg
  have hgw : g < w.heap.size := ho.lt
  clear ho hr hg
  go_enter Try.func50, Try.ntmps50
  go_wp2
  go_loopw [7] (fun i wr => ∃ k : Nat, k ≤ n ∧ i = .int .i64 k ∧ Hid (Own wr g n (upto k (plus f c h) f)) ∧ Hid (wr.heap[w.heap.size]? = some (.cells #[.int .u8 (c : Int), .slice ao n cp] 62 (0, 0))) ∧ Hid (Only g w wr)) (fun i _ => n - (intOf i).toNat)
  case atStart => exact ⟨0, Nat.zero_le _, rfl, by rw [upto_zero]; exact ⟨HO.out.1, HO.out.2.alloc _⟩, heap_alloc_new w _, (Only.refl g w).alloc _⟩
  case round =>
    obtain ⟨k, hk, rfl, hown, hbox, honly⟩ := hrel
    by_cases hlt : k < n
    · obtain ⟨b, off, rfl, hcell⟩ := HR.out.2 (by omega)
      have hbg : ¬ b = g := HG.out (by omega) ⟨b, off, none⟩ rfl
      have hgb : ¬ g = b := fun e => hbg e.symm
      have hwg : ¬ w.heap.size = g := by omega
      have hgs : ¬ g = w.heap.size := by omega
      have hfk : f k < 256 := HO.out.1 k
      have hhk : h k < 256 := HR.out.1 k
      have c1 : wr.cell? ⟨g, k, none⟩ = some (.int .u8 (f k : Int)) := by have := hown.out.2.cell hlt; rwa [upto_at] at this
      have z1 : wr.frozen? ⟨g, k, none⟩ = false := hown.out.2.frozen k
      have c2 : wr.cell? ⟨w.heap.size, 0, none⟩ = some (.int .u8 (c : Int)) := by simp [World.cell?, hbox.out]
      have c3 : wr.cell? ⟨w.heap.size, 1, none⟩ = some (.slice (some ⟨b, off, none⟩) n cp) := by simp [World.cell?, hbox.out]
      have c4 : wr.cell? ⟨b, off + k, none⟩ = some (.int .u8 (h k : Int)) := honly.out.cell (hcell k hlt) hbg
      clear hcell
      have i1 : (0 : Int) ≤ (k : Int) := by omega
      have i2 : (k : Int) < (n : Int) := by omega
      go_wp2
      refine wp_region_still_tail 16 (by kernel_rfl) (by kernel_rfl) ?_
      simp only [List.take_succ_cons, List.take_zero, List.drop_succ_cons, List.drop_zero]
      repeat still_step
      still_call (mul_n _ _ _ (by omega) (by omega))
      still_call (add_n _ _ _ (by omega) (Gf.mul_lt _ _ (by omega)))
      repeat still_step
      refine wpStill_nil ?_
      go_wp2
      go_roundw
      case rel => exact ⟨k + 1, by omega, by go_num, (hown.out.store (plus_lt f c h HO.out.1 hc) : Own (wr.setCell ⟨g, k, none⟩ (.int .u8 ((plus f c h k : Nat) : Int))) g n (upto (k + 1) (plus f c h) f)), box_set hbox.out hwg _ _, (honly.out.setCell k _).drew⟩
      case measure => simp [intOf]; omega
    · obtain rfl : k = n := by omega
      go_wp2
      go_end0
      exact ⟨rfl, hown.out.all (plus_lt f c h HO.out.1 hc), honly.out⟩
end Go.Proofs.Ythkikocacbbhkaa.Ker
