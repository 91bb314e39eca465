import Derived.Test.YtemlojjkokooeaaGreatSj28
import Derived.Test.YtemlojjkokooeaaGreatSj30
set_option maxHeartbeats 4000000
set_option maxRecDepth 100000
namespace Go.Proofs.YtemlojjkokooeaaGreat
open Go.RowKit
theorem RRow_any {k r c q : Int} {N W : Nat} (h : Par k r c q N W 0) (w : World) (ro : Option Addr) (rn rc : Nat) (A : Nat -> Option Addr) (L C : Nat -> Nat) (F : Nat -> Nat -> UInt8) (hr : Rw w ro rn A L C F) (y : Bool) (hy : decide (rn = N /\ ∀ j, j < 2 * rn -> L j = 0 \/ L j = sz N c) = y) :
  Calls Tryz.prog 134 #[.agg #[.int .i64 k, .int .i64 r, .int .i64 c, .int .i64 q], .slice ro rn rc] w fun e w' => e = .returned (.bool y) /\ Below w.heap.size w w' := by
 obtain ⟨w0, hw0⟩ : ∃ w0, w0 = w.alloc (.cells #[.int .i64 k, .int .i64 r, .int .i64 c, .int .i64 q] 23) := ⟨_, rfl⟩
 have B0 : Hid (Below w.heap.size w w0) := by show Below _ _ _; rw [hw0]; exact below_alloc _ _
 have L0 : Hid (∀ v, Below w0.heap.size w0 v -> At w v w.heap.size #[.int .i64 k, .int .i64 r, .int .i64 c, .int .i64 q] 23) := fun v hv => (at_made (Below.refl _ _) hw0).below hv
 have hle := h.le
 have HN : Hid (∀ v, Calls Tryz.prog 111 #[.agg #[.int .i64 k, .int .i64 r, .int .i64 c, .int .i64 q]] v fun e w' => e = .returned (.int .i64 (N : Int)) /\ Below v.heap.size v w') := fun v => N_any c q h.sum hle v
 by_cases hn : rn = N
 ·subst hn
  have hnn : ((rn : Int) != (rn : Int)) = false := by simp
  obtain ⟨z, hz⟩ : ∃ z, z = sz rn c := ⟨_, rfl⟩
  have HP : Hid (∀ v a0 n0 c0 a1 n1 c1, Calls Tryz.prog 205 #[.agg #[.int .i64 k, .int .i64 r, .int .i64 c, .int .i64 q], .agg #[.slice a0 n0 c0, .slice a1 n1 c1]] v fun e w' => e = .returned (.bool (decide ((n0 = 0 \/ n0 = z) /\ (n1 = 0 \/ n1 = z)))) /\ Below v.heap.size v w') := fun v a0 n0 c0 a1 n1 c1 => by rw [hz]; exact RPair_any h v a0 n0 c0 a1 n1 c1
  rw [<- hz] at hy
  have HE : Hid ((∀ j, j < 2 * rn -> L j = 0 \/ L j = z) /\ y = true \/ ¬ (∀ j, j < 2 * rn -> L j = 0 \/ L j = z) /\ y = false) := by
   by_cases g : ∀ j, j < 2 * rn -> L j = 0 \/ L j = z
   ·exact .inl ⟨g, by rw [<- hy]; exact decide_eq_true ⟨rfl, g⟩⟩
   ·exact .inr ⟨g, by rw [<- hy]; exact decide_eq_false fun a => g a.2⟩
  have HR : Hid (Rw w ro rn A L C F) := hr
  clear hy hr hz h
  go_enter Tryz.func134, Tryz.ntmps134
  go_wp2_with fail
  rw [<- hw0]
  clear hw0
  refine (HN.out _).mono ?_
  rintro e wa ⟨rfl, ha⟩
  have BA : Hid (Below w0.heap.size w0 wa) := ha
  clear ha
  go_wp2_with fail
  go_loopw [5] (fun x wr => ∃ i : Nat, i <= rn /\ x = .int .i64 (i : Int) /\ Hid (Below wa.heap.size wa wr) /\ Hid (∀ j, j < 2 * i -> L j = 0 \/ L j = z)) (fun x _ => rn - (intOf x).toNat)
  case atStart => exact ⟨0, Nat.zero_le _, rfl, Below.refl _ _, fun j hj => absurd hj (by omega)⟩
  case round =>
   obtain ⟨i, hi, rfl, hb, hall⟩ := hrel
   have BR : Hid (Below w0.heap.size w0 wr) := below_then BA.out hb.out
   by_cases hlt : i < rn
   ·obtain ⟨b, off, rfl, hcc⟩ := HR.out.at_ (by omega)
    have c0 : wr.cell? ⟨b, off + i * 2, none⟩ = some (.slice (A (2 * i)) (L (2 * i)) (C (2 * i))) := held (hcc i hlt).1 (below_then B0.out BR.out)
    have c1 : wr.cell? ⟨b, off + i * 2 + 1, none⟩ = some (.slice (A (2 * i + 1)) (L (2 * i + 1)) (C (2 * i + 1))) := held (hcc i hlt).2 (below_then B0.out BR.out)
    clear hcc
    have i1 : (0 : Int) <= (i : Int) := by omega
    have i2 : (i : Int) < (rn : Int) := by omega
    have pq := L0.out wr BR.out
    have s0 := pq.cell (i := 0) rfl
    have s1 := pq.cell (i := 1) rfl
    have s2 := pq.cell (i := 2) rfl
    have s3 := pq.cell (i := 3) rfl
    clear pq
    have hPA := fun v => HP.out v (A (2 * i)) (L (2 * i)) (C (2 * i)) (A (2 * i + 1)) (L (2 * i + 1)) (C (2 * i + 1))
    have CH : Hid (∀ v, Below wr.heap.size wr v -> v.cell? ⟨w.heap.size, 0, none⟩ = some (.int .i64 k) /\ v.cell? ⟨w.heap.size, 1, none⟩ = some (.int .i64 r) /\ v.cell? ⟨w.heap.size, 2, none⟩ = some (.int .i64 c) /\ v.cell? ⟨w.heap.size, 3, none⟩ = some (.int .i64 q) /\ v.cell? ⟨b, off + i * 2, none⟩ = some (.slice (A (2 * i)) (L (2 * i)) (C (2 * i))) /\ v.cell? ⟨b, off + i * 2 + 1, none⟩ = some (.slice (A (2 * i + 1)) (L (2 * i + 1)) (C (2 * i + 1)))) := fun v hv => by
     have pq := L0.out v (below_then BR.out hv)
     exact ⟨pq.cell (i := 0) rfl, pq.cell (i := 1) rfl, pq.cell (i := 2) rfl, pq.cell (i := 3) rfl, held c0 hv, held c1 hv⟩
    by_cases g : (L (2 * i) = 0 \/ L (2 * i) = z) /\ (L (2 * i + 1) = 0 \/ L (2 * i + 1) = z)
    ·rw [decide_eq_true g] at hPA
     have HPA : Hid (∀ v, Calls Tryz.prog 205 #[.agg #[.int .i64 k, .int .i64 r, .int .i64 c, .int .i64 q], .agg #[.slice (A (2 * i)) (L (2 * i)) (C (2 * i)), .slice (A (2 * i + 1)) (L (2 * i + 1)) (C (2 * i + 1))]] v fun e w' => e = .returned (.bool true) /\ Below v.heap.size v w') := hPA
     have HALL : Hid (∀ j, j < 2 * (i + 1) -> L j = 0 \/ L j = z) := fun j hj => by
      by_cases e1 : j = 2 * i
      ·rw [e1]; exact g.1
      ·by_cases e2 : j = 2 * i + 1
       ·rw [e2]; exact g.2
       ·exact hall.out j (by omega)
     clear hPA g
     go_wp2_with fail
     go_region_held3 (fun v => v.cell? ⟨w.heap.size, 0, none⟩ = some (.int .i64 k) /\ v.cell? ⟨w.heap.size, 1, none⟩ = some (.int .i64 r) /\ v.cell? ⟨w.heap.size, 2, none⟩ = some (.int .i64 c) /\ v.cell? ⟨w.heap.size, 3, none⟩ = some (.int .i64 q) /\ v.cell? ⟨b, off + i * 2, none⟩ = some (.slice (A (2 * i)) (L (2 * i)) (C (2 * i))) /\ v.cell? ⟨b, off + i * 2 + 1, none⟩ = some (.slice (A (2 * i + 1)) (L (2 * i + 1)) (C (2 * i + 1)))) (go_keep) ((go_at_call 205; refine (HPA.out _).mono ?_; rintro e wf ⟨rfl, hf⟩; have HFB : Hid (Below wr.heap.size wr wf) := of_drew' hf; obtain ⟨e0, e1, e2, e3, e4, e5⟩ := CH.out wf HFB.out; clear hf))
     all_goals (
      go_wp2_with fail
      go_roundw
      case rel => exact ⟨i + 1, by omega, by go_num, below_then hb.out HFB.out, HALL.out⟩
      case measure => simp [intOf]; omega)
    ·rw [decide_eq_false g] at hPA
     have HPA : Hid (∀ v, Calls Tryz.prog 205 #[.agg #[.int .i64 k, .int .i64 r, .int .i64 c, .int .i64 q], .agg #[.slice (A (2 * i)) (L (2 * i)) (C (2 * i)), .slice (A (2 * i + 1)) (L (2 * i + 1)) (C (2 * i + 1))]] v fun e w' => e = .returned (.bool false) /\ Below v.heap.size v w') := hPA
     obtain rfl : y = false := by
      rcases HE.out with ⟨a, _⟩ | ⟨_, a⟩
      ·exact absurd ⟨a _ (by omega), a _ (by omega)⟩ g
      ·exact a
     clear hPA g
     go_wp2_with fail
     go_region_held3 (fun v => v.cell? ⟨w.heap.size, 0, none⟩ = some (.int .i64 k) /\ v.cell? ⟨w.heap.size, 1, none⟩ = some (.int .i64 r) /\ v.cell? ⟨w.heap.size, 2, none⟩ = some (.int .i64 c) /\ v.cell? ⟨w.heap.size, 3, none⟩ = some (.int .i64 q) /\ v.cell? ⟨b, off + i * 2, none⟩ = some (.slice (A (2 * i)) (L (2 * i)) (C (2 * i))) /\ v.cell? ⟨b, off + i * 2 + 1, none⟩ = some (.slice (A (2 * i + 1)) (L (2 * i + 1)) (C (2 * i + 1)))) (go_keep) ((go_at_call 205; refine (HPA.out _).mono ?_; rintro e wf ⟨rfl, hf⟩; have HFB : Hid (Below wr.heap.size wr wf) := of_drew' hf; obtain ⟨e0, e1, e2, e3, e4, e5⟩ := CH.out wf HFB.out; clear hf))
     all_goals (
      go_wp2_with fail
      go_ret
      exact ⟨rfl, below_then (below_then B0.out BR.out) HFB.out⟩)
   ·obtain rfl : i = rn := by omega
    obtain rfl : y = true := by
     rcases HE.out with ⟨_, a⟩ | ⟨a, _⟩
     ·exact a
     ·exact absurd hall.out a
    go_wp2_with fail
    go_ret
    exact ⟨rfl, below_then B0.out BR.out⟩
 ·have hnn : ((rn : Int) != (N : Int)) = true := by simp; omega
  obtain rfl : y = false := by rw [<- hy]; exact decide_eq_false fun a => hn a.1
  clear hr h hn
  go_enter Tryz.func134, Tryz.ntmps134
  go_wp2_with fail
  rw [<- hw0]
  clear hw0
  refine (HN.out _).mono ?_
  rintro e wa ⟨rfl, ha⟩
  go_wp2_with fail
  go_ret
  exact ⟨rfl, below_then B0.out ha⟩
theorem erR_two {x : Int} {N : Nat} {c : Int} {rn : Nat} {L : Nat -> Nat} (h : x = 2) : erR x N c rn L = 2 := by unfold erR; rw [h]; rfl
end Go.Proofs.YtemlojjkokooeaaGreat
