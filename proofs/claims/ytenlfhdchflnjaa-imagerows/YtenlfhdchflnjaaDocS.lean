/- A row of an image, as the document tells it, or the error. -/
import Derived.Test.YtenlfhdchflnjaaDocR
namespace Go.Proofs.Ytenlfhdchflnjaa
open Go.RowKit

section
variable {k r c q : Int} {n : Nat} {F : Nat → List UInt8} {N Q S : Nat}
set_option maxHeartbeats 2000000 in
set_option maxRecDepth 100000 in
theorem RowD_e1 {x : Int} (hck : Ck k r c q n F x N Q S) (hx : ¬ x = 0) (o : Int) (lo : Option Addr) (cl : Nat) (A : Nat → Option Addr) (C : Nat → Nat) (w : World) (hl : Lst w lo n A C F) :
    Calls Try.prog 30 #[.agg #[.int .i64 k, .int .i64 r, .int .i64 c, .int .i64 q, .slice lo n cl], .int .i64 o] w fun e w' => ∃ lo' cl' A' C', e = .returned (.tuple #[.slice lo' 0 cl', .int .i64 x]) ∧ Lst w' lo' (2 * 0) A' C' (fun _ => []) ∧ Below w.heap.size w w' := by
  obtain ⟨w0, hw0⟩ : ∃ w0, w0 = w.alloc (.cells #[.int .i64 k, .int .i64 r, .int .i64 c, .int .i64 q, .slice lo n cl] 27) := ⟨_, rfl⟩
  have HB0 : Hid (Below w.heap.size w w0) := by rw [hw0]; exact below_alloc _ _
  have SH : Hid (∀ v, Below w0.heap.size w0 v → v.cell? ⟨w.heap.size, 0, none⟩ = some (.int .i64 k) ∧ v.cell? ⟨w.heap.size, 1, none⟩ = some (.int .i64 r) ∧ v.cell? ⟨w.heap.size, 2, none⟩ = some (.int .i64 c) ∧ v.cell? ⟨w.heap.size, 3, none⟩ = some (.int .i64 q) ∧ v.cell? ⟨w.heap.size, 4, none⟩ = some (.slice lo n cl)) := fun v hv => img_held hw0 hv
  have HC := Check_doc hck lo cl A C w0 (hl.below HB0.out)
  have HL : Hid (Lst w lo n A C F) := hl
  have hx2 : (x != 0) = true := by simp; exact hx
  clear hck hl hx
  go_enter Try.func30, Try.ntmps30
  go_wp2_with fail
  rw [← hw0]
  clear hw0
  refine HC.mono ?_
  rintro e wa ⟨rfl, ha⟩
  have HA : Hid (Below w0.heap.size w0 wa) := ha
  obtain ⟨s0, s1, s2, s3, s4⟩ := SH.out wa ha
  clear ha HC
  go_wp2_with fail
  go_ret2
  exact ⟨none, 0, fun _ => none, fun _ => 0, rfl, lst_none _ _ _ _ _, below_then HB0.out HA.out⟩
set_option maxHeartbeats 2000000 in
set_option maxRecDepth 100000 in
theorem RowD_e2 (hck : Ck k r c q n F 0 N Q S) (o : Int) (ho : ¬ (0 ≤ o ∧ o < (Q : Int))) (lo : Option Addr) (cl : Nat) (A : Nat → Option Addr) (C : Nat → Nat) (w : World) (hl : Lst w lo n A C F) :
    Calls Try.prog 30 #[.agg #[.int .i64 k, .int .i64 r, .int .i64 c, .int .i64 q, .slice lo n cl], .int .i64 o] w fun e w' => ∃ lo' cl' A' C', e = .returned (.tuple #[.slice lo' 0 cl', .int .i64 2]) ∧ Lst w' lo' (2 * 0) A' C' (fun _ => []) ∧ Below w.heap.size w w' := by
  obtain ⟨w0, hw0⟩ : ∃ w0, w0 = w.alloc (.cells #[.int .i64 k, .int .i64 r, .int .i64 c, .int .i64 q, .slice lo n cl] 27) := ⟨_, rfl⟩
  have HB0 : Hid (Below w.heap.size w w0) := by rw [hw0]; exact below_alloc _ _
  have SH : Hid (∀ v, Below w0.heap.size w0 v → v.cell? ⟨w.heap.size, 0, none⟩ = some (.int .i64 k) ∧ v.cell? ⟨w.heap.size, 1, none⟩ = some (.int .i64 r) ∧ v.cell? ⟨w.heap.size, 2, none⟩ = some (.int .i64 c) ∧ v.cell? ⟨w.heap.size, 3, none⟩ = some (.int .i64 q) ∧ v.cell? ⟨w.heap.size, 4, none⟩ = some (.slice lo n cl)) := fun v hv => img_held hw0 hv
  have HC := Check_doc hck lo cl A C w0 (hl.below HB0.out)
  have HL : Hid (Lst w lo n A C F) := hl
  have hq : q = (Q : Int) := ((hck.ok rfl).1.2.2.1).symm
  have ho2 : o < 0 ∨ (0 ≤ o ∧ q ≤ o) := by omega
  clear hck hl hq ho
  go_enter Try.func30, Try.ntmps30
  go_wp2_with fail
  rw [← hw0]
  clear hw0
  refine HC.mono ?_
  rintro e wa ⟨rfl, ha⟩
  have HA : Hid (Below w0.heap.size w0 wa) := ha
  obtain ⟨s0, s1, s2, s3, s4⟩ := SH.out wa ha
  clear ha HC
  rcases ho2 with h | ⟨h, h2⟩
  all_goals
    go_wp2_with fail
    all_goals first
      | (go_ret2; exact ⟨none, 0, fun _ => none, fun _ => 0, rfl, lst_none _ _ _ _ _, below_then HB0.out HA.out⟩)
      | (exfalso; omega)
set_option maxHeartbeats 2000000 in
set_option maxRecDepth 100000 in
theorem RowD_ok (hck : Ck k r c q n F 0 N Q S) (o : Nat) (ho : o < Q) (lo : Option Addr) (cl : Nat) (A : Nat → Option Addr) (C : Nat → Nat) (w : World) (hl : Lst w lo n A C F) :
    Calls Try.prog 30 #[.agg #[.int .i64 k, .int .i64 r, .int .i64 c, .int .i64 q, .slice lo n cl], .int .i64 (o : Int)] w fun e w' => ∃ lo' cl' A' C', e = .returned (.tuple #[.slice lo' N cl', .int .i64 0]) ∧ Lst w' lo' (2 * N) A' C' (rowF Q o F) ∧ Below w.heap.size w w' := by
  obtain ⟨w0, hw0⟩ : ∃ w0, w0 = w.alloc (.cells #[.int .i64 k, .int .i64 r, .int .i64 c, .int .i64 q, .slice lo n cl] 27) := ⟨_, rfl⟩
  have HB0 : Hid (Below w.heap.size w w0) := by rw [hw0]; exact below_alloc _ _
  have SH : Hid (∀ v, Below w0.heap.size w0 v → v.cell? ⟨w.heap.size, 0, none⟩ = some (.int .i64 k) ∧ v.cell? ⟨w.heap.size, 1, none⟩ = some (.int .i64 r) ∧ v.cell? ⟨w.heap.size, 2, none⟩ = some (.int .i64 c) ∧ v.cell? ⟨w.heap.size, 3, none⟩ = some (.int .i64 q) ∧ v.cell? ⟨w.heap.size, 4, none⟩ = some (.slice lo n cl)) := fun v hv => img_held hw0 hv
  have HC := Check_doc hck lo cl A C w0 (hl.below HB0.out)
  have HL : Hid (Lst w lo n A C F) := hl
  have hpm := (hck.ok rfl).1
  have HNE : Hid (n = N * Q * 2) := (hck.ok rfl).2.1
  have HFT : Hid (∀ i, i < n → (F i).length ≤ 140) := fun i hi => by have := (hck.ok rfl).2.2 i hi; have := hpm.bounds.2.2.2.2.2.1; omega
  have hn8 : n ≤ 8192 := by have := HNE.out; have := hpm.bounds.2.2.2.2.2.2.2; omega
  obtain rfl : q = (Q : Int) := hpm.2.2.1.symm
  have HPM : Hid (Pm k r c (Q : Int) N Q S) := hpm
  have o1 : (0 : Int) ≤ (o : Int) := by omega
  have o2 : (o : Int) < (Q : Int) := by omega
  clear hck hl hpm
  go_enter Try.func30, Try.ntmps30
  go_wp2_with fail
  rw [← hw0]
  clear hw0
  refine HC.mono ?_
  rintro e wa ⟨rfl, ha⟩
  have HA : Hid (Below w0.heap.size w0 wa) := ha
  obtain ⟨s0, s1, s2, s3, s4⟩ := SH.out wa ha
  clear ha HC
  go_wp2_with fail
  refine (Twin_any k r c (Q : Int) wa lo n cl A C F (HL.out.below (below_then HB0.out HA.out)) (by omega) (fun i hi => by have := HFT.out i hi; omega)).mono ?_
  rintro e wb ⟨lo2, cl2, A2, C2, rfl, how, hsl, hb⟩
  have HB : Hid (Below w0.heap.size w0 wb) := below_then HA.out hb
  have HL2 : Hid (Lst wb lo2 n A2 C2 F) := own_lst how hsl
  clear how hsl hb
  go_wp2_with fail
  refine (Pairs_any HPM.out o ho lo2 n cl2 HNE.out A2 C2 F wb HL2.out).mono ?_
  rintro e wc ⟨lo3, cl3, rfl, hl3, hc⟩
  have H3 : Hid (Lst wc lo3 (2 * N) (fun j => A2 (rowI Q o j)) (fun j => C2 (rowI Q o j)) (rowF Q o F)) := hl3
  have HC3 : Hid (Below w0.heap.size w0 wc) := below_then HB.out hc
  clear hl3 hc
  go_wp2_with fail
  go_ret2
  exact ⟨lo3, cl3, _, _, rfl, H3.out, below_then HB0.out HC3.out⟩
end
theorem Row_doc {k r c q : Int} {n : Nat} {F : Nat → List UInt8} {o x : Int} {n' : Nat} {G : Nat → List UInt8} (h : Rww k r c q n F o x n' G) (lo : Option Addr) (cl : Nat) (A : Nat → Option Addr) (C : Nat → Nat) (w : World) (hl : Lst w lo n A C F) :
    Calls Try.prog 30 #[.agg #[.int .i64 k, .int .i64 r, .int .i64 c, .int .i64 q, .slice lo n cl], .int .i64 o] w fun e w' => ∃ lo' cl' A' C', e = .returned (.tuple #[.slice lo' n' cl', .int .i64 x]) ∧ Lst w' lo' (2 * n') A' C' G ∧ Below w.heap.size w w' := by
  obtain ⟨y, N, Q, S, hck, hc⟩ := h
  rcases hc with ⟨rfl, h1, h2, rfl, rfl, rfl⟩ | ⟨⟨rfl, rfl⟩, hc⟩
  · obtain ⟨oo, rfl⟩ := Int.eq_ofNat_of_zero_le h1
    rw [Int.toNat_natCast]
    exact RowD_ok hck oo (by omega) lo cl A C w hl
  · rcases hc with ⟨h1, rfl⟩ | ⟨rfl, h1, rfl⟩
    · exact RowD_e1 hck h1 o lo cl A C w hl
    · exact RowD_e2 hck o h1 lo cl A C w hl
end Go.Proofs.Ytenlfhdchflnjaa
