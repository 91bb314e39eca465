/- Images behind raw writes, as the document makes them. -/
import Derived.Test.YtenlfhdchflnjaaDocD
namespace Go.Proofs.Ytenlfhdchflnjaa
open Go.RowKit

/-- A list of slots in new memory, from block V on. -/
def Nl (V : Nat) (w : World) (lo : Option Addr) (n : Nat) (A : Nat → Option Addr) (C : Nat → Nat) (F : Nat → List UInt8) : Prop :=
  Lst w lo n A C F ∧ (0 < n → ∀ a, lo = some a → V ≤ a.block) ∧ ∀ i a, i < n → A i = some a → V ≤ a.block
theorem nl_none (V : Nat) (w : World) (lo : Option Addr) (A : Nat → Option Addr) (C : Nat → Nat) (F : Nat → List UInt8) : Nl V w lo 0 A C F := ⟨lst_none _ _ _ _ _, fun h => absurd h (Nat.lt_irrefl 0), fun i _ hi => absurd hi (Nat.not_lt_zero i)⟩
theorem Nl.only {V : Nat} {X : Nat → Prop} {w w' : World} {lo : Option Addr} {n : Nat} {A : Nat → Option Addr} {C : Nat → Nat} {F : Nat → List UInt8} (h : Nl V w lo n A C F) (ho : Only X w w') (hx : ∀ b, V ≤ b → ¬ X b) : Nl V w' lo n A C F := ⟨h.1.only ho (fun hn a ha => hx _ (h.2.1 hn a ha)) (fun i a hi ha _ => hx _ (h.2.2 i a hi ha)), h.2⟩
theorem Nl.mono {V V' : Nat} {w : World} {lo : Option Addr} {n : Nat} {A : Nat → Option Addr} {C : Nat → Nat} {F : Nat → List UInt8} (h : Nl V w lo n A C F) (hv : V' ≤ V) : Nl V' w lo n A C F := ⟨h.1, fun hn a ha => Nat.le_trans hv (h.2.1 hn a ha), fun i a hi ha => Nat.le_trans hv (h.2.2 i a hi ha)⟩
theorem RSl.nl {V V' : Nat} {w : World} {l n : Nat} {A : Nat → Option Addr} {C : Nat → Nat} {F : Nat → List UInt8} (h : RSl w (fun b => V ≤ b) l n A C F) (hv : V' ≤ V) : Nl V' w (some ⟨l, 0, none⟩) n A C F := ⟨h.lst, fun _ a e => by cases e; exact Nat.le_trans hv h.own, fun i a hi ha => Nat.le_trans hv (h.at_ i a hi ha).1⟩
section
variable {k r c q : Int} {n : Nat} {F : Nat → List UInt8} {N Q S : Nat} {D : Nat → Pt} {ln : Nat}
set_option maxHeartbeats 4000000 in
set_option maxRecDepth 100000 in
theorem AfterD_e1 {x : Int} (hck : Ck k r c q n F x N Q S) (hx : ¬ x = 0) (m : Int) (lo : Option Addr) (cl : Nat) (A : Nat → Option Addr) (C : Nat → Nat) (po : Option Addr) (pc : Nat) (w : World) (hl : Lst w lo n A C F) :
    Calls Try.prog 24 #[.agg #[.int .i64 k, .int .i64 r, .int .i64 c, .int .i64 q, .slice lo n cl], .slice po ln pc, .int .i64 m] w fun e w' => ∃ lo' cl' A' C', e = .returned (.tuple #[.agg #[.int .i64 0, .int .i64 0, .int .i64 0, .int .i64 0, .slice lo' 0 cl'], .int .i64 x]) ∧ Nl w.heap.size w' lo' 0 A' C' (fun _ => []) ∧ Below w.heap.size w w' := by
  obtain ⟨w0, hw0⟩ : ∃ w0, w0 = w.alloc (.cells #[.int .i64 k, .int .i64 r, .int .i64 c, .int .i64 q, .slice lo n cl] 27) := ⟨_, rfl⟩
  obtain ⟨w1, hw1⟩ : ∃ w1, w1 = w0.alloc (.cells #[.int .i64 0, .int .i64 0, .int .i64 0, .int .i64 0, .slice none 0 0] 27) := ⟨_, rfl⟩
  have b0 : Below w.heap.size w w0 := by rw [hw0]; exact below_alloc _ _
  have b1 : Below w0.heap.size w0 w1 := by rw [hw1]; exact below_alloc _ _
  have z0 : w0.heap.size = w.heap.size + 1 := by rw [hw0]; simp
  have z1 : w1.heap.size = w.heap.size + 2 := by rw [hw1]; simp; omega
  have SH : Hid (∀ v, Below w1.heap.size w1 v → v.cell? ⟨w.heap.size, 0, none⟩ = some (.int .i64 k) ∧ v.cell? ⟨w.heap.size, 1, none⟩ = some (.int .i64 r) ∧ v.cell? ⟨w.heap.size, 2, none⟩ = some (.int .i64 c) ∧ v.cell? ⟨w.heap.size, 3, none⟩ = some (.int .i64 q) ∧ v.cell? ⟨w.heap.size, 4, none⟩ = some (.slice lo n cl)) := fun v hv => img_held hw0 (below_then b1 hv)
  have MH : Hid (∀ v, Below w1.heap.size w1 v → (v.cell? ⟨w.heap.size + 1, 0, none⟩ = some (.int .i64 0) ∧ v.cell? ⟨w.heap.size + 1, 1, none⟩ = some (.int .i64 0) ∧ v.cell? ⟨w.heap.size + 1, 2, none⟩ = some (.int .i64 0) ∧ v.cell? ⟨w.heap.size + 1, 3, none⟩ = some (.int .i64 0) ∧ v.cell? ⟨w.heap.size + 1, 4, none⟩ = some (.slice none 0 0)) ∧ ∀ i, v.frozen? ⟨w.heap.size + 1, i, none⟩ = false) := fun v hv => by rw [← z0]; exact ⟨img_held hw1 hv, blk_free hw1 hv⟩
  have HB1 : Hid (Below w.heap.size w w1) := below_then b0 b1
  have HC := Check_doc hck lo cl A C w1 (hl.below HB1.out)
  have HL : Hid (Lst w lo n A C F) := hl
  have hx2 : (x != 0) = true := by simp; exact hx
  clear hck hl hx
  go_enter Try.func24, Try.ntmps24
  go_wp2_with fail
  rw [← hw0, ← hw1]
  clear hw0 hw1 b0 b1 z0
  refine HC.mono ?_
  rintro e wa ⟨rfl, ha⟩
  have HA : Hid (Below w1.heap.size w1 wa) := ha
  clear ha HC
  obtain ⟨⟨m0, m1, m2, m3, m4⟩, m5⟩ := MH.out wa HA.out
  go_wp2_with fail
  refine bodyPost_ret (v := .tuple #[.agg #[.int .i64 0, .int .i64 0, .int .i64 0, .int .i64 0, .slice none 0 0], .int .i64 x]) (by simp [results, Try.results24, go_sem, m0, m1, m2, m3, m4]) rfl ?_
  have HB := below_then HB1.out HA.out
  have HB5 := ((((HB.setCell (p := ⟨w.heap.size + 1, 0, none⟩) (Nat.le_succ _) (.int .i64 0)).setCell (p := ⟨w.heap.size + 1, 1, none⟩) (Nat.le_succ _) (.int .i64 0)).setCell (p := ⟨w.heap.size + 1, 2, none⟩) (Nat.le_succ _) (.int .i64 0)).setCell (p := ⟨w.heap.size + 1, 3, none⟩) (Nat.le_succ _) (.int .i64 0)).setCell (p := ⟨w.heap.size + 1, 4, none⟩) (Nat.le_succ _) (.slice none 0 0)
  first
    | exact ⟨none, 0, fun _ => none, fun _ => 0, rfl, nl_none _ _ _ _ _ _, HB5⟩
    | exact ⟨none, ⟨0, rfl⟩, ⟨fun _ => none, fun _ => 0, nl_none _ _ _ _ _ _⟩, HB5⟩
set_option maxHeartbeats 4000000 in
set_option maxRecDepth 100000 in
theorem AfterD_e2 (hck : Ck k r c q n F 0 N Q S) (hln : 65536 < ln) (m : Int) (lo : Option Addr) (cl : Nat) (A : Nat → Option Addr) (C : Nat → Nat) (po : Option Addr) (pc : Nat) (w : World) (hl : Lst w lo n A C F) :
    Calls Try.prog 24 #[.agg #[.int .i64 k, .int .i64 r, .int .i64 c, .int .i64 q, .slice lo n cl], .slice po ln pc, .int .i64 m] w fun e w' => ∃ lo' cl' A' C', e = .returned (.tuple #[.agg #[.int .i64 0, .int .i64 0, .int .i64 0, .int .i64 0, .slice lo' 0 cl'], .int .i64 20]) ∧ Nl w.heap.size w' lo' 0 A' C' (fun _ => []) ∧ Below w.heap.size w w' := by
  obtain ⟨w0, hw0⟩ : ∃ w0, w0 = w.alloc (.cells #[.int .i64 k, .int .i64 r, .int .i64 c, .int .i64 q, .slice lo n cl] 27) := ⟨_, rfl⟩
  obtain ⟨w1, hw1⟩ : ∃ w1, w1 = w0.alloc (.cells #[.int .i64 0, .int .i64 0, .int .i64 0, .int .i64 0, .slice none 0 0] 27) := ⟨_, rfl⟩
  have b0 : Below w.heap.size w w0 := by rw [hw0]; exact below_alloc _ _
  have b1 : Below w0.heap.size w0 w1 := by rw [hw1]; exact below_alloc _ _
  have z0 : w0.heap.size = w.heap.size + 1 := by rw [hw0]; simp
  have z1 : w1.heap.size = w.heap.size + 2 := by rw [hw1]; simp; omega
  have SH : Hid (∀ v, Below w1.heap.size w1 v → v.cell? ⟨w.heap.size, 0, none⟩ = some (.int .i64 k) ∧ v.cell? ⟨w.heap.size, 1, none⟩ = some (.int .i64 r) ∧ v.cell? ⟨w.heap.size, 2, none⟩ = some (.int .i64 c) ∧ v.cell? ⟨w.heap.size, 3, none⟩ = some (.int .i64 q) ∧ v.cell? ⟨w.heap.size, 4, none⟩ = some (.slice lo n cl)) := fun v hv => img_held hw0 (below_then b1 hv)
  have MH : Hid (∀ v, Below w1.heap.size w1 v → (v.cell? ⟨w.heap.size + 1, 0, none⟩ = some (.int .i64 0) ∧ v.cell? ⟨w.heap.size + 1, 1, none⟩ = some (.int .i64 0) ∧ v.cell? ⟨w.heap.size + 1, 2, none⟩ = some (.int .i64 0) ∧ v.cell? ⟨w.heap.size + 1, 3, none⟩ = some (.int .i64 0) ∧ v.cell? ⟨w.heap.size + 1, 4, none⟩ = some (.slice none 0 0)) ∧ ∀ i, v.frozen? ⟨w.heap.size + 1, i, none⟩ = false) := fun v hv => by rw [← z0]; exact ⟨img_held hw1 hv, blk_free hw1 hv⟩
  have HB1 : Hid (Below w.heap.size w w1) := below_then b0 b1
  have HC := Check_doc hck lo cl A C w1 (hl.below HB1.out)
  have HL : Hid (Lst w lo n A C F) := hl
  have hx2 : (65536 : Int) < (ln : Int) := by omega
  clear hck hl
  go_enter Try.func24, Try.ntmps24
  go_wp2_with fail
  rw [← hw0, ← hw1]
  clear hw0 hw1 b0 b1 z0
  refine HC.mono ?_
  rintro e wa ⟨rfl, ha⟩
  have HA : Hid (Below w1.heap.size w1 wa) := ha
  clear ha HC
  obtain ⟨⟨m0, m1, m2, m3, m4⟩, m5⟩ := MH.out wa HA.out
  go_wp2_with fail
  refine bodyPost_ret (v := .tuple #[.agg #[.int .i64 0, .int .i64 0, .int .i64 0, .int .i64 0, .slice none 0 0], .int .i64 20]) (by simp [results, Try.results24, go_sem, m0, m1, m2, m3, m4]) rfl ?_
  have HB := below_then HB1.out HA.out
  have HB5 := ((((HB.setCell (p := ⟨w.heap.size + 1, 0, none⟩) (Nat.le_succ _) (.int .i64 0)).setCell (p := ⟨w.heap.size + 1, 1, none⟩) (Nat.le_succ _) (.int .i64 0)).setCell (p := ⟨w.heap.size + 1, 2, none⟩) (Nat.le_succ _) (.int .i64 0)).setCell (p := ⟨w.heap.size + 1, 3, none⟩) (Nat.le_succ _) (.int .i64 0)).setCell (p := ⟨w.heap.size + 1, 4, none⟩) (Nat.le_succ _) (.slice none 0 0)
  first
    | exact ⟨none, 0, fun _ => none, fun _ => 0, rfl, nl_none _ _ _ _ _ _, HB5⟩
    | exact ⟨none, ⟨0, rfl⟩, ⟨fun _ => none, fun _ => 0, nl_none _ _ _ _ _ _⟩, HB5⟩
set_option maxHeartbeats 4000000 in
set_option maxRecDepth 100000 in
theorem AfterD_e3 (hck : Ck k r c q n F 0 N Q S) (hln : ln ≤ 65536) (ht : ∃ i, i < ln ∧ takB N Q S (D i) = false) (m : Int) (lo : Option Addr) (cl : Nat) (A : Nat → Option Addr) (C : Nat → Nat) (po : Option Addr) (pc : Nat) (B : Nat → Option Addr) (K : Nat → Nat) {Z : Nat → Prop} (w : World) (hl : Lst w lo n A C F) (hp : Pts w Z po ln D B K) :
    Calls Try.prog 24 #[.agg #[.int .i64 k, .int .i64 r, .int .i64 c, .int .i64 q, .slice lo n cl], .slice po ln pc, .int .i64 m] w fun e w' => ∃ lo' cl' A' C', e = .returned (.tuple #[.agg #[.int .i64 0, .int .i64 0, .int .i64 0, .int .i64 0, .slice lo' 0 cl'], .int .i64 80]) ∧ Nl w.heap.size w' lo' 0 A' C' (fun _ => []) ∧ Below w.heap.size w w' := by
  obtain ⟨w0, hw0⟩ : ∃ w0, w0 = w.alloc (.cells #[.int .i64 k, .int .i64 r, .int .i64 c, .int .i64 q, .slice lo n cl] 27) := ⟨_, rfl⟩
  obtain ⟨w1, hw1⟩ : ∃ w1, w1 = w0.alloc (.cells #[.int .i64 0, .int .i64 0, .int .i64 0, .int .i64 0, .slice none 0 0] 27) := ⟨_, rfl⟩
  have b0 : Below w.heap.size w w0 := by rw [hw0]; exact below_alloc _ _
  have b1 : Below w0.heap.size w0 w1 := by rw [hw1]; exact below_alloc _ _
  have z0 : w0.heap.size = w.heap.size + 1 := by rw [hw0]; simp
  have z1 : w1.heap.size = w.heap.size + 2 := by rw [hw1]; simp; omega
  have SH : Hid (∀ v, Below w1.heap.size w1 v → v.cell? ⟨w.heap.size, 0, none⟩ = some (.int .i64 k) ∧ v.cell? ⟨w.heap.size, 1, none⟩ = some (.int .i64 r) ∧ v.cell? ⟨w.heap.size, 2, none⟩ = some (.int .i64 c) ∧ v.cell? ⟨w.heap.size, 3, none⟩ = some (.int .i64 q) ∧ v.cell? ⟨w.heap.size, 4, none⟩ = some (.slice lo n cl)) := fun v hv => img_held hw0 (below_then b1 hv)
  have MH : Hid (∀ v, Below w1.heap.size w1 v → (v.cell? ⟨w.heap.size + 1, 0, none⟩ = some (.int .i64 0) ∧ v.cell? ⟨w.heap.size + 1, 1, none⟩ = some (.int .i64 0) ∧ v.cell? ⟨w.heap.size + 1, 2, none⟩ = some (.int .i64 0) ∧ v.cell? ⟨w.heap.size + 1, 3, none⟩ = some (.int .i64 0) ∧ v.cell? ⟨w.heap.size + 1, 4, none⟩ = some (.slice none 0 0)) ∧ ∀ i, v.frozen? ⟨w.heap.size + 1, i, none⟩ = false) := fun v hv => by rw [← z0]; exact ⟨img_held hw1 hv, blk_free hw1 hv⟩
  have HB1 : Hid (Below w.heap.size w w1) := below_then b0 b1
  have HC := Check_doc hck lo cl A C w1 (hl.below HB1.out)
  have HL : Hid (Lst w lo n A C F) := hl
  have HPM : Hid (Pm k r c q N Q S) := (hck.ok rfl).1
  have HP : Hid (Pts w Z po ln D B K) := hp
  have HT : Hid (∃ i, i < ln ∧ takB N Q S (D i) = false) := ht
  have hx2 : (ln : Int) ≤ 65536 := by omega
  clear hck hl hp ht
  go_enter Try.func24, Try.ntmps24
  go_wp2_with fail
  rw [← hw0, ← hw1]
  clear hw0 hw1 b0 b1 z0
  refine HC.mono ?_
  rintro e wa ⟨rfl, ha⟩
  have HA : Hid (Below w1.heap.size w1 wa) := ha
  clear ha HC
  go_wp2_with fail
  go_loopw [9] (fun x wr => ∃ i : Nat, i ≤ ln ∧ x = .int .i64 i ∧ Hid (∀ j, j < i → takB N Q S (D j) = true) ∧ Hid (Below w1.heap.size w1 wr)) (fun x _ => ln - (intOf x).toNat)
  case atStart => exact ⟨0, Nat.zero_le _, rfl, fun j hj => absurd hj (Nat.not_lt_zero _), HA.out⟩
  case round =>
    obtain ⟨i, hi, rfl, hg, hb⟩ := hrel
    by_cases hlt : i < ln
    · have hpw := HP.out.below (below_then HB1.out hb.out)
      obtain ⟨b, off, rfl, hc⟩ := hpw.at_ (by omega)
      have hcx := hc i hlt
      obtain ⟨y, hy⟩ : ∃ y, y = D i := ⟨_, rfl⟩
      obtain ⟨bl, hbl⟩ : ∃ bl, bl = y.b.length := ⟨_, rfl⟩
      obtain ⟨zt, hzt⟩ : ∃ zt, zt = takB N Q S y := ⟨_, rfl⟩
      have HZT : Hid (zt = takB N Q S (D i)) := by rw [← hy]; exact hzt
      rw [← hy, ← hbl] at hcx
      have HMY : Hid (∀ v, Calls Try.prog 53 #[.agg #[.int .i64 k, .int .i64 r, .int .i64 c, .int .i64 q], .agg #[.int .i64 y.d, .int .i64 y.r, .int .i64 y.s, .slice (B i) bl (K i)]] v fun e w' => e = .returned (.bool zt) ∧ Below v.heap.size v w') := fun v => by rw [hzt, hbl]; exact MayPut_any HPM.out y (B i) (K i) v
      have CH : Hid (∀ v, Below wr.heap.size wr v → (v.cell? ⟨w.heap.size, 0, none⟩ = some (.int .i64 k) ∧ v.cell? ⟨w.heap.size, 1, none⟩ = some (.int .i64 r) ∧ v.cell? ⟨w.heap.size, 2, none⟩ = some (.int .i64 c) ∧ v.cell? ⟨w.heap.size, 3, none⟩ = some (.int .i64 q) ∧ v.cell? ⟨w.heap.size, 4, none⟩ = some (.slice lo n cl)) ∧ v.cell? ⟨b, off + i * 4, none⟩ = some (.int .i64 y.d) ∧ v.cell? ⟨b, off + i * 4 + 1, none⟩ = some (.int .i64 y.r) ∧ v.cell? ⟨b, off + i * 4 + 2, none⟩ = some (.int .i64 y.s) ∧ v.cell? ⟨b, off + i * 4 + 3, none⟩ = some (.slice (B i) bl (K i))) := fun v hv => ⟨SH.out v (below_then hb.out hv), held hcx.1 hv, held hcx.2.1 hv, held hcx.2.2.1 hv, held hcx.2.2.2 hv⟩
      obtain ⟨⟨a0, a1, a2, a3, a4⟩, x0, x1, x2, x3⟩ := CH.out wr (Below.refl _ _)
      have i1 : (0 : Int) ≤ (i : Int) := by omega
      have i2 : (i : Int) < (ln : Int) := by omega
      clear hpw hc hcx hy hbl hzt
      go_wp2_with fail
      go_region_held3 (fun v => (v.cell? ⟨w.heap.size, 0, none⟩ = some (.int .i64 k) ∧ v.cell? ⟨w.heap.size, 1, none⟩ = some (.int .i64 r) ∧ v.cell? ⟨w.heap.size, 2, none⟩ = some (.int .i64 c) ∧ v.cell? ⟨w.heap.size, 3, none⟩ = some (.int .i64 q) ∧ v.cell? ⟨w.heap.size, 4, none⟩ = some (.slice lo n cl)) ∧ v.cell? ⟨b, off + i * 4, none⟩ = some (.int .i64 y.d) ∧ v.cell? ⟨b, off + i * 4 + 1, none⟩ = some (.int .i64 y.r) ∧ v.cell? ⟨b, off + i * 4 + 2, none⟩ = some (.int .i64 y.s) ∧ v.cell? ⟨b, off + i * 4 + 3, none⟩ = some (.slice (B i) bl (K i))) (go_keep) ((go_at_call 53; refine (HMY.out _).mono ?_; rintro e wy ⟨rfl, hy2⟩; have HYB : Hid (Below wr.heap.size wr wy) := of_drew hy2; obtain ⟨⟨q0, q1, q2, q3, q4⟩, q5, q6, q7, q8⟩ := CH.out wy HYB.out; clear hy2))
      all_goals
        cases zt with
        | true =>
          go_wp2_with fail
          go_roundw
          case rel => exact ⟨i + 1, by omega, by go_num, fun j hj => by rcases Nat.lt_succ_iff_lt_or_eq.1 hj with g | rfl; exact hg.out j g; exact HZT.out.symm, below_then hb.out HYB.out⟩
          case measure => simp [intOf]; omega
        | false =>
          obtain ⟨⟨m0, m1, m2, m3, m4⟩, m5⟩ := MH.out wy (below_then hb.out HYB.out)
          go_wp2_with fail
          refine bodyPost_ret (v := .tuple #[.agg #[.int .i64 0, .int .i64 0, .int .i64 0, .int .i64 0, .slice none 0 0], .int .i64 80]) (by simp [results, Try.results24, go_sem, m0, m1, m2, m3, m4]) rfl ?_
          have HB := below_then HB1.out (below_then hb.out HYB.out)
          have HB5 := ((((HB.setCell (p := ⟨w.heap.size + 1, 0, none⟩) (Nat.le_succ _) (.int .i64 0)).setCell (p := ⟨w.heap.size + 1, 1, none⟩) (Nat.le_succ _) (.int .i64 0)).setCell (p := ⟨w.heap.size + 1, 2, none⟩) (Nat.le_succ _) (.int .i64 0)).setCell (p := ⟨w.heap.size + 1, 3, none⟩) (Nat.le_succ _) (.int .i64 0)).setCell (p := ⟨w.heap.size + 1, 4, none⟩) (Nat.le_succ _) (.slice none 0 0)
          first
            | exact ⟨none, 0, fun _ => none, fun _ => 0, rfl, nl_none _ _ _ _ _ _, HB5⟩
            | exact ⟨none, ⟨0, rfl⟩, ⟨fun _ => none, fun _ => 0, nl_none _ _ _ _ _ _⟩, HB5⟩
    · obtain rfl : i = ln := by omega
      obtain ⟨j, hj, e⟩ := HT.out
      exact absurd ((hg.out j hj).symm.trans e) (by decide)
set_option maxHeartbeats 4000000 in
set_option maxRecDepth 100000 in
theorem AfterD_e4 (hck : Ck k r c q n F 0 N Q S) (hln : ln ≤ 65536) (ht : ∀ i, i < ln → takB N Q S (D i) = true) (m : Int) (hm : m < 0 ∨ (ln : Int) < m) (lo : Option Addr) (cl : Nat) (A : Nat → Option Addr) (C : Nat → Nat) (po : Option Addr) (pc : Nat) (B : Nat → Option Addr) (K : Nat → Nat) {Z : Nat → Prop} (w : World) (hl : Lst w lo n A C F) (hp : Pts w Z po ln D B K) :
    Calls Try.prog 24 #[.agg #[.int .i64 k, .int .i64 r, .int .i64 c, .int .i64 q, .slice lo n cl], .slice po ln pc, .int .i64 m] w fun e w' => ∃ lo' cl' A' C', e = .returned (.tuple #[.agg #[.int .i64 0, .int .i64 0, .int .i64 0, .int .i64 0, .slice lo' 0 cl'], .int .i64 2]) ∧ Nl w.heap.size w' lo' 0 A' C' (fun _ => []) ∧ Below w.heap.size w w' := by
  obtain ⟨w0, hw0⟩ : ∃ w0, w0 = w.alloc (.cells #[.int .i64 k, .int .i64 r, .int .i64 c, .int .i64 q, .slice lo n cl] 27) := ⟨_, rfl⟩
  obtain ⟨w1, hw1⟩ : ∃ w1, w1 = w0.alloc (.cells #[.int .i64 0, .int .i64 0, .int .i64 0, .int .i64 0, .slice none 0 0] 27) := ⟨_, rfl⟩
  have b0 : Below w.heap.size w w0 := by rw [hw0]; exact below_alloc _ _
  have b1 : Below w0.heap.size w0 w1 := by rw [hw1]; exact below_alloc _ _
  have z0 : w0.heap.size = w.heap.size + 1 := by rw [hw0]; simp
  have z1 : w1.heap.size = w.heap.size + 2 := by rw [hw1]; simp; omega
  have SH : Hid (∀ v, Below w1.heap.size w1 v → v.cell? ⟨w.heap.size, 0, none⟩ = some (.int .i64 k) ∧ v.cell? ⟨w.heap.size, 1, none⟩ = some (.int .i64 r) ∧ v.cell? ⟨w.heap.size, 2, none⟩ = some (.int .i64 c) ∧ v.cell? ⟨w.heap.size, 3, none⟩ = some (.int .i64 q) ∧ v.cell? ⟨w.heap.size, 4, none⟩ = some (.slice lo n cl)) := fun v hv => img_held hw0 (below_then b1 hv)
  have MH : Hid (∀ v, Below w1.heap.size w1 v → (v.cell? ⟨w.heap.size + 1, 0, none⟩ = some (.int .i64 0) ∧ v.cell? ⟨w.heap.size + 1, 1, none⟩ = some (.int .i64 0) ∧ v.cell? ⟨w.heap.size + 1, 2, none⟩ = some (.int .i64 0) ∧ v.cell? ⟨w.heap.size + 1, 3, none⟩ = some (.int .i64 0) ∧ v.cell? ⟨w.heap.size + 1, 4, none⟩ = some (.slice none 0 0)) ∧ ∀ i, v.frozen? ⟨w.heap.size + 1, i, none⟩ = false) := fun v hv => by rw [← z0]; exact ⟨img_held hw1 hv, blk_free hw1 hv⟩
  have HB1 : Hid (Below w.heap.size w w1) := below_then b0 b1
  have HC := Check_doc hck lo cl A C w1 (hl.below HB1.out)
  have HL : Hid (Lst w lo n A C F) := hl
  have HPM : Hid (Pm k r c q N Q S) := (hck.ok rfl).1
  have HP : Hid (Pts w Z po ln D B K) := hp
  have HTK : Hid (∀ i, i < ln → takB N Q S (D i) = true) := ht
  have hx2 : (ln : Int) ≤ 65536 := by omega
  clear hck hl hp ht
  go_enter Try.func24, Try.ntmps24
  go_wp2_with fail
  rw [← hw0, ← hw1]
  clear hw0 hw1 b0 b1 z0
  refine HC.mono ?_
  rintro e wa ⟨rfl, ha⟩
  have HA : Hid (Below w1.heap.size w1 wa) := ha
  clear ha HC
  go_wp2_with fail
  go_loopw [9] (fun x wr => ∃ i : Nat, i ≤ ln ∧ x = .int .i64 i ∧ Hid (∀ j, j < i → takB N Q S (D j) = true) ∧ Hid (Below w1.heap.size w1 wr)) (fun x _ => ln - (intOf x).toNat)
  case atStart => exact ⟨0, Nat.zero_le _, rfl, fun j hj => absurd hj (Nat.not_lt_zero _), HA.out⟩
  case round =>
    obtain ⟨i, hi, rfl, hg, hb⟩ := hrel
    by_cases hlt : i < ln
    · have hpw := HP.out.below (below_then HB1.out hb.out)
      obtain ⟨b, off, rfl, hc⟩ := hpw.at_ (by omega)
      have hcx := hc i hlt
      obtain ⟨y, hy⟩ : ∃ y, y = D i := ⟨_, rfl⟩
      obtain ⟨bl, hbl⟩ : ∃ bl, bl = y.b.length := ⟨_, rfl⟩
      obtain ⟨zt, hzt⟩ : ∃ zt, zt = takB N Q S y := ⟨_, rfl⟩
      have HZT : Hid (zt = takB N Q S (D i)) := by rw [← hy]; exact hzt
      rw [← hy, ← hbl] at hcx
      have HMY : Hid (∀ v, Calls Try.prog 53 #[.agg #[.int .i64 k, .int .i64 r, .int .i64 c, .int .i64 q], .agg #[.int .i64 y.d, .int .i64 y.r, .int .i64 y.s, .slice (B i) bl (K i)]] v fun e w' => e = .returned (.bool zt) ∧ Below v.heap.size v w') := fun v => by rw [hzt, hbl]; exact MayPut_any HPM.out y (B i) (K i) v
      have CH : Hid (∀ v, Below wr.heap.size wr v → (v.cell? ⟨w.heap.size, 0, none⟩ = some (.int .i64 k) ∧ v.cell? ⟨w.heap.size, 1, none⟩ = some (.int .i64 r) ∧ v.cell? ⟨w.heap.size, 2, none⟩ = some (.int .i64 c) ∧ v.cell? ⟨w.heap.size, 3, none⟩ = some (.int .i64 q) ∧ v.cell? ⟨w.heap.size, 4, none⟩ = some (.slice lo n cl)) ∧ v.cell? ⟨b, off + i * 4, none⟩ = some (.int .i64 y.d) ∧ v.cell? ⟨b, off + i * 4 + 1, none⟩ = some (.int .i64 y.r) ∧ v.cell? ⟨b, off + i * 4 + 2, none⟩ = some (.int .i64 y.s) ∧ v.cell? ⟨b, off + i * 4 + 3, none⟩ = some (.slice (B i) bl (K i))) := fun v hv => ⟨SH.out v (below_then hb.out hv), held hcx.1 hv, held hcx.2.1 hv, held hcx.2.2.1 hv, held hcx.2.2.2 hv⟩
      obtain ⟨⟨a0, a1, a2, a3, a4⟩, x0, x1, x2, x3⟩ := CH.out wr (Below.refl _ _)
      have i1 : (0 : Int) ≤ (i : Int) := by omega
      have i2 : (i : Int) < (ln : Int) := by omega
      clear hpw hc hcx hy hbl hzt
      go_wp2_with fail
      go_region_held3 (fun v => (v.cell? ⟨w.heap.size, 0, none⟩ = some (.int .i64 k) ∧ v.cell? ⟨w.heap.size, 1, none⟩ = some (.int .i64 r) ∧ v.cell? ⟨w.heap.size, 2, none⟩ = some (.int .i64 c) ∧ v.cell? ⟨w.heap.size, 3, none⟩ = some (.int .i64 q) ∧ v.cell? ⟨w.heap.size, 4, none⟩ = some (.slice lo n cl)) ∧ v.cell? ⟨b, off + i * 4, none⟩ = some (.int .i64 y.d) ∧ v.cell? ⟨b, off + i * 4 + 1, none⟩ = some (.int .i64 y.r) ∧ v.cell? ⟨b, off + i * 4 + 2, none⟩ = some (.int .i64 y.s) ∧ v.cell? ⟨b, off + i * 4 + 3, none⟩ = some (.slice (B i) bl (K i))) (go_keep) ((go_at_call 53; refine (HMY.out _).mono ?_; rintro e wy ⟨rfl, hy2⟩; have HYB : Hid (Below wr.heap.size wr wy) := of_drew hy2; obtain ⟨⟨q0, q1, q2, q3, q4⟩, q5, q6, q7, q8⟩ := CH.out wy HYB.out; clear hy2))
      all_goals
        cases zt with
        | true =>
          go_wp2_with fail
          go_roundw
          case rel => exact ⟨i + 1, by omega, by go_num, fun j hj => by rcases Nat.lt_succ_iff_lt_or_eq.1 hj with g | rfl; exact hg.out j g; exact HZT.out.symm, below_then hb.out HYB.out⟩
          case measure => simp [intOf]; omega
        | false =>
          exact absurd (HZT.out.trans (HTK.out i hlt)) (by decide)
    · obtain rfl : i = ln := by omega
      by_cases hm0 : m < 0
      · skip
        obtain ⟨⟨m0, m1, m2, m3, m4⟩, m5⟩ := MH.out wr hb.out
        go_wp2_with fail
        refine bodyPost_ret (v := .tuple #[.agg #[.int .i64 0, .int .i64 0, .int .i64 0, .int .i64 0, .slice none 0 0], .int .i64 2]) (by simp [results, Try.results24, go_sem, m0, m1, m2, m3, m4]) rfl ?_
        have HB := below_then HB1.out hb.out
        have HB5 := ((((HB.setCell (p := ⟨w.heap.size + 1, 0, none⟩) (Nat.le_succ _) (.int .i64 0)).setCell (p := ⟨w.heap.size + 1, 1, none⟩) (Nat.le_succ _) (.int .i64 0)).setCell (p := ⟨w.heap.size + 1, 2, none⟩) (Nat.le_succ _) (.int .i64 0)).setCell (p := ⟨w.heap.size + 1, 3, none⟩) (Nat.le_succ _) (.int .i64 0)).setCell (p := ⟨w.heap.size + 1, 4, none⟩) (Nat.le_succ _) (.slice none 0 0)
        first
          | exact ⟨none, 0, fun _ => none, fun _ => 0, rfl, nl_none _ _ _ _ _ _, HB5⟩
          | exact ⟨none, ⟨0, rfl⟩, ⟨fun _ => none, fun _ => 0, nl_none _ _ _ _ _ _⟩, HB5⟩
      · have hm1 : (i : Int) < m := by omega
        obtain ⟨⟨m0, m1, m2, m3, m4⟩, m5⟩ := MH.out wr hb.out
        go_wp2_with fail
        refine bodyPost_ret (v := .tuple #[.agg #[.int .i64 0, .int .i64 0, .int .i64 0, .int .i64 0, .slice none 0 0], .int .i64 2]) (by simp [results, Try.results24, go_sem, m0, m1, m2, m3, m4]) rfl ?_
        have HB := below_then HB1.out hb.out
        have HB5 := ((((HB.setCell (p := ⟨w.heap.size + 1, 0, none⟩) (Nat.le_succ _) (.int .i64 0)).setCell (p := ⟨w.heap.size + 1, 1, none⟩) (Nat.le_succ _) (.int .i64 0)).setCell (p := ⟨w.heap.size + 1, 2, none⟩) (Nat.le_succ _) (.int .i64 0)).setCell (p := ⟨w.heap.size + 1, 3, none⟩) (Nat.le_succ _) (.int .i64 0)).setCell (p := ⟨w.heap.size + 1, 4, none⟩) (Nat.le_succ _) (.slice none 0 0)
        first
          | exact ⟨none, 0, fun _ => none, fun _ => 0, rfl, nl_none _ _ _ _ _ _, HB5⟩
          | exact ⟨none, ⟨0, rfl⟩, ⟨fun _ => none, fun _ => 0, nl_none _ _ _ _ _ _⟩, HB5⟩
end
end Go.Proofs.Ytenlfhdchflnjaa
