/- What makes one image of another one, by the program. -/
import Derived.Test.YtenlfhdchflnjaaImgM
namespace Go.Proofs.Ytenlfhdchflnjaa
open Go.RowKit

set_option maxHeartbeats 1000000 in
set_option maxRecDepth 100000 in
theorem put_any (N Q S i : Nat) (hQ1 : 1 ≤ Q) (hQ : Q ≤ 256) (hi : i ≤ 8192) (ao : Option Addr) (n cp : Nat) (c : List UInt8) (w : World) (hr : RdB w ao c) (hn : n = c.length) (hc : c.length ≤ 1000000) :
    Calls Try.prog 49 #[.agg #[.int .i64 (N : Int), .int .i64 (Q : Int), .int .i64 (S : Int)], .int .i64 (i : Int), .slice ao n cp] w fun e w' => ∃ ao' cap', e = .returned (.agg #[.int .i64 ((i / 2 / Q : Nat) : Int), .int .i64 ((i / 2 % Q : Nat) : Int), .int .i64 ((i % 2 : Nat) : Int), .slice ao' c.length cap']) ∧ OwC w.heap.size w' ao' cap' c ∧ Below w.heap.size w w' := by
  obtain ⟨w0, hw0⟩ : ∃ w0, w0 = w.alloc (.cells #[.int .i64 (N : Int), .int .i64 (Q : Int), .int .i64 (S : Int)] 64) := ⟨_, rfl⟩
  obtain ⟨w1, hw1⟩ : ∃ w1, w1 = w0.alloc (.cells #[.int .i64 0, .int .i64 0, .int .i64 0, .slice none 0 0] 35) := ⟨_, rfl⟩
  have b0 : Below w.heap.size w w0 := by rw [hw0]; exact below_alloc _ _
  have b1 : Below w0.heap.size w0 w1 := by rw [hw1]; exact below_alloc _ _
  have z0 : w0.heap.size = w.heap.size + 1 := by rw [hw0]; simp
  have z1 : w.heap.size + 2 ≤ w1.heap.size := by rw [hw1]; simp; omega
  have HB1 : Hid (Below w.heap.size w w1) := below_then b0 b1
  have HC : Hid (∀ v, Below w1.heap.size w1 v → Calls Try.prog 46 #[.slice ao n cp] v fun e w' => ∃ ao' cap', e = .returned (.slice ao' c.length cap') ∧ OwC v.heap.size w' ao' cap' c ∧ Below v.heap.size v w') := fun v hv => copied_any v ao n cp c (hr.below (below_then HB1.out hv)) hn hc
  have SQ : Hid (∀ v, Below w1.heap.size w1 v → v.cell? ⟨w.heap.size, 1, none⟩ = some (.int .i64 (Q : Int))) := fun v hv => (shp_held hw0 (below_then b1 hv)).2.1
  have MH : Hid (∀ v, Below w1.heap.size w1 v → (v.cell? ⟨w.heap.size + 1, 0, none⟩ = some (.int .i64 0) ∧ v.cell? ⟨w.heap.size + 1, 1, none⟩ = some (.int .i64 0) ∧ v.cell? ⟨w.heap.size + 1, 2, none⟩ = some (.int .i64 0) ∧ v.cell? ⟨w.heap.size + 1, 3, none⟩ = some (.slice none 0 0)) ∧ ∀ i, v.frozen? ⟨w.heap.size + 1, i, none⟩ = false) := fun v hv => by rw [← z0]; exact ⟨par_held hw1 hv, blk_free hw1 hv⟩
  have HNC : Hid (n = c.length) := hn
  have q1 := SQ.out w1 (Below.refl _ _)
  have nQ : ¬ Q = 0 := by omega
  have nQ2 : ¬ (Q : Int) = 0 := by omega
  obtain ⟨h, hh⟩ : ∃ h, h = i / 2 := ⟨_, rfl⟩
  obtain ⟨d, hd⟩ : ∃ d, d = h / Q := ⟨_, rfl⟩
  obtain ⟨o, ho⟩ : ∃ o, o = h % Q := ⟨_, rfl⟩
  obtain ⟨s, hs⟩ : ∃ s, s = i % 2 := ⟨_, rfl⟩
  have hdb : d ≤ 8192 := by rw [hd]; exact Nat.le_trans (Nat.div_le_self _ _) (by omega)
  have e1 : (i : Int) / 2 = (h : Int) := by omega
  have e2 : IntKind.i64.wrap ((h : Int) / (Q : Int)) = (d : Int) := by rw [show (h : Int) / (Q : Int) = (d : Int) by rw [hd]; simp, IntKind.wrap_i64]; omega
  have e3 : (h : Int).tmod (Q : Int) = (o : Int) := by rw [ho]; rfl
  have e4 : (i : Int).tmod 2 = (s : Int) := by rw [hs]; rfl
  rw [← hh, ← hd, ← ho, ← hs]
  clear hr hn hc hh hd ho hs b0 b1
  go_enter Try.func49, Try.ntmps49
  go_wp2_with fail
  rw [← hw0, ← hw1]
  clear hw0 hw1 z0
  go_region_held3 (fun v => v.cell? ⟨w.heap.size, 1, none⟩ = some (.int .i64 (Q : Int))) (go_keep)
    ((go_at_call 46; refine (HC.out _ (below_drew _ _)).mono ?_; rintro e wa ⟨ao', cap', rfl, ho, ha⟩; have HA : Hid (Below w1.heap.size w1 wa) := of_drew ha; have HO : Hid (OwC w1.heap.size wa ao' cap' c) := ho; have q2 := SQ.out wa (of_drew ha); obtain ⟨⟨m0, m1, m2, m3⟩, m5⟩ := MH.out wa (of_drew ha); have ht : ∀ (v : World) j u, (v.setCell ⟨w.heap.size + 1, j, none⟩ u).cell? ⟨w.heap.size, 1, none⟩ = v.cell? ⟨w.heap.size, 1, none⟩ := (fun v j u => World.cell?_of_block (Below.heap_setCell _ _ _ _ (by show w.heap.size ≠ w.heap.size + 1; omega))); clear ho ha))
  all_goals
    go_wp2_with fail
    refine bodyPost_ret (v := .agg #[.int .i64 (d : Int), .int .i64 (o : Int), .int .i64 (s : Int), .slice ao' c.length cap']) (by simp [results, Try.results49, go_sem, m0, m1, m2, m3]) rfl ?_
    have hB := below_then HB1.out HA.out
    refine ⟨ao', cap', rfl, ?_, (((hB.setCell (Nat.le_succ _) _).setCell (Nat.le_succ _) _).setCell (Nat.le_succ _) _).setCell (Nat.le_succ _) _⟩
    have hne : ∀ a, ao' = some a → a.block ≠ w.heap.size + 1 := fun a ha => by have := (HO.out.at_ ha).1; omega
    exact ((((HO.out.set hne _ _).set hne _ _).set hne _ _).set hne _ _).mono (by omega)
/-- The raw writes for the slots below i that are unlike. -/
def dfs (Q : Nat) (F G : Nat → List UInt8) : Nat → List Pt
  | 0 => []
  | i + 1 => dfs Q F G i ++ (if F i = G i then [] else [⟨((i / 2 / Q : Nat) : Int), ((i / 2 % Q : Nat) : Int), ((i % 2 : Nat) : Int), G i⟩])
def p0 : Pt := ⟨0, 0, 0, []⟩
theorem dfs_le (Q : Nat) (F G : Nat → List UInt8) : ∀ i, (dfs Q F G i).length ≤ i
  | 0 => Nat.le_refl _
  | i + 1 => by
    have := dfs_le Q F G i
    unfold dfs
    rw [List.length_append]
    by_cases h : F i = G i
    · rw [if_pos h]; simp; omega
    · rw [if_neg h]; simp; omega
theorem dfs_same {Q : Nat} {F G : Nat → List UInt8} {i : Nat} (h : F i = G i) : dfs Q F G (i + 1) = dfs Q F G i := by rw [dfs, if_pos h, List.append_nil]
theorem dfs_new {Q : Nat} {F G : Nat → List UInt8} {i : Nat} (h : ¬ F i = G i) : dfs Q F G (i + 1) = dfs Q F G i ++ [⟨((i / 2 / Q : Nat) : Int), ((i / 2 % Q : Nat) : Int), ((i % 2 : Nat) : Int), G i⟩] := by rw [dfs, if_neg h]
theorem getD_snoc (l : List Pt) (y : Pt) (j : Nat) (hj : j < l.length + 1) : upd l.length y (fun j => l.getD j p0) j = (l ++ [y]).getD j p0 := by
  unfold upd
  by_cases e : j = l.length
  · subst e; simp
  · rw [if_neg e]
    have : j < l.length := by omega
    simp [List.getElem?_append_left this]
/-- What Diff answers. -/
def Dff (k1 r1 c1 q1 : Int) (n1 : Nat) (F : Nat → List UInt8) (k2 r2 c2 q2 : Int) (n2 : Nat) (G : Nat → List UInt8) (x : Int) (ln : Nat) (D : Nat → Pt) : Prop :=
  ∃ y N Q S y2 N2 Q2 S2, Ck k1 r1 c1 q1 n1 F y N Q S ∧ Ck k2 r2 c2 q2 n2 G y2 N2 Q2 S2 ∧
    ((y = 0 ∧ y2 = 0 ∧ (k1 = k2 ∧ r1 = r2 ∧ c1 = c2 ∧ q1 = q2) ∧ (∀ i, i < n1 → ¬ F i = G i → ¬ G i = []) ∧ x = 0 ∧ ln = (dfs Q F G n1).length ∧ D = fun j => (dfs Q F G n1).getD j p0) ∨
     ((ln = 0 ∧ D = fun _ => p0) ∧ ((¬ y = 0 ∧ x = y) ∨ (y = 0 ∧ ¬ y2 = 0 ∧ x = y2) ∨ (y = 0 ∧ y2 = 0 ∧ ¬ (k1 = k2 ∧ r1 = r2 ∧ c1 = c2 ∧ q1 = q2) ∧ x = 90) ∨ (y = 0 ∧ y2 = 0 ∧ (k1 = k2 ∧ r1 = r2 ∧ c1 = c2 ∧ q1 = q2) ∧ (∃ i, i < n1 ∧ ¬ F i = G i ∧ G i = []) ∧ x = 90))))
theorem dff_ex (k1 r1 c1 q1 : Int) (n1 : Nat) (F : Nat → List UInt8) (k2 r2 c2 q2 : Int) (n2 : Nat) (G : Nat → List UInt8) : ∃ x ln D, Dff k1 r1 c1 q1 n1 F k2 r2 c2 q2 n2 G x ln D := by
  obtain ⟨y, N, Q, S, h⟩ := ck_ex k1 r1 c1 q1 n1 F
  obtain ⟨y2, N2, Q2, S2, h2⟩ := ck_ex k2 r2 c2 q2 n2 G
  by_cases hy : y = 0
  · by_cases hy2 : y2 = 0
    · by_cases hp : k1 = k2 ∧ r1 = r2 ∧ c1 = c2 ∧ q1 = q2
      · by_cases ha : ∃ i, i < n1 ∧ ¬ F i = G i ∧ G i = []
        · exact ⟨90, 0, _, y, N, Q, S, y2, N2, Q2, S2, h, h2, .inr ⟨⟨rfl, rfl⟩, .inr (.inr (.inr ⟨hy, hy2, hp, ha, rfl⟩))⟩⟩
        · exact ⟨0, _, _, y, N, Q, S, y2, N2, Q2, S2, h, h2, .inl ⟨hy, hy2, hp, fun i hi h1 h2 => ha ⟨i, hi, h1, h2⟩, rfl, rfl, rfl⟩⟩
      · exact ⟨90, 0, _, y, N, Q, S, y2, N2, Q2, S2, h, h2, .inr ⟨⟨rfl, rfl⟩, .inr (.inr (.inl ⟨hy, hy2, hp, rfl⟩))⟩⟩
    · exact ⟨y2, 0, _, y, N, Q, S, y2, N2, Q2, S2, h, h2, .inr ⟨⟨rfl, rfl⟩, .inr (.inl ⟨hy, hy2, rfl⟩)⟩⟩
  · exact ⟨y, 0, _, y, N, Q, S, y2, N2, Q2, S2, h, h2, .inr ⟨⟨rfl, rfl⟩, .inl ⟨hy, rfl⟩⟩⟩
theorem Pus.congr {tg : Bool} {w : World} {V : Nat} {ao : Option Addr} {n cap : Nat} {D D' : Nat → Pt} {B : Nat → Option Addr} {K : Nat → Nat} (h : Pus tg w V ao n cap D B K) (e : ∀ j, j < n → D j = D' j) : Pus tg w V ao n cap D' B K :=
  ⟨by rw [← ptv_congr n fun i hi => ⟨e i hi, rfl, rfl⟩]; exact h.1, fun j hj => by have e1 : (fun j => (D' j).b) j = (fun j => (D j).b) j := (by show (D' j).b = (D j).b; rw [e j hj]); rw [e1]; exact h.2 j hj⟩
theorem Pus.mono {tg : Bool} {w : World} {V V' : Nat} {ao : Option Addr} {n cap : Nat} {D : Nat → Pt} {B : Nat → Option Addr} {K : Nat → Nat} (h : Pus tg w V ao n cap D B K) (hV : V' ≤ V) : Pus tg w V' ao n cap D B K := by
  refine ⟨⟨h.1.1, ?_⟩, fun j hj => ?_⟩
  · rcases h.1.2 with h1 | ⟨g, cap', cur, h1, h2, h3⟩
    · exact .inl h1
    · exact .inr ⟨g, cap', cur, h1, by omega, h3⟩
  · obtain ⟨q1, q2, q3, q4⟩ := h.2 j hj
    exact ⟨q1, fun a ha => ⟨by have := (q2 a ha).1; omega, (q2 a ha).2⟩, q3, fun ht => (q4 ht).mono hV⟩
section
variable {k1 r1 c1 q1 : Int} {n1 : Nat} {F : Nat → List UInt8} {k2 r2 c2 q2 : Int} {n2 : Nat} {G : Nat → List UInt8} {N Q S N2 Q2 S2 : Nat}
set_option maxHeartbeats 1000000 in
set_option maxRecDepth 100000 in
theorem Diff_e1 {x : Int} (hck : Ck k1 r1 c1 q1 n1 F x N Q S) (hx : ¬ x = 0) (lo1 lo2 : Option Addr) (cl1 cl2 : Nat) (A1 : Nat → Option Addr) (E1 : Nat → Nat) (w : World) (h1 : Lst w lo1 n1 A1 E1 F) :
    Calls Try.prog 14 #[.agg #[.int .i64 k1, .int .i64 r1, .int .i64 c1, .int .i64 q1, .slice lo1 n1 cl1], .agg #[.int .i64 k2, .int .i64 r2, .int .i64 c2, .int .i64 q2, .slice lo2 n2 cl2]] w fun e w' => ∃ po pc B K, e = .returned (.tuple #[.slice po 0 pc, .int .i64 x]) ∧ Pus true w' w.heap.size po 0 pc (fun _ => p0) B K ∧ Below w.heap.size w w' := by
  obtain ⟨w0, hw0⟩ : ∃ w0, w0 = w.alloc (.cells #[.int .i64 k1, .int .i64 r1, .int .i64 c1, .int .i64 q1, .slice lo1 n1 cl1] 27) := ⟨_, rfl⟩
  obtain ⟨w1, hw1⟩ : ∃ w1, w1 = w0.alloc (.cells #[.int .i64 k2, .int .i64 r2, .int .i64 c2, .int .i64 q2, .slice lo2 n2 cl2] 27) := ⟨_, rfl⟩
  have b0 : Below w.heap.size w w0 := by rw [hw0]; exact below_alloc _ _
  have b1 : Below w0.heap.size w0 w1 := by rw [hw1]; exact below_alloc _ _
  have z0 : w0.heap.size = w.heap.size + 1 := by rw [hw0]; simp
  have z1 : w.heap.size + 2 ≤ w1.heap.size := by rw [hw1]; simp; omega
  have HB1 : Hid (Below w.heap.size w w1) := below_then b0 b1
  have S1 : Hid (∀ v, Below w1.heap.size w1 v → v.cell? ⟨w.heap.size, 0, none⟩ = some (.int .i64 k1) ∧ v.cell? ⟨w.heap.size, 1, none⟩ = some (.int .i64 r1) ∧ v.cell? ⟨w.heap.size, 2, none⟩ = some (.int .i64 c1) ∧ v.cell? ⟨w.heap.size, 3, none⟩ = some (.int .i64 q1) ∧ v.cell? ⟨w.heap.size, 4, none⟩ = some (.slice lo1 n1 cl1)) := fun v hv => img_held hw0 (below_then b1 hv)
  have S2 : Hid (∀ v, Below w1.heap.size w1 v → v.cell? ⟨w.heap.size + 1, 0, none⟩ = some (.int .i64 k2) ∧ v.cell? ⟨w.heap.size + 1, 1, none⟩ = some (.int .i64 r2) ∧ v.cell? ⟨w.heap.size + 1, 2, none⟩ = some (.int .i64 c2) ∧ v.cell? ⟨w.heap.size + 1, 3, none⟩ = some (.int .i64 q2) ∧ v.cell? ⟨w.heap.size + 1, 4, none⟩ = some (.slice lo2 n2 cl2)) := fun v hv => by rw [← z0]; exact img_held hw1 hv
  have HC := checked_any hck lo1 cl1 A1 E1 w1 (h1.below HB1.out)
  have hx2 : (x != 0) = true := by simp; exact hx
  clear hck h1 hx
  go_enter Try.func14, Try.ntmps14
  go_wp2_with fail
  rw [← hw0, ← hw1]
  clear hw0 hw1 b0 b1 z0
  refine HC.mono ?_
  rintro e wa ⟨rfl, ha⟩
  clear HC
  go_wp2_with fail
  go_ret2
  exact ⟨none, 0, fun _ => none, fun _ => 0, rfl, pus_nil _ _ _ _ _ _, below_then HB1.out (below_then ha (below_alloc _ _))⟩
set_option maxHeartbeats 1000000 in
set_option maxRecDepth 100000 in
theorem Diff_e2 {x : Int} (hck : Ck k1 r1 c1 q1 n1 F 0 N Q S) (hck2 : Ck k2 r2 c2 q2 n2 G x N2 Q2 S2) (hx : ¬ x = 0) (lo1 lo2 : Option Addr) (cl1 cl2 : Nat) (A1 A2 : Nat → Option Addr) (E1 E2 : Nat → Nat) (w : World) (h1 : Lst w lo1 n1 A1 E1 F) (h2 : Lst w lo2 n2 A2 E2 G) :
    Calls Try.prog 14 #[.agg #[.int .i64 k1, .int .i64 r1, .int .i64 c1, .int .i64 q1, .slice lo1 n1 cl1], .agg #[.int .i64 k2, .int .i64 r2, .int .i64 c2, .int .i64 q2, .slice lo2 n2 cl2]] w fun e w' => ∃ po pc B K, e = .returned (.tuple #[.slice po 0 pc, .int .i64 x]) ∧ Pus true w' w.heap.size po 0 pc (fun _ => p0) B K ∧ Below w.heap.size w w' := by
  obtain ⟨w0, hw0⟩ : ∃ w0, w0 = w.alloc (.cells #[.int .i64 k1, .int .i64 r1, .int .i64 c1, .int .i64 q1, .slice lo1 n1 cl1] 27) := ⟨_, rfl⟩
  obtain ⟨w1, hw1⟩ : ∃ w1, w1 = w0.alloc (.cells #[.int .i64 k2, .int .i64 r2, .int .i64 c2, .int .i64 q2, .slice lo2 n2 cl2] 27) := ⟨_, rfl⟩
  have b0 : Below w.heap.size w w0 := by rw [hw0]; exact below_alloc _ _
  have b1 : Below w0.heap.size w0 w1 := by rw [hw1]; exact below_alloc _ _
  have z0 : w0.heap.size = w.heap.size + 1 := by rw [hw0]; simp
  have z1 : w.heap.size + 2 ≤ w1.heap.size := by rw [hw1]; simp; omega
  have HB1 : Hid (Below w.heap.size w w1) := below_then b0 b1
  have S1 : Hid (∀ v, Below w1.heap.size w1 v → v.cell? ⟨w.heap.size, 0, none⟩ = some (.int .i64 k1) ∧ v.cell? ⟨w.heap.size, 1, none⟩ = some (.int .i64 r1) ∧ v.cell? ⟨w.heap.size, 2, none⟩ = some (.int .i64 c1) ∧ v.cell? ⟨w.heap.size, 3, none⟩ = some (.int .i64 q1) ∧ v.cell? ⟨w.heap.size, 4, none⟩ = some (.slice lo1 n1 cl1)) := fun v hv => img_held hw0 (below_then b1 hv)
  have S2 : Hid (∀ v, Below w1.heap.size w1 v → v.cell? ⟨w.heap.size + 1, 0, none⟩ = some (.int .i64 k2) ∧ v.cell? ⟨w.heap.size + 1, 1, none⟩ = some (.int .i64 r2) ∧ v.cell? ⟨w.heap.size + 1, 2, none⟩ = some (.int .i64 c2) ∧ v.cell? ⟨w.heap.size + 1, 3, none⟩ = some (.int .i64 q2) ∧ v.cell? ⟨w.heap.size + 1, 4, none⟩ = some (.slice lo2 n2 cl2)) := fun v hv => by rw [← z0]; exact img_held hw1 hv
  have HC := checked_any hck lo1 cl1 A1 E1 w1 (h1.below HB1.out)
  have HL2 : Hid (Lst w lo2 n2 A2 E2 G) := h2
  have hx2 : (x != 0) = true := by simp; exact hx
  clear hck h1 h2 hx
  go_enter Try.func14, Try.ntmps14
  go_wp2_with fail
  rw [← hw0, ← hw1]
  clear hw0 hw1 b0 b1 z0
  refine HC.mono ?_
  rintro e wa ⟨rfl, ha⟩
  obtain ⟨wb, hwb⟩ : ∃ wb, wb = wa.alloc (.cells #[.int .i64 (N : Int), .int .i64 (Q : Int), .int .i64 (S : Int)] 64) := ⟨_, rfl⟩
  have hab : Below wa.heap.size wa wb := by rw [hwb]; exact below_alloc _ _
  have HBb : Hid (Below w1.heap.size w1 wb) := below_then ha hab
  have SP : Hid (∀ v, Below wb.heap.size wb v → v.cell? ⟨wa.heap.size, 0, none⟩ = some (.int .i64 (N : Int)) ∧ v.cell? ⟨wa.heap.size, 1, none⟩ = some (.int .i64 (Q : Int)) ∧ v.cell? ⟨wa.heap.size, 2, none⟩ = some (.int .i64 (S : Int))) := fun v hv => shp_held hwb hv
  have HC2 := Check_img hck2 lo2 cl2 A2 E2 wb (HL2.out.below (below_then HB1.out HBb.out))
  obtain ⟨t0, t1, t2, t3, t4⟩ := S2.out wa ha
  have y0 := fun o => held t0 (below_alloc wa o)
  have y1 := fun o => held t1 (below_alloc wa o)
  have y2 := fun o => held t2 (below_alloc wa o)
  have y3 := fun o => held t3 (below_alloc wa o)
  have y4 := fun o => held t4 (below_alloc wa o)
  clear HC
  go_wp2_with fail
  rw [← hwb]
  clear hwb hab y0 y1 y2 y3 y4 t0 t1 t2 t3 t4
  refine HC2.mono ?_
  rintro e wc ⟨rfl, hc⟩
  have HBc : Hid (Below w1.heap.size w1 wc) := below_then HBb.out hc
  clear HC2
  go_wp2_with fail
  go_ret2
  exact ⟨none, 0, fun _ => none, fun _ => 0, rfl, pus_nil _ _ _ _ _ _, below_then HB1.out HBc.out⟩
set_option maxHeartbeats 1000000 in
set_option maxRecDepth 100000 in
theorem Diff_e3 (hck : Ck k1 r1 c1 q1 n1 F 0 N Q S) (hck2 : Ck k2 r2 c2 q2 n2 G 0 N2 Q2 S2) (hp : ¬ (k1 = k2 ∧ r1 = r2 ∧ c1 = c2 ∧ q1 = q2)) (lo1 lo2 : Option Addr) (cl1 cl2 : Nat) (A1 A2 : Nat → Option Addr) (E1 E2 : Nat → Nat) (w : World) (h1 : Lst w lo1 n1 A1 E1 F) (h2 : Lst w lo2 n2 A2 E2 G) :
    Calls Try.prog 14 #[.agg #[.int .i64 k1, .int .i64 r1, .int .i64 c1, .int .i64 q1, .slice lo1 n1 cl1], .agg #[.int .i64 k2, .int .i64 r2, .int .i64 c2, .int .i64 q2, .slice lo2 n2 cl2]] w fun e w' => ∃ po pc B K, e = .returned (.tuple #[.slice po 0 pc, .int .i64 90]) ∧ Pus true w' w.heap.size po 0 pc (fun _ => p0) B K ∧ Below w.heap.size w w' := by
  obtain ⟨w0, hw0⟩ : ∃ w0, w0 = w.alloc (.cells #[.int .i64 k1, .int .i64 r1, .int .i64 c1, .int .i64 q1, .slice lo1 n1 cl1] 27) := ⟨_, rfl⟩
  obtain ⟨w1, hw1⟩ : ∃ w1, w1 = w0.alloc (.cells #[.int .i64 k2, .int .i64 r2, .int .i64 c2, .int .i64 q2, .slice lo2 n2 cl2] 27) := ⟨_, rfl⟩
  have b0 : Below w.heap.size w w0 := by rw [hw0]; exact below_alloc _ _
  have b1 : Below w0.heap.size w0 w1 := by rw [hw1]; exact below_alloc _ _
  have z0 : w0.heap.size = w.heap.size + 1 := by rw [hw0]; simp
  have z1 : w.heap.size + 2 ≤ w1.heap.size := by rw [hw1]; simp; omega
  have HB1 : Hid (Below w.heap.size w w1) := below_then b0 b1
  have S1 : Hid (∀ v, Below w1.heap.size w1 v → v.cell? ⟨w.heap.size, 0, none⟩ = some (.int .i64 k1) ∧ v.cell? ⟨w.heap.size, 1, none⟩ = some (.int .i64 r1) ∧ v.cell? ⟨w.heap.size, 2, none⟩ = some (.int .i64 c1) ∧ v.cell? ⟨w.heap.size, 3, none⟩ = some (.int .i64 q1) ∧ v.cell? ⟨w.heap.size, 4, none⟩ = some (.slice lo1 n1 cl1)) := fun v hv => img_held hw0 (below_then b1 hv)
  have S2 : Hid (∀ v, Below w1.heap.size w1 v → v.cell? ⟨w.heap.size + 1, 0, none⟩ = some (.int .i64 k2) ∧ v.cell? ⟨w.heap.size + 1, 1, none⟩ = some (.int .i64 r2) ∧ v.cell? ⟨w.heap.size + 1, 2, none⟩ = some (.int .i64 c2) ∧ v.cell? ⟨w.heap.size + 1, 3, none⟩ = some (.int .i64 q2) ∧ v.cell? ⟨w.heap.size + 1, 4, none⟩ = some (.slice lo2 n2 cl2)) := fun v hv => by rw [← z0]; exact img_held hw1 hv
  have HC := checked_any hck lo1 cl1 A1 E1 w1 (h1.below HB1.out)
  have HL2 : Hid (Lst w lo2 n2 A2 E2 G) := h2
  clear hck h1 h2
  go_enter Try.func14, Try.ntmps14
  go_wp2_with fail
  rw [← hw0, ← hw1]
  clear hw0 hw1 b0 b1 z0
  refine HC.mono ?_
  rintro e wa ⟨rfl, ha⟩
  obtain ⟨wb, hwb⟩ : ∃ wb, wb = wa.alloc (.cells #[.int .i64 (N : Int), .int .i64 (Q : Int), .int .i64 (S : Int)] 64) := ⟨_, rfl⟩
  have hab : Below wa.heap.size wa wb := by rw [hwb]; exact below_alloc _ _
  have HBb : Hid (Below w1.heap.size w1 wb) := below_then ha hab
  have SP : Hid (∀ v, Below wb.heap.size wb v → v.cell? ⟨wa.heap.size, 0, none⟩ = some (.int .i64 (N : Int)) ∧ v.cell? ⟨wa.heap.size, 1, none⟩ = some (.int .i64 (Q : Int)) ∧ v.cell? ⟨wa.heap.size, 2, none⟩ = some (.int .i64 (S : Int))) := fun v hv => shp_held hwb hv
  have HC2 := Check_img hck2 lo2 cl2 A2 E2 wb (HL2.out.below (below_then HB1.out HBb.out))
  obtain ⟨t0, t1, t2, t3, t4⟩ := S2.out wa ha
  have y0 := fun o => held t0 (below_alloc wa o)
  have y1 := fun o => held t1 (below_alloc wa o)
  have y2 := fun o => held t2 (below_alloc wa o)
  have y3 := fun o => held t3 (below_alloc wa o)
  have y4 := fun o => held t4 (below_alloc wa o)
  clear HC
  go_wp2_with fail
  rw [← hwb]
  clear hwb hab y0 y1 y2 y3 y4 t0 t1 t2 t3 t4
  refine HC2.mono ?_
  rintro e wc ⟨rfl, hc⟩
  have HBc : Hid (Below w1.heap.size w1 wc) := below_then HBb.out hc
  obtain ⟨s0, s1, s2, s3, s4⟩ := S1.out wc HBc.out
  obtain ⟨t0, t1, t2, t3, t4⟩ := S2.out wc HBc.out
  clear HC2
  rcases par_eq k1 r1 c1 q1 k2 r2 c2 q2 with h | hp2
  · exact absurd h hp
  · clear hp
    rcases hp2 with e1 | ⟨e1, e2⟩ | ⟨e1, e2, e3⟩ | ⟨e1, e2, e3, e4⟩
    all_goals
      go_wp2_with fail
      go_ret2
      exact ⟨none, 0, fun _ => none, fun _ => 0, rfl, pus_nil _ _ _ _ _ _, below_then HB1.out HBc.out⟩
set_option maxHeartbeats 2000000 in
set_option maxRecDepth 100000 in
theorem Diff_go (hck : Ck k1 r1 c1 q1 n1 F 0 N Q S) (hck2 : Ck k1 r1 c1 q1 n1 G 0 N2 Q2 S2) (x : Int) (ln : Nat) (D : Nat → Pt) (hx : ((∀ i, i < n1 → ¬ F i = G i → ¬ G i = []) ∧ x = 0 ∧ ln = (dfs Q F G n1).length ∧ D = fun j => (dfs Q F G n1).getD j p0) ∨ ((∃ i, i < n1 ∧ ¬ F i = G i ∧ G i = []) ∧ x = 90 ∧ ln = 0 ∧ D = fun _ => p0)) (lo1 lo2 : Option Addr) (cl1 cl2 : Nat) (A1 A2 : Nat → Option Addr) (E1 E2 : Nat → Nat) (w : World) (h1 : Lst w lo1 n1 A1 E1 F) (h2 : Lst w lo2 n1 A2 E2 G) :
    Calls Try.prog 14 #[.agg #[.int .i64 k1, .int .i64 r1, .int .i64 c1, .int .i64 q1, .slice lo1 n1 cl1], .agg #[.int .i64 k1, .int .i64 r1, .int .i64 c1, .int .i64 q1, .slice lo2 n1 cl2]] w fun e w' => ∃ po pc B K, e = .returned (.tuple #[.slice po ln pc, .int .i64 x]) ∧ Pus true w' w.heap.size po ln pc D B K ∧ Below w.heap.size w w' := by
  obtain ⟨hpm, hne, hfit⟩ := hck.ok rfl
  obtain ⟨hpm2, hne2, hfit2⟩ := hck2.ok rfl
  obtain ⟨hN1, hN2, hQ1, hQ, hS1, hS2, hn1, hn2⟩ := hpm.bounds
  have hSS2 := hpm2.bounds.2.2.2.2.2.1
  rw [← hne] at hn1 hn2
  have HGL : Hid (∀ i, i < n1 → (G i).length ≤ 1000000) := fun i hi => by have := hfit2 i hi; omega
  have HX : Hid (((∀ i, i < n1 → ¬ F i = G i → ¬ G i = []) ∧ x = 0 ∧ ln = (dfs Q F G n1).length ∧ D = fun j => (dfs Q F G n1).getD j p0) ∨ ((∃ i, i < n1 ∧ ¬ F i = G i ∧ G i = []) ∧ x = 90 ∧ ln = 0 ∧ D = fun _ => p0)) := hx
  obtain ⟨w0, hw0⟩ : ∃ w0, w0 = w.alloc (.cells #[.int .i64 k1, .int .i64 r1, .int .i64 c1, .int .i64 q1, .slice lo1 n1 cl1] 27) := ⟨_, rfl⟩
  obtain ⟨w1, hw1⟩ : ∃ w1, w1 = w0.alloc (.cells #[.int .i64 k1, .int .i64 r1, .int .i64 c1, .int .i64 q1, .slice lo2 n1 cl2] 27) := ⟨_, rfl⟩
  have b0 : Below w.heap.size w w0 := by rw [hw0]; exact below_alloc _ _
  have b1 : Below w0.heap.size w0 w1 := by rw [hw1]; exact below_alloc _ _
  have z0 : w0.heap.size = w.heap.size + 1 := by rw [hw0]; simp
  have z1 : w.heap.size + 2 ≤ w1.heap.size := by rw [hw1]; simp; omega
  have HB1 : Hid (Below w.heap.size w w1) := below_then b0 b1
  have S1 : Hid (∀ v, Below w1.heap.size w1 v → v.cell? ⟨w.heap.size, 0, none⟩ = some (.int .i64 k1) ∧ v.cell? ⟨w.heap.size, 1, none⟩ = some (.int .i64 r1) ∧ v.cell? ⟨w.heap.size, 2, none⟩ = some (.int .i64 c1) ∧ v.cell? ⟨w.heap.size, 3, none⟩ = some (.int .i64 q1) ∧ v.cell? ⟨w.heap.size, 4, none⟩ = some (.slice lo1 n1 cl1)) := fun v hv => img_held hw0 (below_then b1 hv)
  have S2 : Hid (∀ v, Below w1.heap.size w1 v → v.cell? ⟨w.heap.size + 1, 0, none⟩ = some (.int .i64 k1) ∧ v.cell? ⟨w.heap.size + 1, 1, none⟩ = some (.int .i64 r1) ∧ v.cell? ⟨w.heap.size + 1, 2, none⟩ = some (.int .i64 c1) ∧ v.cell? ⟨w.heap.size + 1, 3, none⟩ = some (.int .i64 q1) ∧ v.cell? ⟨w.heap.size + 1, 4, none⟩ = some (.slice lo2 n1 cl2)) := fun v hv => by rw [← z0]; exact img_held hw1 hv
  have HC := checked_any hck lo1 cl1 A1 E1 w1 (h1.below HB1.out)
  have HL1 : Hid (Lst w lo1 n1 A1 E1 F) := h1
  have HL2 : Hid (Lst w lo2 n1 A2 E2 G) := h2
  clear hck h1 h2 hx hpm hpm2 hne hne2 hfit hfit2
  go_enter Try.func14, Try.ntmps14
  go_wp2_with fail
  rw [← hw0, ← hw1]
  clear hw0 hw1 b0 b1 z0
  refine HC.mono ?_
  rintro e wa ⟨rfl, ha⟩
  obtain ⟨wb, hwb⟩ : ∃ wb, wb = wa.alloc (.cells #[.int .i64 (N : Int), .int .i64 (Q : Int), .int .i64 (S : Int)] 64) := ⟨_, rfl⟩
  have hab : Below wa.heap.size wa wb := by rw [hwb]; exact below_alloc _ _
  have HBb : Hid (Below w1.heap.size w1 wb) := below_then ha hab
  have SP : Hid (∀ v, Below wb.heap.size wb v → v.cell? ⟨wa.heap.size, 0, none⟩ = some (.int .i64 (N : Int)) ∧ v.cell? ⟨wa.heap.size, 1, none⟩ = some (.int .i64 (Q : Int)) ∧ v.cell? ⟨wa.heap.size, 2, none⟩ = some (.int .i64 (S : Int))) := fun v hv => shp_held hwb hv
  have HC2 := Check_img hck2 lo2 cl2 A2 E2 wb (HL2.out.below (below_then HB1.out HBb.out))
  obtain ⟨t0, t1, t2, t3, t4⟩ := S2.out wa ha
  have y0 := fun o => held t0 (below_alloc wa o)
  have y1 := fun o => held t1 (below_alloc wa o)
  have y2 := fun o => held t2 (below_alloc wa o)
  have y3 := fun o => held t3 (below_alloc wa o)
  have y4 := fun o => held t4 (below_alloc wa o)
  clear HC
  go_wp2_with fail
  rw [← hwb]
  clear hwb hab y0 y1 y2 y3 y4 t0 t1 t2 t3 t4
  refine HC2.mono ?_
  rintro e wc ⟨rfl, hc⟩
  have HBc : Hid (Below w1.heap.size w1 wc) := below_then HBb.out hc
  have SPc : Hid (∀ v, Below wc.heap.size wc v → v.cell? ⟨wa.heap.size, 0, none⟩ = some (.int .i64 (N : Int)) ∧ v.cell? ⟨wa.heap.size, 1, none⟩ = some (.int .i64 (Q : Int)) ∧ v.cell? ⟨wa.heap.size, 2, none⟩ = some (.int .i64 (S : Int))) := fun v hv => SP.out v (below_then hc hv)
  obtain ⟨s0, s1, s2, s3, s4⟩ := S1.out wc HBc.out
  obtain ⟨t0, t1, t2, t3, t4⟩ := S2.out wc HBc.out
  have ek : (k1 == k1) = true := by simp
  have er : (r1 == r1) = true := by simp
  have ec : (c1 == c1) = true := by simp
  have eq : (q1 == q1) = true := by simp
  have hz1c := HBc.out.size
  obtain ⟨i0, hinf, hz0, hz1, hz2⟩ := info_parts info35
  clear HC2 SP hc ha
  go_wp2_with fail
  clear s0 s1 s2 s3 t0 t1 t2 t3 ek er ec eq
  go_loopw [9, 10, 11, 33] (fun u _ _ y wr => ∃ (i : Nat) (po : Option Addr) (pc : Nat) (B : Nat → Option Addr) (K : Nat → Nat), i ≤ n1 ∧ y = .int .i64 i ∧ u = .slice po (dfs Q F G i).length pc ∧ Hid (Pus true wr wc.heap.size po (dfs Q F G i).length pc (fun j => (dfs Q F G i).getD j p0) B K) ∧ Hid (Below wc.heap.size wc wr) ∧ Hid (∀ j, j < i → ¬ F j = G j → ¬ G j = [])) (fun _ _ _ y _ => n1 - (intOf y).toNat)
  case atStart => exact ⟨0, none, 0, fun _ => none, fun _ => 0, Nat.zero_le _, rfl, rfl, pus_nil _ _ _ _ _ _, Below.refl _ _, fun j hj => absurd hj (Nat.not_lt_zero j)⟩
  case round =>
    obtain ⟨i, po, pc, B, K, hi, rfl, rfl, hs, hb, hg⟩ := hrel
    have hbw : Below w.heap.size w wr := below_then HB1.out (below_then HBc.out hb.out)
    by_cases hlt : i < n1
    · have HA := HL1.out.below hbw
      have HB := HL2.out.below hbw
      obtain ⟨b1, o1, rfl, hc1⟩ := HA.at_ (by omega)
      obtain ⟨b2, o2, rfl, hc2⟩ := HB.at_ (by omega)
      have u1 := hc1 i hlt
      have u2 := hc2 i hlt
      have v4 := (S1.out wr (below_then HBc.out hb.out)).2.2.2.2
      have HE := equal_any wr (A2 i) (A1 i) (G i).length (F i).length (E2 i) (E1 i) (G i) (F i) (HB.rd i hlt) (HA.rd i hlt) rfl rfl
      have i1 : (0 : Int) ≤ (i : Int) := by omega
      have i2 : (i : Int) < (n1 : Int) := by omega
      have hbr := hb.out.size
      by_cases he : F i = G i
      · have HEE : Hid (F i = G i) := he
        rw [decide_eq_true he.symm] at HE
        clear he hc1 hc2 HA HB
        go_wp2_with (go_at_call 48; refine HE.mono ?_; rintro e w' ⟨rfl, hw'⟩; obtain rfl := hw'.symm)
        go_roundw
        case rel =>
          have e1 := dfs_same (Q := Q) HEE.out
          exact ⟨i + 1, po, pc, B, K, by omega, by go_num, by rw [e1], by rw [e1]; exact hs, hb, fun j hj => by rcases Nat.lt_succ_iff_lt_or_eq.1 hj with g | rfl; exact hg.out j g; exact fun h => absurd HEE.out h⟩
        case measure => simp [intOf]; omega
      · have HEE : Hid (¬ F i = G i) := he
        rw [decide_eq_false (fun h => he h.symm)] at HE
        by_cases hg0 : G i = []
        · have HF : Hid (x = 90 ∧ ln = 0 ∧ D = fun _ => p0) := by
            rcases HX.out with ⟨h, _⟩ | ⟨_, h⟩
            · exact absurd hg0 (h i hlt he)
            · exact h
          have hl0 : (G i).length = 0 := by rw [hg0]; rfl
          rw [hl0] at u2 HE
          clear he hc1 hc2 HA HB hg0 hl0
          go_wp2_with (go_at_call 48; refine HE.mono ?_; rintro e w' ⟨rfl, hw'⟩; obtain rfl := hw'.symm)
          go_ret2
          obtain ⟨e1, e2, e3⟩ := HF.out
          rw [e1, e2, e3]
          exact ⟨none, 0, fun _ => none, fun _ => 0, rfl, pus_nil _ _ _ _ _ _, hbw⟩
        · have hl1 : ¬ (G i).length = 0 := fun h => hg0 (List.length_eq_zero_iff.1 h)
          have HG0 : Hid (¬ G i = []) := hg0
          have HGR : Hid (RdB wr (A2 i) (G i)) := HB.rd i hlt
          have hl2 := HGL.out i hlt
          obtain ⟨gl, hgl⟩ : ∃ gl, gl = (G i).length := ⟨_, rfl⟩
          have HGLN : Hid (gl = (G i).length) := hgl
          have HPU := put_any N Q S i (by omega) hQ (by omega) (A2 i) gl (E2 i) (G i) wr HGR.out hgl hl2
          rw [← hgl] at u2 HE hl1 HPU
          have hl3 : ((gl : Int) == 0) = false := by simp; omega
          obtain ⟨s0, s1, s2⟩ := SPc.out wr hb.out
          obtain ⟨L, hL⟩ : ∃ L, L = (dfs Q F G i).length := ⟨_, rfl⟩
          have HLL : Hid (L = (dfs Q F G i).length) := hL
          have hLi : L ≤ i := by rw [hL]; exact dfs_le Q F G i
          obtain ⟨pd, hpd⟩ : ∃ pd, pd = ((i / 2 / Q : Nat) : Int) := ⟨_, rfl⟩
          obtain ⟨pr, hpr⟩ : ∃ pr, pr = ((i / 2 % Q : Nat) : Int) := ⟨_, rfl⟩
          obtain ⟨ps, hps⟩ : ∃ ps, ps = ((i % 2 : Nat) : Int) := ⟨_, rfl⟩
          have HY : Hid ((⟨pd, pr, ps, G i⟩ : Pt) = ⟨((i / 2 / Q : Nat) : Int), ((i / 2 % Q : Nat) : Int), ((i % 2 : Nat) : Int), G i⟩) := by show _ = _; rw [hpd, hpr, hps]
          rw [← hpd, ← hpr, ← hps] at HPU
          rw [← hL]
          clear he hc1 hc2 HA HB hg0 hgl hL hpd hpr hps
          go_wp2_with (first | (go_at_call 48; refine HE.mono ?_; rintro e w' ⟨rfl, hw'⟩; obtain rfl := hw'.symm) | fail)
          refine HPU.mono ?_
          rintro e wx ⟨ao, cp, rfl, ho, hx⟩
          obtain ⟨XS, hXS⟩ : ∃ XS, XS = ptv (fun j => (dfs Q F G i).getD j p0) B K L := ⟨_, rfl⟩
          have HXS : Hid (XS = ptv (fun j => (dfs Q F G i).getD j p0) B K L) := hXS
          have hp1 := hs.out
          rw [← HLL.out] at hp1
          have HPX : Hid (∀ o, Pus true (wx.alloc o) wc.heap.size po L pc (fun j => (dfs Q F G i).getD j p0) B K) := fun o => hp1.below (below_then hx (below_alloc _ _))
          have HOB : Hid (∀ o, (wx.alloc o).ownsRow wc.heap.size 35 4 (.slice po L pc) L XS) := fun o => by rw [HXS.out]; exact (HPX.out o).1
          have HO : Hid (∀ o, OwC wr.heap.size (wx.alloc o) ao cp (G i)) := fun o => ho.below (below_alloc _ _)
          have HBX : Hid (Below wc.heap.size wc wx) := below_then hb.out hx
          have hzx := hx.size
          have HPB : Hid (∀ d, po = some d → d.block < wr.heap.size) := fun d hd => (hp1.1.lt d.block (by subst hd; rfl)).2
          clear hp1 hXS ho hx HPU HE
          go_wp2_with (at_builtin; refine wpList_append_lies _ (by rfl) (.tmp 48) (.tmp 53) 32 (by rfl) wc.heap.size 35 i0 (.agg #[.int .i64 0, .int .i64 0, .int .i64 0, .slice none 0 0]) 4 48 Try.underlying32 hinf hz0 hz1 hz2 (by rfl) (by decide) (.slice po L pc) L XS (by rfl) (HOB.out _) ⟨wx.heap.size, 0, none⟩ 1 1 [.int .i64 pd, .int .i64 pr, .int .i64 ps, .slice ao gl cp] (by rfl) (by rfl) (World.news_of_block (heap_alloc_new wx _)) (by simp [Value.oneCell']) (by decide) (by unfold maxLen; omega) (by omega) (by simp; omega) (wx.heap.size + 1) (by simp) ?_; intro g2 cap2 w2 hown2 hgrow2 hwh2 _; have HST : Hid (Pus true w2 wc.heap.size (some ⟨g2, 0, none⟩) (L + 1) cap2 (upd L ⟨pd, pr, ps, G i⟩ (fun j => (dfs Q F G i).getD j p0)) (upd L ao B) (upd L cp K) ∧ Below wc.heap.size wc w2) := ⟨Pus.snoc (y := ⟨pd, pr, ps, G i⟩) HXS.out (HPX.out _).2 (HO.out _).rd (fun a ha => by have h := (HO.out (.cells #[] 3)).at_ ha; have h3 := ((HO.out (.cells #[.int .i64 pd, .int .i64 pr, .int .i64 ps, .slice ao gl cp] 35)).at_ ha).2; exact ⟨by omega, h3, fun d hd => by have := HPB.out d hd; omega⟩) (HO.out (.cells #[] 3)).nil (fun _ => (HO.out _).mono (by omega)) (by rw [← HGLN.out]; exact hown2) hgrow2 (by simpa using hwh2), (HBX.out.alloc HBX.out.size _).grown hgrow2 (by simp; omega) (fun r hr => ((HOB.out (.cells #[] 3)).lt r hr).1)⟩; clear hown2 hgrow2 hwh2)
          go_roundw
          case rel =>
            have e1 := dfs_new (Q := Q) HEE.out
            have e2 : (dfs Q F G (i + 1)).length = L + 1 := by rw [e1, List.length_append, ← HLL.out]; rfl
            refine ⟨i + 1, some ⟨g2, 0, none⟩, cap2, upd L ao B, upd L cp K, by omega, by go_num, by rw [e2], ?_, HST.out.2, fun j hj => ?_⟩
            · show Pus _ _ _ _ _ _ _ _ _
              rw [e2]
              refine HST.out.1.congr fun j hj => ?_
              rw [e1, ← HY.out, ← getD_snoc _ _ j (by rw [← HLL.out]; exact hj), ← HLL.out]
            · rcases Nat.lt_succ_iff_lt_or_eq.1 hj with g | rfl
              · exact hg.out j g
              · exact fun _ => HG0.out
          case measure => simp [intOf]; omega
    · obtain rfl : i = n1 := by omega
      have HF : Hid (x = 0 ∧ ln = (dfs Q F G i).length ∧ D = fun j => (dfs Q F G i).getD j p0) := by
        rcases HX.out with ⟨_, h⟩ | ⟨⟨j, h1, h2, h3⟩, _⟩
        · exact h
        · exact absurd h3 (hg.out j h1 h2)
      go_wp2_with fail
      go_ret2
      obtain ⟨e1, e2, e3⟩ := HF.out
      rw [e1, e2, e3]
      exact ⟨po, pc, B, K, rfl, hs.out.mono (by omega), hbw⟩
end
theorem Diff_any {k1 r1 c1 q1 : Int} {n1 : Nat} {F : Nat → List UInt8} {k2 r2 c2 q2 : Int} {n2 : Nat} {G : Nat → List UInt8} {x : Int} {ln : Nat} {D : Nat → Pt} (h : Dff k1 r1 c1 q1 n1 F k2 r2 c2 q2 n2 G x ln D) (lo1 lo2 : Option Addr) (cl1 cl2 : Nat) (A1 A2 : Nat → Option Addr) (E1 E2 : Nat → Nat) (w : World) (h1 : Lst w lo1 n1 A1 E1 F) (h2 : Lst w lo2 n2 A2 E2 G) :
    Calls Try.prog 14 #[.agg #[.int .i64 k1, .int .i64 r1, .int .i64 c1, .int .i64 q1, .slice lo1 n1 cl1], .agg #[.int .i64 k2, .int .i64 r2, .int .i64 c2, .int .i64 q2, .slice lo2 n2 cl2]] w fun e w' => ∃ po pc B K, e = .returned (.tuple #[.slice po ln pc, .int .i64 x]) ∧ Pus true w' w.heap.size po ln pc D B K ∧ Below w.heap.size w w' := by
  obtain ⟨y, N, Q, S, y2, N2, Q2, S2, ha, hb, hc⟩ := h
  rcases hc with ⟨rfl, rfl, ⟨rfl, rfl, rfl, rfl⟩, g1, g2, g3, g4⟩ | ⟨⟨rfl, rfl⟩, hc⟩
  · obtain ⟨p1, e1, _⟩ := ha.ok rfl
    obtain ⟨p2, e2, _⟩ := hb.ok rfl
    obtain ⟨_, a1, a2, _⟩ := p1
    obtain ⟨_, a3, a4, _⟩ := p2
    obtain rfl : N = N2 := by omega
    obtain rfl : Q = Q2 := by omega
    obtain rfl : n1 = n2 := by rw [e1, e2]
    exact Diff_go ha hb x ln D (.inl ⟨g1, g2, g3, g4⟩) lo1 lo2 cl1 cl2 A1 A2 E1 E2 w h1 h2
  · rcases hc with ⟨g1, rfl⟩ | ⟨rfl, g1, rfl⟩ | ⟨rfl, rfl, g1, rfl⟩ | ⟨rfl, rfl, ⟨rfl, rfl, rfl, rfl⟩, g1, rfl⟩
    · exact Diff_e1 ha g1 lo1 lo2 cl1 cl2 A1 E1 w h1
    · exact Diff_e2 ha hb g1 lo1 lo2 cl1 cl2 A1 A2 E1 E2 w h1 h2
    · exact Diff_e3 ha hb g1 lo1 lo2 cl1 cl2 A1 A2 E1 E2 w h1 h2
    · obtain ⟨p1, e1, _⟩ := ha.ok rfl
      obtain ⟨p2, e2, _⟩ := hb.ok rfl
      obtain ⟨_, a1, a2, _⟩ := p1
      obtain ⟨_, a3, a4, _⟩ := p2
      obtain rfl : N = N2 := by omega
      obtain rfl : Q = Q2 := by omega
      obtain rfl : n1 = n2 := by rw [e1, e2]
      exact Diff_go ha hb 90 0 _ (.inr ⟨g1, rfl, rfl, rfl⟩) lo1 lo2 cl1 cl2 A1 A2 E1 E2 w h1 h2
end Go.Proofs.Ytenlfhdchflnjaa
