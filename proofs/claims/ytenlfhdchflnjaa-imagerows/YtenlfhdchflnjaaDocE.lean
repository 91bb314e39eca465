/- Whether two images, two lists of raw writes are the same, as the document tells it. -/
import Derived.Test.YtenlfhdchflnjaaDocA
import Derived.Test.YtenlfhdchflnjaaImgS
namespace Go.Proofs.Ytenlfhdchflnjaa
open Go.RowKit

set_option maxHeartbeats 2000000 in
set_option maxRecDepth 100000 in
theorem Same_doc {k1 r1 c1 q1 : Int} {n1 : Nat} {F1 : Nat → List UInt8} {k2 r2 c2 q2 : Int} {n2 : Nat} {F2 : Nat → List UInt8} {x : Bool} (h : Sme k1 r1 c1 q1 n1 F1 k2 r2 c2 q2 n2 F2 x) (lo1 lo2 : Option Addr) (cl1 cl2 : Nat) (A1 A2 : Nat → Option Addr) (C1 C2 : Nat → Nat) (w : World) (hn : n1 ≤ 1000000) (h1 : Lst w lo1 n1 A1 C1 F1) (h2 : Lst w lo2 n2 A2 C2 F2) :
    Calls Try.prog 26 #[.agg #[.int .i64 k1, .int .i64 r1, .int .i64 c1, .int .i64 q1, .slice lo1 n1 cl1], .agg #[.int .i64 k2, .int .i64 r2, .int .i64 c2, .int .i64 q2, .slice lo2 n2 cl2]] w fun e w' => e = .returned (.bool x) ∧ Below w.heap.size w w' := by
  obtain ⟨w1, hw1⟩ : ∃ w1, w1 = w.alloc (.cells #[.int .i64 k1, .int .i64 r1, .int .i64 c1, .int .i64 q1, .slice lo1 n1 cl1] 27) := ⟨_, rfl⟩
  obtain ⟨w2, hw2⟩ : ∃ w2, w2 = w1.alloc (.cells #[.int .i64 k2, .int .i64 r2, .int .i64 c2, .int .i64 q2, .slice lo2 n2 cl2] 27) := ⟨_, rfl⟩
  have b1 : Below w.heap.size w w1 := by rw [hw1]; exact below_alloc _ _
  have b2 : Below w1.heap.size w1 w2 := by rw [hw2]; exact below_alloc _ _
  have s1 : w1.heap.size = w.heap.size + 1 := by rw [hw1]; simp
  have HB : Hid (Below w.heap.size w w2) := below_then b1 b2
  have ha := (img_held hw1 b2).2.2.2.2
  have hb := (img_held hw2 (Below.refl _ _)).2.2.2.2
  rw [s1] at hb
  rcases par_eq k1 r1 c1 q1 k2 r2 c2 q2 with ⟨rfl, rfl, rfl, rfl⟩ | hp
  · have HX : Hid ((x = true ∧ n1 = n2 ∧ ∀ i, i < n1 → F1 i = F2 i) ∨ (x = false ∧ ¬ (n1 = n2 ∧ ∀ i, i < n1 → F1 i = F2 i))) := by
      rcases h with ⟨a, _, _, _, _, b⟩ | ⟨a, b⟩
      · exact .inl ⟨a, b⟩
      · exact .inr ⟨a, fun h => b ⟨rfl, rfl, rfl, rfl, h⟩⟩
    have ek : (k1 == k1) = true := by simp
    have er : (r1 == r1) = true := by simp
    have ec : (c1 == c1) = true := by simp
    have eq : (q1 == q1) = true := by simp
    have HT1 : Hid (Lst w2 lo1 n1 A1 C1 F1) := h1.below HB.out
    have HT2 : Hid (Lst w2 lo2 n2 A2 C2 F2) := h2.below HB.out
    have HA : Hid (w2.cell? ⟨w.heap.size, 4, none⟩ = some (.slice lo1 n1 cl1)) := ha
    have HBB : Hid (w2.cell? ⟨w.heap.size + 1, 4, none⟩ = some (.slice lo2 n2 cl2)) := hb
    clear h h1 h2 ha hb b1 b2 s1
    by_cases hnn : n1 = n2
    · obtain rfl : n1 = n2 := hnn
      have e6 : ((n1 : Int) != (n1 : Int)) = false := by simp
      go_enter Try.func26, Try.ntmps26
      go_wp2_with fail
      rw [← hw1, ← hw2]
      clear hw1 hw2
      go_loopw [5] (fun y wr => ∃ i : Nat, i ≤ n1 ∧ y = .int .i64 i ∧ Hid (∃ q, wr = w2.drewN q) ∧ Hid (∀ j, j < i → F1 j = F2 j)) (fun y _ => n1 - (intOf y).toNat)
      case atStart => exact ⟨0, Nat.zero_le _, rfl, ⟨0, rfl⟩, fun j hj => absurd hj (by omega)⟩
      case round =>
        obtain ⟨i, hi, rfl, hq, hg⟩ := hrel
        have hdr : ∀ a, wr.cell? a = w2.cell? a := by obtain ⟨q, rfl⟩ := hq.out; exact fun _ => rfl
        have z1 : wr.cell? ⟨w.heap.size, 4, none⟩ = some (.slice lo1 n1 cl1) := (hdr _).trans HA.out
        have z2 : wr.cell? ⟨w.heap.size + 1, 4, none⟩ = some (.slice lo2 n1 cl2) := (hdr _).trans HBB.out
        by_cases hlt : i < n1
        · have hbd : ∀ m, Below w2.heap.size w2 (wr.drewN m) := by obtain ⟨q, rfl⟩ := hq.out; exact fun m => ⟨rfl, rfl, rfl, Nat.le_refl _, fun _ _ => rfl⟩
          obtain ⟨b1, o1, rfl, hc1⟩ := HT1.out.at_ (by omega)
          obtain ⟨b2, o2, rfl, hc2⟩ := HT2.out.at_ (by omega)
          have d1 : wr.cell? ⟨b1, o1 + i, none⟩ = some (.slice (A1 i) (F1 i).length (C1 i)) := (hdr _).trans (hc1 i hlt)
          have d2 : wr.cell? ⟨b2, o2 + i, none⟩ = some (.slice (A2 i) (F2 i).length (C2 i)) := (hdr _).trans (hc2 i hlt)
          have v1 : ∀ m, (convert 33 9 (.slice (A1 i) (F1 i).length (C1 i))).run Try.prog (wr.drewN m) = .ok (.string (sOf (F1 i))) (wr.drewN m) := fun m => conv_any ((HT1.out.rd _ hlt).below (hbd m)) _ _ rfl
          have v2 : ∀ m, (convert 33 9 (.slice (A2 i) (F2 i).length (C2 i))).run Try.prog (wr.drewN m) = .ok (.string (sOf (F2 i))) (wr.drewN m) := fun m => conv_any ((HT2.out.rd _ hlt).below (hbd m)) _ _ rfl
          have i1 : (0 : Int) ≤ (i : Int) := by omega
          have i2 : (i : Int) < (n1 : Int) := by omega
          have s1 := str_eq (F1 i) (F2 i)
          clear hdr hbd hc1 hc2
          by_cases g1 : F1 i = F2 i
          · have HG : Hid (F1 i = F2 i) := g1
            rw [decide_eq_true g1] at s1
            clear g1
            go_wp2_with fail
            go_quiet (fail)
            go_wp2
            go_roundw
            case rel =>
              obtain ⟨q, hq2⟩ := hq.out
              refine ⟨i + 1, by omega, by go_num, ⟨q + nq, by rw [hq2]; simp [World.drewN, Nat.add_assoc]⟩, fun j hj => ?_⟩
              by_cases e0 : j = i
              · rw [e0]; exact HG.out
              · exact hg.out j (by omega)
            case measure => simp [intOf]; omega
          · have HF : Hid (x = false) := by
              rcases HX.out with ⟨_, _, h⟩ | ⟨h, _⟩
              · exact absurd (h i hlt) g1
              · exact h
            rw [decide_eq_false g1] at s1
            clear g1
            go_wp2_with fail
            go_quiet (fail)
            go_wp2
            go_ret
            obtain ⟨q, rfl⟩ := hq.out
            exact ⟨ret_bool HF.out.symm, below_then HB.out (below_then (below_q (q := q) rfl) ⟨rfl, rfl, rfl, Nat.le_refl _, fun _ _ => rfl⟩)⟩
        · obtain rfl : i = n1 := by omega
          have HF : Hid (x = true) := by
            rcases HX.out with ⟨h, _⟩ | ⟨_, hne⟩
            · exact h
            · exact absurd ⟨by trivial, fun j hj => hg.out j hj⟩ hne
          clear hdr
          go_wp2
          go_ret
          obtain ⟨q, rfl⟩ := hq.out
          exact ⟨ret_bool HF.out.symm, below_then HB.out (below_q rfl)⟩
    · have HF : Hid (x = false) := by
        rcases HX.out with ⟨_, h, _⟩ | ⟨h, _⟩
        · exact absurd h hnn
        · exact h
      have e6 : ((n1 : Int) != (n2 : Int)) = true := by simp; omega
      go_enter Try.func26, Try.ntmps26
      go_wp2_with fail
      rw [← hw1, ← hw2]
      go_ret
      exact ⟨ret_bool HF.out.symm, HB.out⟩
  · have HF : Hid (x = false) := by
      rcases h with ⟨_, a, b, c, d, _⟩ | ⟨a, _⟩
      · subst a b c d; simp at hp
      · exact a
    clear h h1 h2 ha hb s1
    rcases hp with e1 | ⟨e1, e2⟩ | ⟨e1, e2, e3⟩ | ⟨e1, e2, e3, e4⟩
    all_goals
      go_enter Try.func26, Try.ntmps26
      go_wp2_with fail
      rw [← hw1, ← hw2]
      go_ret
      exact ⟨ret_bool HF.out.symm, HB.out⟩
set_option maxHeartbeats 2000000 in
set_option maxRecDepth 100000 in
/-- Two lists of the same raw writes. -/
theorem SamePuts_doc (po1 po2 : Option Addr) (n c1 c2 : Nat) (D : Nat → Pt) (B1 B2 : Nat → Option Addr) (K1 K2 : Nat → Nat) {Z1 Z2 : Nat → Prop} (hn : n ≤ 1000000) (w : World) (h1 : Pts w Z1 po1 n D B1 K1) (h2 : Pts w Z2 po2 n D B2 K2) :
    Calls Try.prog 29 #[.slice po1 n c1, .slice po2 n c2] w fun e w' => e = .returned (.bool true) ∧ Below w.heap.size w w' := by
  have HT1 : Hid (Pts w Z1 po1 n D B1 K1) := h1
  have HT2 : Hid (Pts w Z2 po2 n D B2 K2) := h2
  have e6 : ((n : Int) != (n : Int)) = false := by simp
  clear h1 h2
  go_enter Try.func29, Try.ntmps29
  go_wp2_with fail
  go_loopw [5] (fun y wr => ∃ i : Nat, i ≤ n ∧ y = .int .i64 i ∧ Hid (∃ q, wr = w.drewN q)) (fun y _ => n - (intOf y).toNat)
  case atStart => exact ⟨0, Nat.zero_le _, rfl, ⟨0, rfl⟩⟩
  case round =>
    obtain ⟨i, hi, rfl, hq⟩ := hrel
    by_cases hlt : i < n
    · have hdr : ∀ a, wr.cell? a = w.cell? a := by obtain ⟨q, rfl⟩ := hq.out; exact fun _ => rfl
      have hbd : ∀ m, Below w.heap.size w (wr.drewN m) := by obtain ⟨q, rfl⟩ := hq.out; exact fun m => ⟨rfl, rfl, rfl, Nat.le_refl _, fun _ _ => rfl⟩
      obtain ⟨b1, o1, rfl, hc1⟩ := HT1.out.at_ (by omega)
      obtain ⟨b2, o2, rfl, hc2⟩ := HT2.out.at_ (by omega)
      have v1 : ∀ m, (convert 33 9 (.slice (B1 i) (D i).b.length (K1 i))).run Try.prog (wr.drewN m) = .ok (.string (sOf (D i).b)) (wr.drewN m) := fun m => conv_any ((HT1.out.rd _ hlt).below (hbd m)) _ _ rfl
      have v2 : ∀ m, (convert 33 9 (.slice (B2 i) (D i).b.length (K2 i))).run Try.prog (wr.drewN m) = .ok (.string (sOf (D i).b)) (wr.drewN m) := fun m => conv_any ((HT2.out.rd _ hlt).below (hbd m)) _ _ rfl
      have s1 := str_eq (D i).b (D i).b
      rw [decide_eq_true rfl] at s1
      obtain ⟨x0, x1, x2, x3⟩ := hc1 i hlt
      obtain ⟨y0, y1, y2, y3⟩ := hc2 i hlt
      rw [← hdr] at x0 x1 x2 x3 y0 y1 y2 y3
      obtain ⟨y, hy⟩ : ∃ y, y = D i := ⟨_, rfl⟩
      rw [← hy] at x0 x1 x2 x3 y0 y1 y2 y3 v1 v2 s1
      have t0 : (y.d != y.d) = false := by simp
      have t1 : (y.r != y.r) = false := by simp
      have t2 : (y.s != y.s) = false := by simp
      have i1 : (0 : Int) ≤ (i : Int) := by omega
      have i2 : (i : Int) < (n : Int) := by omega
      clear hdr hbd hc1 hc2 hy
      go_wp2_with fail
      go_quiet (fail)
      go_wp2
      go_roundw
      case rel =>
        obtain ⟨q, hq2⟩ := hq.out
        exact ⟨i + 1, by omega, by go_num, ⟨q + nq, by rw [hq2]; simp [World.drewN, Nat.add_assoc]⟩⟩
      case measure => simp [intOf]; omega
    · obtain rfl : i = n := by omega
      go_wp2
      go_ret
      obtain ⟨q, rfl⟩ := hq.out
      exact ⟨rfl, below_q rfl⟩
end Go.Proofs.Ytenlfhdchflnjaa
