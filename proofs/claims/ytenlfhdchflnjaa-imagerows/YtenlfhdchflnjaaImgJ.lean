/- Whether two images are the same; a blank image; by the program. -/
import Derived.Test.YtenlfhdchflnjaaImgI
namespace Go.Proofs.Ytenlfhdchflnjaa
open Go.RowKit

theorem str_eq (X Y : List UInt8) : ((sOf X).toList == (sOf Y).toList) = decide (X = Y) := by
  rw [sOf_list, sOf_list]
  by_cases h : X = Y
  · subst h; simp
  · rw [decide_eq_false h]; simpa using h
set_option maxHeartbeats 400000 in
theorem equal_any (w : World) (ao bo : Option Addr) (n m ca cb : Nat) (X Y : List UInt8) (ha : RdB w ao X) (hb : RdB w bo Y) (hn : n = X.length) (hm : m = Y.length) :
    Calls Try.prog 48 #[.slice ao n ca, .slice bo m cb] w fun e w' => e = .returned (.bool (decide (X = Y))) ∧ w' = w := by
  have v1 := conv_any ha n ca hn
  have v2 := conv_any hb m cb hm
  rw [← str_eq]
  clear ha hb hn hm
  go_enter Try.func48, Try.ntmps48
  go_wp2
  go_ret
  exact ⟨rfl, rfl⟩
set_option maxHeartbeats 1000000 in
set_option maxRecDepth 100000 in
theorem eqfunc_any (w : World) (ao bo : Option Addr) (n m ca cb : Nat) (A B : Nat → Option Addr) (C D : Nat → Nat) (F G : Nat → List UInt8) (hn : n ≤ 1000000) (ha : Lst w ao n A C F) (hb : Lst w bo m B D G) (x : Bool) (hx : (x = true ∧ n = m ∧ ∀ i, i < n → F i = G i) ∨ (x = false ∧ ¬ (n = m ∧ ∀ i, i < n → F i = G i))) :
    Calls Try.prog 59 #[.slice ao n ca, .slice bo m cb, .func (.func 48) #[] #[]] w fun e w' => e = .returned (.bool x) ∧ w' = w := by
  have HA : Hid (Lst w ao n A C F) := ha
  have HB : Hid (Lst w bo m B D G) := hb
  have HX : Hid ((x = true ∧ n = m ∧ ∀ i, i < n → F i = G i) ∨ (x = false ∧ ¬ (n = m ∧ ∀ i, i < n → F i = G i))) := hx
  clear ha hb hx
  by_cases hnm : n = m
  · subst hnm
    have hbq : ((n : Int) != (n : Int)) = false := by simp
    go_enter Try.func59, Try.ntmps59
    go_wp2
    go_loop [17] (fun x => ∃ i : Nat, i ≤ n ∧ x = .int .i64 i ∧ Hid (∀ j, j < i → F j = G j)) (fun x => n - (intOf x).toNat)
    case atStart => exact ⟨0, Nat.zero_le _, rfl, fun j hj => absurd hj (Nat.not_lt_zero j)⟩
    case round =>
      obtain ⟨i, hi, rfl, hg⟩ := hrel
      by_cases hlt : i < n
      · obtain ⟨b, off, rfl, hca⟩ := HA.out.at_ (by omega)
        obtain ⟨b', off', rfl, hcb⟩ := HB.out.at_ (by omega)
        have c1 := hca i hlt
        have c2 := hcb i hlt
        have HE := equal_any w (A i) (B i) (F i).length (G i).length (C i) (D i) (F i) (G i) (HA.out.rd i hlt) (HB.out.rd i hlt) rfl rfl
        clear hca hcb
        have i1 : (0 : Int) ≤ (i : Int) := by omega
        have i2 : (i : Int) < (n : Int) := by omega
        by_cases he : F i = G i
        · have HEE : Hid (F i = G i) := he
          rw [decide_eq_true he] at HE
          clear he
          go_wp2_with (go_at_call 48; refine HE.mono ?_; rintro e w' ⟨rfl, rfl⟩)
          go_round
          case rel => exact ⟨i + 1, by omega, by go_num, fun j hj => by rcases Nat.lt_succ_iff_lt_or_eq.1 hj with g | rfl; exact hg.out j g; exact HEE.out⟩
          case measure => simp [intOf]; omega
        · have HEE : Hid (x = false) := by
            rcases HX.out with ⟨_, _, h⟩ | ⟨h, _⟩
            · exact absurd (h i hlt) he
            · exact h
          rw [decide_eq_false he] at HE
          clear he
          go_wp2_with (go_at_call 48; refine HE.mono ?_; rintro e w' ⟨rfl, rfl⟩)
          go_ret
          exact ⟨ret_bool HEE.out.symm, rfl⟩
      · obtain rfl : i = n := by omega
        have HEE : Hid (x = true) := by
          rcases HX.out with ⟨h, _⟩ | ⟨_, h⟩
          · exact h
          · exact absurd ⟨trivial, hg.out⟩ h
        go_wp2
        go_ret
        exact ⟨ret_bool HEE.out.symm, rfl⟩
  · have HEE : Hid (x = false) := by
      rcases HX.out with ⟨_, h, _⟩ | ⟨h, _⟩
      · exact absurd h hnm
      · exact h
    have hbq : ((n : Int) != (m : Int)) = true := by simp; omega
    clear hnm
    go_enter Try.func59, Try.ntmps59
    go_wp2
    go_ret
    exact ⟨ret_bool HEE.out.symm, rfl⟩
/-- What Same answers of two images. -/
def Sme (k1 r1 c1 q1 : Int) (n1 : Nat) (F1 : Nat → List UInt8) (k2 r2 c2 q2 : Int) (n2 : Nat) (F2 : Nat → List UInt8) (x : Bool) : Prop :=
  (x = true ∧ k1 = k2 ∧ r1 = r2 ∧ c1 = c2 ∧ q1 = q2 ∧ n1 = n2 ∧ ∀ i, i < n1 → F1 i = F2 i) ∨ (x = false ∧ ¬ (k1 = k2 ∧ r1 = r2 ∧ c1 = c2 ∧ q1 = q2 ∧ n1 = n2 ∧ ∀ i, i < n1 → F1 i = F2 i))
theorem sme_ex (k1 r1 c1 q1 : Int) (n1 : Nat) (F1 : Nat → List UInt8) (k2 r2 c2 q2 : Int) (n2 : Nat) (F2 : Nat → List UInt8) : ∃ x, Sme k1 r1 c1 q1 n1 F1 k2 r2 c2 q2 n2 F2 x := by
  by_cases h : k1 = k2 ∧ r1 = r2 ∧ c1 = c2 ∧ q1 = q2 ∧ n1 = n2 ∧ ∀ i, i < n1 → F1 i = F2 i
  · exact ⟨true, .inl ⟨rfl, h⟩⟩
  · exact ⟨false, .inr ⟨rfl, h⟩⟩
theorem sme_refl (k1 r1 c1 q1 : Int) (n1 : Nat) (F1 : Nat → List UInt8) : Sme k1 r1 c1 q1 n1 F1 k1 r1 c1 q1 n1 F1 true := .inl ⟨rfl, rfl, rfl, rfl, rfl, rfl, fun _ _ => rfl⟩
/-- The parameters of two images, and the first that is unlike. -/
theorem par_eq (k1 r1 c1 q1 k2 r2 c2 q2 : Int) : (k1 = k2 ∧ r1 = r2 ∧ c1 = c2 ∧ q1 = q2) ∨ ((k1 == k2) = false) ∨ ((k1 == k2) = true ∧ (r1 == r2) = false) ∨ ((k1 == k2) = true ∧ (r1 == r2) = true ∧ (c1 == c2) = false) ∨ ((k1 == k2) = true ∧ (r1 == r2) = true ∧ (c1 == c2) = true ∧ (q1 == q2) = false) := by
  simp only [beq_eq_false_iff_ne, beq_iff_eq]
  omega
set_option maxHeartbeats 1000000 in
set_option maxRecDepth 100000 in
theorem Same_img {k1 r1 c1 q1 : Int} {n1 : Nat} {F1 : Nat → List UInt8} {k2 r2 c2 q2 : Int} {n2 : Nat} {F2 : Nat → List UInt8} {x : Bool} (h : Sme k1 r1 c1 q1 n1 F1 k2 r2 c2 q2 n2 F2 x) (lo1 lo2 : Option Addr) (cl1 cl2 : Nat) (A1 A2 : Nat → Option Addr) (C1 C2 : Nat → Nat) (w : World) (hn : n1 ≤ 1000000) (h1 : Lst w lo1 n1 A1 C1 F1) (h2 : Lst w lo2 n2 A2 C2 F2) :
    Calls Try.prog 34 #[.agg #[.int .i64 k1, .int .i64 r1, .int .i64 c1, .int .i64 q1, .slice lo1 n1 cl1], .agg #[.int .i64 k2, .int .i64 r2, .int .i64 c2, .int .i64 q2, .slice lo2 n2 cl2]] w fun e w' => e = .returned (.bool x) ∧ Below w.heap.size w w' := by
  obtain ⟨w1, hw1⟩ : ∃ w1, w1 = w.alloc (.cells #[.int .i64 k1, .int .i64 r1, .int .i64 c1, .int .i64 q1, .slice lo1 n1 cl1] 27) := ⟨_, rfl⟩
  obtain ⟨w2, hw2⟩ : ∃ w2, w2 = w1.alloc (.cells #[.int .i64 k2, .int .i64 r2, .int .i64 c2, .int .i64 q2, .slice lo2 n2 cl2] 27) := ⟨_, rfl⟩
  have b1 : Below w.heap.size w w1 := by rw [hw1]; exact below_alloc _ _
  have b2 : Below w1.heap.size w1 w2 := by rw [hw2]; exact below_alloc _ _
  have HB : Hid (Below w.heap.size w w2) := below_then b1 b2
  rcases par_eq k1 r1 c1 q1 k2 r2 c2 q2 with ⟨rfl, rfl, rfl, rfl⟩ | hp
  · have HE := eqfunc_any w2 lo1 lo2 n1 n2 cl1 cl2 A1 A2 C1 C2 F1 F2 hn (h1.below HB.out) (h2.below HB.out) x (by
      rcases h with ⟨a, _, _, _, _, b⟩ | ⟨a, b⟩
      · exact .inl ⟨a, b⟩
      · exact .inr ⟨a, fun h => b ⟨rfl, rfl, rfl, rfl, h⟩⟩)
    have ek : (k1 == k1) = true := by simp
    have er : (r1 == r1) = true := by simp
    have ec : (c1 == c1) = true := by simp
    have eq : (q1 == q1) = true := by simp
    clear h h1 h2
    go_enter Try.func34, Try.ntmps34
    go_wp2_with fail
    rw [← hw1, ← hw2]
    clear hw1 hw2
    refine HE.mono ?_
    rintro e w' ⟨rfl, hw'⟩
    obtain rfl := hw'.symm
    go_wp2_with fail
    go_ret
    exact ⟨rfl, HB.out⟩
  · have HF : Hid (x = false) := by
      rcases h with ⟨_, a, b, c, d, _⟩ | ⟨a, _⟩
      · subst a b c d; simp at hp
      · exact a
    clear h h1 h2
    rcases hp with e1 | ⟨e1, e2⟩ | ⟨e1, e2, e3⟩ | ⟨e1, e2, e3, e4⟩
    all_goals
      go_enter Try.func34, Try.ntmps34
      go_wp2_with fail
      rw [← hw1, ← hw2]
      go_ret
      exact ⟨ret_bool HF.out.symm, HB.out⟩
/-- What Blank answers. -/
def Bln (k r c q x k' r' c' q' : Int) (n' : Nat) : Prop :=
  (x = 2 ∧ may k r c q = false ∧ k' = 0 ∧ r' = 0 ∧ c' = 0 ∧ q' = 0 ∧ n' = 0) ∨ (x = 0 ∧ k' = k ∧ r' = r ∧ c' = c ∧ q' = q ∧ ∃ N Q S, Pm k r c q N Q S ∧ n' = N * Q * 2)
theorem bln_ex (k r c q : Int) : ∃ x k' r' c' q' n', Bln k r c q x k' r' c' q' n' := by
  cases hm : may k r c q with
  | false => exact ⟨2, 0, 0, 0, 0, 0, .inl ⟨rfl, hm, rfl, rfl, rfl, rfl, rfl⟩⟩
  | true =>
    obtain ⟨N, Q, S, hp⟩ := pm_of hm
    exact ⟨0, k, r, c, q, _, .inr ⟨rfl, rfl, rfl, rfl, rfl, N, Q, S, hp, rfl⟩⟩
def PW (w w1 : World) (k r c q : Int) : Prop := ∃ w0, w0 = w.alloc (.cells #[.int .i64 k, .int .i64 r, .int .i64 c, .int .i64 q] 24) ∧ w1 = w0.alloc (.cells #[.int .i64 0, .int .i64 0, .int .i64 0, .int .i64 0, .slice none 0 0] 27)
theorem pw_held {w w1 v : World} {k r c q : Int} (h : PW w w1 k r c q) (hv : Below w1.heap.size w1 v) : (v.cell? ⟨w.heap.size, 0, none⟩ = some (.int .i64 k) ∧ v.cell? ⟨w.heap.size, 1, none⟩ = some (.int .i64 r) ∧ v.cell? ⟨w.heap.size, 2, none⟩ = some (.int .i64 c) ∧ v.cell? ⟨w.heap.size, 3, none⟩ = some (.int .i64 q)) ∧ (v.cell? ⟨w.heap.size + 1, 0, none⟩ = some (.int .i64 0) ∧ v.cell? ⟨w.heap.size + 1, 1, none⟩ = some (.int .i64 0) ∧ v.cell? ⟨w.heap.size + 1, 2, none⟩ = some (.int .i64 0) ∧ v.cell? ⟨w.heap.size + 1, 3, none⟩ = some (.int .i64 0) ∧ v.cell? ⟨w.heap.size + 1, 4, none⟩ = some (.slice none 0 0)) ∧ ∀ i, v.frozen? ⟨w.heap.size + 1, i, none⟩ = false := by
  obtain ⟨w0, h0, h1⟩ := h
  have b1 : Below w0.heap.size w0 w1 := by rw [h1]; exact below_alloc _ _
  have z0 : w0.heap.size = w.heap.size + 1 := by rw [h0]; simp
  refine ⟨par_held h0 (below_then b1 hv), ?_⟩
  rw [← z0]
  exact ⟨img_held h1 hv, blk_free h1 hv⟩
theorem pw_below {w w1 : World} {k r c q : Int} (h : PW w w1 k r c q) : Below w.heap.size w w1 ∧ w.heap.size + 2 ≤ w1.heap.size := by
  obtain ⟨w0, h0, h1⟩ := h
  have z0 : w0.heap.size = w.heap.size + 1 := by rw [h0]; simp
  exact ⟨by rw [h1, h0]; exact below_then (below_alloc _ _) (below_alloc _ _), by rw [h1]; simp; omega⟩
set_option maxHeartbeats 1000000 in
set_option maxRecDepth 100000 in
theorem Blank_img {k r c q x k' r' c' q' : Int} {n' : Nat} (h : Bln k r c q x k' r' c' q' n') (w : World) :
    Calls Try.prog 10 #[.agg #[.int .i64 k, .int .i64 r, .int .i64 c, .int .i64 q]] w fun e w' => ∃ lo' A' C', e = .returned (.tuple #[.agg #[.int .i64 k', .int .i64 r', .int .i64 c', .int .i64 q', .slice lo' n' n'], .int .i64 x]) ∧ Im w.heap.size w' lo' n' A' C' (fun _ => []) ∧ Below w.heap.size w w' := by
  obtain ⟨w0, hw0⟩ : ∃ w0, w0 = w.alloc (.cells #[.int .i64 k, .int .i64 r, .int .i64 c, .int .i64 q] 24) := ⟨_, rfl⟩
  obtain ⟨w1, hw1⟩ : ∃ w1, w1 = w0.alloc (.cells #[.int .i64 0, .int .i64 0, .int .i64 0, .int .i64 0, .slice none 0 0] 27) := ⟨_, rfl⟩
  have HPW : Hid (PW w w1 k r c q) := ⟨w0, hw0, hw1⟩
  have HB1 : Hid (Below w.heap.size w w1) := (pw_below HPW.out).1
  have z1 := (pw_below HPW.out).2
  rcases h with ⟨rfl, hm, rfl, rfl, rfl, rfl, rfl⟩ | ⟨rfl, rfl, rfl, rfl, rfl, N, Q, S, hp, rfl⟩
  · have HC := shapeOf_bad hm w1
    go_enter Try.func10, Try.ntmps10
    go_wp2_with fail
    rw [← hw0, ← hw1]
    clear hw0 hw1 hm
    refine HC.mono ?_
    rintro e wa ⟨rfl, ha⟩
    obtain ⟨_, ⟨m0, m1, m2, m3, m4⟩, m5⟩ := pw_held HPW.out ha
    have HB := below_then HB1.out ha
    have n0 := fun o => held m0 (below_alloc wa o)
    have n1 := fun o => held m1 (below_alloc wa o)
    have n2 := fun o => held m2 (below_alloc wa o)
    have n3 := fun o => held m3 (below_alloc wa o)
    have n4 := fun o => held m4 (below_alloc wa o)
    have n5 : ∀ o i, (wa.alloc o).frozen? ⟨w.heap.size + 1, i, none⟩ = false := fun o i => free_below (m5 i) (below_alloc _ _) (World.block_lt_of_cell? wa ⟨w.heap.size + 1, 0, none⟩ m0)
    clear HC ha m0 m1 m2 m3 m4 m5
    go_wp2_with fail
    refine bodyPost_ret (v := .tuple #[.agg #[.int .i64 0, .int .i64 0, .int .i64 0, .int .i64 0, .slice none 0 0], .int .i64 2]) (by simp [results, Try.results10, go_sem, n0, n1, n2, n3, n4]) rfl ?_
    exact ⟨none, fun _ => none, fun _ => 0, rfl, .inl ⟨rfl, rfl⟩, (((((HB.alloc HB.size _).setCell (Nat.le_succ _) _).setCell (Nat.le_succ _) _).setCell (Nat.le_succ _) _).setCell (Nat.le_succ _) _).setCell (Nat.le_succ _) _⟩
  · have HC := shapeOf_ok hp w1
    obtain ⟨hN1, hN2, hQ1, hQ, hS1, hS2, hn1, hn2⟩ := hp.bounds
    have HSL := fun w => slots_any N Q S hN2 hQ w
    obtain ⟨n, hn⟩ : ∃ n, n = N * Q * 2 := ⟨_, rfl⟩
    rw [← hn] at HSL hn1 hn2 ⊢
    have hmk := fun w => run_make_row' (P := Try.prog) 25 33 (.slice none 0 0) 24 Try.underlying25 info33 rfl .i64 .i64 n (by omega) (by omega) w
    clear hn hp
    go_enter Try.func10, Try.ntmps10
    go_wp2_with fail
    rw [← hw0, ← hw1]
    clear hw0 hw1
    refine HC.mono ?_
    rintro e wa ⟨rfl, ha⟩
    obtain ⟨wb, hwb⟩ : ∃ wb, wb = wa.alloc (.cells #[.int .i64 (N : Int), .int .i64 (Q : Int), .int .i64 (S : Int)] 64) := ⟨_, rfl⟩
    have hab : Below wa.heap.size wa wb := by rw [hwb]; exact below_alloc _ _
    have HBb : Hid (Below w1.heap.size w1 wb) := below_then ha hab
    have SP : Hid (∀ v, Below wb.heap.size wb v → (v.cell? ⟨w.heap.size, 0, none⟩ = some (.int .i64 k') ∧ v.cell? ⟨w.heap.size, 1, none⟩ = some (.int .i64 r') ∧ v.cell? ⟨w.heap.size, 2, none⟩ = some (.int .i64 c') ∧ v.cell? ⟨w.heap.size, 3, none⟩ = some (.int .i64 q')) ∧ v.cell? ⟨wa.heap.size, 0, none⟩ = some (.int .i64 (N : Int)) ∧ v.cell? ⟨wa.heap.size, 1, none⟩ = some (.int .i64 (Q : Int)) ∧ v.cell? ⟨wa.heap.size, 2, none⟩ = some (.int .i64 (S : Int))) := fun v hv => ⟨(pw_held HPW.out (below_then HBb.out hv)).1, shp_held hwb hv⟩
    obtain ⟨⟨s0, s1, s2, s3⟩, s4, s5, s6⟩ := SP.out wb (Below.refl _ _)
    have zb1 := HBb.out.size
    have hset : ∀ (v : World) i u b o, b ≠ w.heap.size + 1 → (v.setCell ⟨w.heap.size + 1, i, none⟩ u).cell? ⟨b, o, none⟩ = v.cell? ⟨b, o, none⟩ := fun v i u b o h => World.cell?_of_block (Below.heap_setCell _ _ _ _ h)
    have hza := ha.size
    have ht0 : ∀ (v : World) i u o, (v.setCell ⟨w.heap.size + 1, i, none⟩ u).cell? ⟨w.heap.size, o, none⟩ = v.cell? ⟨w.heap.size, o, none⟩ := fun v i u o => hset v i u _ o (by omega)
    have ht1 : ∀ (v : World) i u o, (v.setCell ⟨w.heap.size + 1, i, none⟩ u).cell? ⟨wa.heap.size, o, none⟩ = v.cell? ⟨wa.heap.size, o, none⟩ := fun v i u o => hset v i u _ o (by omega)
    clear HC ha hset
    go_wp2_with fail
    rw [← hwb]
    clear hwb hab
    go_region_held3 (fun v => v.cell? ⟨w.heap.size, 0, none⟩ = some (.int .i64 k') ∧ v.cell? ⟨w.heap.size, 1, none⟩ = some (.int .i64 r') ∧ v.cell? ⟨w.heap.size, 2, none⟩ = some (.int .i64 c') ∧ v.cell? ⟨w.heap.size, 3, none⟩ = some (.int .i64 q') ∧ v.cell? ⟨wa.heap.size, 0, none⟩ = some (.int .i64 (N : Int)) ∧ v.cell? ⟨wa.heap.size, 1, none⟩ = some (.int .i64 (Q : Int)) ∧ v.cell? ⟨wa.heap.size, 2, none⟩ = some (.int .i64 (S : Int))) (go_keep)
      ((go_at_call 40; refine (HSL _).mono ?_; rintro e wc ⟨rfl, hc⟩; have HCc : Hid (Below wb.heap.size wb wc) := of_drew hc; obtain ⟨⟨p0, p1, p2, p3⟩, p4, p5, p6⟩ := SP.out _ (of_drew hc); have y0 := fun o => held p0 (below_alloc wc o); have y1 := fun o => held p1 (below_alloc wc o); have y2 := fun o => held p2 (below_alloc wc o); have y3 := fun o => held p3 (below_alloc wc o); have y4 := fun o => held p4 (below_alloc wc o); have y5 := fun o => held p5 (below_alloc wc o); have y6 := fun o => held p6 (below_alloc wc o); obtain ⟨_, ⟨m0, m1, m2, m3, m4⟩, m5⟩ := pw_held HPW.out (below_then HBb.out HCc.out); have n0 := fun o => held m0 (below_alloc wc o); have n1 := fun o => held m1 (below_alloc wc o); have n2 := fun o => held m2 (below_alloc wc o); have n3 := fun o => held m3 (below_alloc wc o); have n4 := fun o => held m4 (below_alloc wc o); have n5 : ∀ o i, (wc.alloc o).frozen? ⟨w.heap.size + 1, i, none⟩ = false := (fun o i => free_below (m5 i) (below_alloc _ _) (World.block_lt_of_cell? wc ⟨w.heap.size + 1, 0, none⟩ m0)); clear hc m0 m1 m2 m3 m4 m5))
    all_goals go_wp2_with fail
    all_goals
      refine bodyPost_ret (v := .tuple #[.agg #[.int .i64 k', .int .i64 r', .int .i64 c', .int .i64 q', .slice (some ⟨wc.heap.size, 0, none⟩) n n], .int .i64 0]) (by simp [results, Try.results10, go_sem, n0, n1, n2, n3, n4]) rfl ?_
      have hzc := HCc.out.size
      have hO := only5 (wc.alloc (.cells (madeCells #[.slice none 0 0] n) 33)) (w.heap.size + 1) (.int .i64 k') (.int .i64 r') (.int .i64 c') (.int .i64 q') (.slice (some ⟨wc.heap.size, 0, none⟩) n n)
      have h1 : ImR wc.heap.size (wc.alloc (.cells (madeCells #[.slice none 0 0] n) 33)) wc.heap.size n (fun _ => none) (fun _ => 0) (fun _ => []) := ⟨by
        have h := rsl_blank (Y := fun b => wc.heap.size ≤ b) (World.rowIs_made wc (.slice none 0 0) n 33) (Nat.le_refl _) (fun _ => [])
        rwa [upto_zero] at h, fun _ _ => .inl ⟨rfl, rfl, rfl⟩⟩
      have h2 := (h1.only hO (fun b h => by omega)).mono (B' := w.heap.size) (by omega)
      have hB : Below w.heap.size w (wc.alloc (.cells (madeCells #[.slice none 0 0] n) 33)) := below_then HB1.out (below_then HBb.out (below_then HCc.out (below_alloc _ _)))
      exact ⟨some ⟨wc.heap.size, 0, none⟩, _, _, rfl, .inr ⟨wc.heap.size, rfl, h2.1, h2.2⟩, hB.trans (hO.below (fun b h => by omega) hB.size)⟩
end Go.Proofs.Ytenlfhdchflnjaa
