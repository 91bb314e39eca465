/- The fixed answers that each statement asks first. -/
import Derived.Test.YtmncbeabhicbhaaRwG
import Derived.Test.YtmncbeabhicbhaaRwC
namespace Go.Proofs.Ytmncbeabhicbhaa
open Go.RowKit

def LF (l : List Int) (i : Nat) : Int := l.getD i 0
theorem vec_list (w : World) (l : List Int) : Vec (w.alloc (.cells (l.map (Value.int .i64)).toArray 3)) (some ⟨w.heap.size, 0, none⟩) l.length l.length (LF l) := by
  refine ⟨fun _ => ⟨w.heap.size, 0, rfl, fun i hi => ?_⟩, (fun e => by cases e), Nat.le_refl _⟩
  rw [Nat.zero_add]
  refine blk_held (w := w) rfl (Below.refl _ _) i ?_
  unfold LF
  simp [hi]
theorem lit_free (l r : List Int) (E : Int) (h0 : l.length ≤ 1000) (h : erF (erP 2 1 16 8) 8 l.length (LF l) = E) (h1 : lenE E (cnt (nfB l.length (LF l)) 8) = r.length) (h2 : ∀ i, i < r.length → sel (nfB l.length (LF l)) 8 i = LF r i) (v : World) :
    Calls Try.prog 9 #[.agg #[.int .i64 2, .int .i64 1, .int .i64 16, .int .i64 8], .slice (some ⟨v.heap.size, 0, none⟩) l.length l.length] (v.alloc (.cells (l.map (Value.int .i64)).toArray 3)) fun e w' => ∃ ao ca, e = .returned (.tuple #[.slice ao r.length ca, .int .i64 E]) ∧ RdI w' ao r.length (LF r) ∧ Below v.heap.size v w' := by
  refine (Free_any 2 1 16 8 _ _ _ _ (LF l) (vec_list v l).rd (by omega) E h).mono ?_
  rintro e w' ⟨⟨ao, ca, rfl, ho⟩, hb⟩
  rw [show (8 : Int).toNat = 8 from rfl] at ho ⊢
  rw [h1] at ho ⊢
  exact ⟨ao, ca, rfl, (Own.vec ho).rd.congr h2, below_then (below_alloc _ _) hb⟩
theorem lit_take (l r s : List Int) (m E : Int) (h0 : l.length ≤ 1000) (h : erT (erP 2 1 16 8) 8 l.length (LF l) m = E) (h1 : lenE E m.toNat = r.length) (h2 : ∀ i, i < r.length → LF l i = LF r i) (h3 : lenE E (l.length - m.toNat) = s.length) (h4 : ∀ i, i < s.length → LF l (m.toNat + i) = LF s i) (v : World) :
    Calls Try.prog 10 #[.agg #[.int .i64 2, .int .i64 1, .int .i64 16, .int .i64 8], .slice (some ⟨v.heap.size, 0, none⟩) l.length l.length, .int .i64 m] (v.alloc (.cells (l.map (Value.int .i64)).toArray 3)) fun e w' => ∃ ao ca bo cb, e = .returned (.tuple #[.slice ao r.length ca, .slice bo s.length cb, .int .i64 E]) ∧ RdI w' ao r.length (LF r) ∧ RdI w' bo s.length (LF s) ∧ Below v.heap.size v w' := by
  refine (Take_any 2 1 16 8 _ _ _ _ (LF l) (vec_list v l) (by omega) m E h).mono ?_
  rintro e w' ⟨⟨ao, ca, bo, cb, T, rfl, ho, _, _, hu⟩, hb⟩
  rw [h1] at ho ⊢
  rw [h3] at hu ⊢
  exact ⟨ao, ca, bo, cb, rfl, (Own.vec ho).rd.congr h2, (Own.vec hu).rd.congr h4, below_then (below_alloc _ _) hb⟩
theorem lit_give (l m r : List Int) (E : Int) (h0 : l.length ≤ 1000) (h9 : m.length ≤ 1000) (h : erG (erP 2 1 16 8) 8 l.length (LF l) m.length (LF m) = E) (h1 : lenE E (cnt (twB l.length (LF l) m.length (LF m)) 8) = r.length) (h2 : ∀ i, i < r.length → sel (twB l.length (LF l) m.length (LF m)) 8 i = LF r i) (v : World) :
    Calls Try.prog 11 #[.agg #[.int .i64 2, .int .i64 1, .int .i64 16, .int .i64 8], .slice (some ⟨v.heap.size, 0, none⟩) l.length l.length, .slice (some ⟨v.heap.size + 1, 0, none⟩) m.length m.length] ((v.alloc (.cells (l.map (Value.int .i64)).toArray 3)).alloc (.cells (m.map (Value.int .i64)).toArray 3)) fun e w' => ∃ ao ca, e = .returned (.tuple #[.slice ao r.length ca, .int .i64 E]) ∧ RdI w' ao r.length (LF r) ∧ Below v.heap.size v w' := by
  have hv := vec_list (v.alloc (.cells (l.map (Value.int .i64)).toArray 3)) m
  rw [show (v.alloc (.cells (l.map (Value.int .i64)).toArray 3)).heap.size = v.heap.size + 1 by simp] at hv
  refine (Give_any 2 1 16 8 _ _ _ _ _ _ _ (LF l) (LF m) ((vec_list v l).below (below_alloc _ _)) hv (by omega) (by omega) E h).mono ?_
  rintro e w' ⟨⟨ao, ca, rfl, ho⟩, hb⟩
  rw [show (8 : Int).toNat = 8 from rfl] at ho ⊢
  rw [h1] at ho ⊢
  exact ⟨ao, ca, rfl, (Own.vec ho).rd.congr h2, below_then (below_then (below_alloc _ _) (below_alloc _ _)) hb⟩
theorem lit_same (n ca : Nat) (r : List Int) (hn : n = r.length) (ao : Option Addr) (v : World) (h0 : n ≤ 1000) (h : RdI v ao n (LF r)) :
    Calls Try.prog 16 #[.slice ao n ca, .slice (some ⟨v.heap.size, 0, none⟩) r.length r.length] (v.alloc (.cells (r.map (Value.int .i64)).toArray 3)) fun e w' => e = .returned (.bool true) ∧ Below v.heap.size v w' := by
  subst hn
  refine (Same_any (v.alloc (.cells (r.map (Value.int .i64)).toArray 3)) ao _ r.length ca r.length r.length (LF r) (LF r) (h.below (below_alloc _ _)) (vec_list v r).rd (by omega) (by omega)).mono ?_
  rintro e w' ⟨rfl, q, rfl⟩
  rw [same_refl]
  exact ⟨rfl, below_then (below_alloc _ _) (below_drewN _ _ _)⟩
set_option maxHeartbeats 400000 in
theorem sample_any (w : World) : Calls Try.prog 8 #[] w fun e w' => e = .returned (.agg #[.int .i64 2, .int .i64 1, .int .i64 16, .int .i64 8]) ∧ Below w.heap.size w w' := by
  go_enter Try.func8, Try.ntmps8
  go_wp2
  refine bodyPost_ret (v := .agg #[.int .i64 2, .int .i64 1, .int .i64 16, .int .i64 8]) (by simp [results, Try.results8, go_sem]) rfl ⟨rfl, ?_⟩
  exact below_alloc _ _
theorem c_free : ∀ v, Calls Try.prog 9 #[.agg #[.int .i64 2, .int .i64 1, .int .i64 16, .int .i64 8], .slice (some ⟨v.heap.size, 0, none⟩) 3 3] (v.alloc (.cells #[.int .i64 3, .int .i64 0, .int .i64 3] 3)) fun e w' => ∃ ao ca, e = .returned (.tuple #[.slice ao 6 ca, .int .i64 0]) ∧ RdI w' ao 6 (LF [1, 2, 4, 5, 6, 7]) ∧ Below v.heap.size v w' :=
  lit_free [3, 0, 3] [1, 2, 4, 5, 6, 7] 0 (by decide) (by decide +kernel) (by decide +kernel) (by decide +kernel)
theorem c_take : ∀ v, Calls Try.prog 10 #[.agg #[.int .i64 2, .int .i64 1, .int .i64 16, .int .i64 8], .slice (some ⟨v.heap.size, 0, none⟩) 3 3, .int .i64 2] (v.alloc (.cells #[.int .i64 1, .int .i64 2, .int .i64 5] 3)) fun e w' => ∃ ao ca bo cb, e = .returned (.tuple #[.slice ao 2 ca, .slice bo 1 cb, .int .i64 0]) ∧ RdI w' ao 2 (LF [1, 2]) ∧ RdI w' bo 1 (LF [5]) ∧ Below v.heap.size v w' :=
  lit_take [1, 2, 5] [1, 2] [5] 2 0 (by decide) (by decide +kernel) (by decide +kernel) (by decide +kernel) (by decide +kernel) (by decide +kernel)
theorem c_give : ∀ v, Calls Try.prog 11 #[.agg #[.int .i64 2, .int .i64 1, .int .i64 16, .int .i64 8], .slice (some ⟨v.heap.size, 0, none⟩) 2 2, .slice (some ⟨v.heap.size + 1, 0, none⟩) 1 1] ((v.alloc (.cells #[.int .i64 1, .int .i64 5] 3)).alloc (.cells #[.int .i64 2] 3)) fun e w' => ∃ ao ca, e = .returned (.tuple #[.slice ao 3 ca, .int .i64 0]) ∧ RdI w' ao 3 (LF [1, 2, 5]) ∧ Below v.heap.size v w' :=
  lit_give [1, 5] [2] [1, 2, 5] 0 (by decide) (by decide) (by decide +kernel) (by decide +kernel) (by decide +kernel)
theorem c_take4 : ∀ v, Calls Try.prog 10 #[.agg #[.int .i64 2, .int .i64 1, .int .i64 16, .int .i64 8], .slice (some ⟨v.heap.size, 0, none⟩) 1 1, .int .i64 2] (v.alloc (.cells #[.int .i64 1] 3)) fun e w' => ∃ ao ca bo cb, e = .returned (.tuple #[.slice ao 0 ca, .slice bo 0 cb, .int .i64 4]) ∧ RdI w' ao 0 (LF []) ∧ RdI w' bo 0 (LF []) ∧ Below v.heap.size v w' :=
  lit_take [1] [] [] 2 4 (by decide) (by decide +kernel) (by decide +kernel) (by decide +kernel) (by decide +kernel) (by decide +kernel)
theorem c_give200 : ∀ v, Calls Try.prog 11 #[.agg #[.int .i64 2, .int .i64 1, .int .i64 16, .int .i64 8], .slice (some ⟨v.heap.size, 0, none⟩) 2 2, .slice (some ⟨v.heap.size + 1, 0, none⟩) 1 1] ((v.alloc (.cells #[.int .i64 1, .int .i64 5] 3)).alloc (.cells #[.int .i64 5] 3)) fun e w' => ∃ ao ca, e = .returned (.tuple #[.slice ao 0 ca, .int .i64 200]) ∧ RdI w' ao 0 (LF []) ∧ Below v.heap.size v w' :=
  lit_give [1, 5] [5] [] 200 (by decide) (by decide) (by decide +kernel) (by decide +kernel) (by decide +kernel)
theorem c_same6 (ao : Option Addr) (ca : Nat) (v : World) (h : RdI v ao 6 (LF [1, 2, 4, 5, 6, 7])) : Calls Try.prog 16 #[.slice ao 6 ca, .slice (some ⟨v.heap.size, 0, none⟩) 6 6] (v.alloc (.cells #[.int .i64 1, .int .i64 2, .int .i64 4, .int .i64 5, .int .i64 6, .int .i64 7] 3)) fun e w' => e = .returned (.bool true) ∧ Below v.heap.size v w' := lit_same 6 ca [1, 2, 4, 5, 6, 7] rfl ao v (by decide) h
theorem c_same2 (ao : Option Addr) (ca : Nat) (v : World) (h : RdI v ao 2 (LF [1, 2])) : Calls Try.prog 16 #[.slice ao 2 ca, .slice (some ⟨v.heap.size, 0, none⟩) 2 2] (v.alloc (.cells #[.int .i64 1, .int .i64 2] 3)) fun e w' => e = .returned (.bool true) ∧ Below v.heap.size v w' := lit_same 2 ca [1, 2] rfl ao v (by decide) h
theorem c_same1 (ao : Option Addr) (ca : Nat) (v : World) (h : RdI v ao 1 (LF [5])) : Calls Try.prog 16 #[.slice ao 1 ca, .slice (some ⟨v.heap.size, 0, none⟩) 1 1] (v.alloc (.cells #[.int .i64 5] 3)) fun e w' => e = .returned (.bool true) ∧ Below v.heap.size v w' := lit_same 1 ca [5] rfl ao v (by decide) h
theorem c_same3 (ao : Option Addr) (ca : Nat) (v : World) (h : RdI v ao 3 (LF [1, 2, 5])) : Calls Try.prog 16 #[.slice ao 3 ca, .slice (some ⟨v.heap.size, 0, none⟩) 3 3] (v.alloc (.cells #[.int .i64 1, .int .i64 2, .int .i64 5] 3)) fun e w' => e = .returned (.bool true) ∧ Below v.heap.size v w' := lit_same 3 ca [1, 2, 5] rfl ao v (by decide) h
set_option maxHeartbeats 4000000 in
set_option maxRecDepth 100000 in
theorem alive_any (w : World) : Calls Try.prog 7 #[] w fun e w' => e = .returned (.bool true) ∧ Below w.heap.size w w' := by
  go_enter Try.func7, Try.ntmps7
  go_wp2_with fail
  refine (sample_any _).mono ?_
  rintro e wa ⟨rfl, ha⟩
  obtain ⟨w0, hw0⟩ : ∃ w0, w0 = wa.alloc (.cells #[.int .i64 2, .int .i64 1, .int .i64 16, .int .i64 8] 24) := ⟨_, rfl⟩
  have HB0 : Hid (Below w.heap.size w w0) := by show Below _ _ _; rw [hw0]; exact below_then ha (below_alloc _ _)
  have HPAR : Hid (∀ v, Below w0.heap.size w0 v → v.cell? ⟨wa.heap.size, 0, none⟩ = some (.int .i64 2) ∧ v.cell? ⟨wa.heap.size, 1, none⟩ = some (.int .i64 1) ∧ v.cell? ⟨wa.heap.size, 2, none⟩ = some (.int .i64 16) ∧ v.cell? ⟨wa.heap.size, 3, none⟩ = some (.int .i64 8)) := fun v hv => par_held hw0 hv
  obtain ⟨x0, x1, x2, x3⟩ := HPAR.out w0 (Below.refl _ _)
  have hz : w0.heap.size = wa.heap.size + 1 := by rw [hw0]; simp
  have HF := c_free w0
  rw [hz] at HF
  have HZ : Hid (w0.heap.size = wa.heap.size + 1) := hz
  clear hz ha
  go_wp2_with fail
  rw [← hw0]
  refine HF.mono ?_
  rintro e w1 ⟨a1, k1, rfl, r1, b1⟩
  have HB1 : Hid (Below w0.heap.size w0 w1) := by show Below _ _ _; rw [HZ.out]; exact b1
  have HR1 : Hid (RdI w1 a1 6 (LF [1, 2, 4, 5, 6, 7])) := r1
  clear r1 b1 HF x0 x1 x2 x3 hw0
  obtain ⟨x0, x1, x2, x3⟩ := HPAR.out w1 HB1.out
  go_wp2_with fail
  refine (c_take w1).mono ?_
  rintro e w2 ⟨a2, k2, a3, k3, rfl, r2, r3, b1⟩
  have HB2 : Hid (Below w0.heap.size w0 w2) := below_then HB1.out b1
  have HR1 : Hid (RdI w2 a1 6 (LF [1, 2, 4, 5, 6, 7])) := HR1.out.below b1
  have HR2 : Hid (RdI w2 a2 2 (LF [1, 2])) := r2
  have HR3 : Hid (RdI w2 a3 1 (LF [5])) := r3
  clear r2 r3 b1 x0 x1 x2 x3
  obtain ⟨x0, x1, x2, x3⟩ := HPAR.out w2 HB2.out
  go_wp2_with fail
  refine (c_give w2).mono ?_
  rintro e w3 ⟨a4, k4, rfl, r4, b1⟩
  have HB3 : Hid (Below w0.heap.size w0 w3) := below_then HB2.out b1
  have HR1 : Hid (RdI w3 a1 6 (LF [1, 2, 4, 5, 6, 7])) := HR1.out.below b1
  have HR2 : Hid (RdI w3 a2 2 (LF [1, 2])) := HR2.out.below b1
  have HR3 : Hid (RdI w3 a3 1 (LF [5])) := HR3.out.below b1
  have HR4 : Hid (RdI w3 a4 3 (LF [1, 2, 5])) := r4
  clear r4 b1 x0 x1 x2 x3
  obtain ⟨x0, x1, x2, x3⟩ := HPAR.out w3 HB3.out
  go_wp2_with fail
  refine (c_take4 w3).mono ?_
  rintro e w4 ⟨a5, k5, a6, k6, rfl, _, _, b1⟩
  have HB4 : Hid (Below w0.heap.size w0 w4) := below_then HB3.out b1
  have HR1 : Hid (RdI w4 a1 6 (LF [1, 2, 4, 5, 6, 7])) := HR1.out.below b1
  have HR2 : Hid (RdI w4 a2 2 (LF [1, 2])) := HR2.out.below b1
  have HR3 : Hid (RdI w4 a3 1 (LF [5])) := HR3.out.below b1
  have HR4 : Hid (RdI w4 a4 3 (LF [1, 2, 5])) := HR4.out.below b1
  clear b1 x0 x1 x2 x3
  obtain ⟨x0, x1, x2, x3⟩ := HPAR.out w4 HB4.out
  go_wp2_with fail
  refine (c_give200 w4).mono ?_
  rintro e w5 ⟨a7, k7, rfl, _, b1⟩
  have HB5 : Hid (Below w0.heap.size w0 w5) := below_then HB4.out b1
  have HR1 : Hid (RdI w5 a1 6 (LF [1, 2, 4, 5, 6, 7])) := HR1.out.below b1
  have HR2 : Hid (RdI w5 a2 2 (LF [1, 2])) := HR2.out.below b1
  have HR3 : Hid (RdI w5 a3 1 (LF [5])) := HR3.out.below b1
  have HR4 : Hid (RdI w5 a4 3 (LF [1, 2, 5])) := HR4.out.below b1
  clear b1 x0 x1 x2 x3
  go_wp2_with fail
  refine (c_same6 _ _ _ HR1.out).mono ?_
  rintro e w6 ⟨rfl, b1⟩
  have HB6 : Hid (Below w0.heap.size w0 w6) := below_then HB5.out b1
  have HR2 : Hid (RdI w6 a2 2 (LF [1, 2])) := HR2.out.below b1
  have HR3 : Hid (RdI w6 a3 1 (LF [5])) := HR3.out.below b1
  have HR4 : Hid (RdI w6 a4 3 (LF [1, 2, 5])) := HR4.out.below b1
  clear b1
  go_wp2_with fail
  refine (c_same2 _ _ _ HR2.out).mono ?_
  rintro e w7 ⟨rfl, b1⟩
  have HB7 : Hid (Below w0.heap.size w0 w7) := below_then HB6.out b1
  have HR3 : Hid (RdI w7 a3 1 (LF [5])) := HR3.out.below b1
  have HR4 : Hid (RdI w7 a4 3 (LF [1, 2, 5])) := HR4.out.below b1
  clear b1
  go_wp2_with fail
  refine (c_same1 _ _ _ HR3.out).mono ?_
  rintro e w8 ⟨rfl, b1⟩
  have HB8 : Hid (Below w0.heap.size w0 w8) := below_then HB7.out b1
  have HR4 : Hid (RdI w8 a4 3 (LF [1, 2, 5])) := HR4.out.below b1
  clear b1
  go_wp2_with fail
  refine (c_same3 _ _ _ HR4.out).mono ?_
  rintro e w9 ⟨rfl, b1⟩
  have HB9 : Hid (Below w.heap.size w w9) := below_then HB0.out (below_then HB8.out b1)
  clear b1
  go_wp2_with fail
  go_ret
  exact ⟨rfl, HB9.out⟩
end Go.Proofs.Ytmncbeabhicbhaa
