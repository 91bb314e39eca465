/- The version that counts is the greatest one that K drives hold: the statement's walk. -/
import Derived.Test.YtmlnbnbgkpbjeaaCnK
namespace Go.Proofs.Ytmlnbnbgkpbjeaa
open Go.RowKit Go.Maps Go.ChangeShapes

theorem dl_getD {p : Nat → Bool} {n i : Nat} (h : i < (dl p n).length) : (dl p n).getD i 0 ∈ dl p n := by
  rw [List.getD_eq_getElem?_getD, List.getElem?_eq_getElem h]
  exact List.getElem_mem h
theorem dl_next {p : Nat → Bool} {n i : Nat} (h : i + 1 < (dl p n).length) : (dl p n).getD i 0 < (dl p n).getD (i + 1) 0 := by
  rw [List.getD_eq_getElem?_getD, List.getD_eq_getElem?_getD, List.getElem?_eq_getElem h, List.getElem?_eq_getElem (show i < (dl p n).length by omega)]
  exact List.pairwise_iff_getElem.1 (dl_rise p n) i (i + 1) (by omega) h (by omega)
theorem dl_not {p : Nat → Bool} {n i j : Nat} (h : i < (dl p n).length) (g : j < (dl (fun d => !p d) n).length) : (dl p n).getD i 0 ≠ (dl (fun d => !p d) n).getD j 0 := by
  intro e
  have h1 := dl_getD h
  have h2 := dl_getD g
  rw [e] at h1
  obtain ⟨a, _, h3, h4⟩ := mem_dl.1 h1
  obtain ⟨b, _, h5, h6⟩ := mem_dl.1 h2
  obtain rfl : a = b := by omega
  rw [h3] at h5; cases h5
theorem sm_take (f : Int → Nat) {l : List Int} {i : Nat} {v : Int} (h : l[i]? = some v) : sm f (l.take (i + 1)) = sm f (l.take i) + f v := by
  rw [List.take_add_one, h, sm_append]
  simp [sm]
theorem erR_zero {x : Int} {N : Nat} {c : Int} {rn : Nat} {L : Nat → Nat} (h : erR x N c rn L = 0) : x = 0 ∧ rn = N ∧ ∀ j, j < 2 * rn → L j = 0 ∨ L j = sz N c := by
  unfold erR at h
  by_cases hx : x = 0
  · rw [if_pos hx] at h
    by_cases g : rn = N ∧ ∀ j, j < 2 * rn → L j = 0 ∨ L j = sz N c
    · exact ⟨hx, g.1, g.2⟩
    · rw [if_neg g] at h; omega
  · rw [if_neg hx] at h; exact absurd h hx

set_option maxHeartbeats 40000000 in
set_option maxRecDepth 100000 in
theorem cc_err {k r c q : Int} {N W : Nat} {x : Int} (h : Par k r c q N W x) (w : World) (ro : Option Addr) (rn rc : Nat) (A : Nat → Option Addr) (L C : Nat → Nat) (F : Nat → Nat → UInt8) (hr : Rw w ro rn A L C F) (he : erR x N c rn L ≠ 0) :
    Calls Try.prog 4 #[.agg #[.int .i64 k, .int .i64 r, .int .i64 c, .int .i64 q], .slice ro rn rc] w fun e w' => e = .returned (.bool true) ∧ Below w.heap.size w w' := by
  obtain ⟨E, hE⟩ : ∃ E, erR x N c rn L = E := ⟨_, rfl⟩
  have e0 : E ≠ 0 := fun e => he (hE.trans e)
  clear he
  obtain ⟨y0, hy0⟩ : ∃ y, rdv E (wins k (hP N c L F) (hQ N c L F) N) 0 = y := ⟨_, rfl⟩
  obtain ⟨z0, hz0⟩ : ∃ z, rdb E (wins k (hP N c L F) (hQ N c L F) N) 0 = z := ⟨_, rfl⟩
  obtain ⟨y1, hy1⟩ : ∃ y, rdv E (wins k (hP N c L F) (hQ N c L F) N) 1 = y := ⟨_, rfl⟩
  obtain ⟨z1, hz1⟩ : ∃ z, rdb E (wins k (hP N c L F) (hQ N c L F) N) 1 = z := ⟨_, rfl⟩
  obtain ⟨ms, hms⟩ : ∃ ms, (if E = 0 then lost k (hP N c L F) (hQ N c L F) N else []) = ms := ⟨_, rfl⟩
  have HTL : Hid (∀ u, Below w.heap.size w u → Calls Try.prog 8 #[.agg #[.int .i64 k, .int .i64 r, .int .i64 c, .int .i64 q], .slice ro rn rc] u (AnsTl u E (hP N c L F) (hQ N c L F) N)) := fun u hu => Tallies_any h u ro rn rc A L C F (hr.below hu) E hE
  have HWN : Hid (∀ u, Below w.heap.size w u → Calls Try.prog 10 #[.agg #[.int .i64 k, .int .i64 r, .int .i64 c, .int .i64 q], .slice ro rn rc] u fun e w' => e = .returned (.tuple #[.int .i64 y0, .bool z0, .int .i64 E]) ∧ Below u.heap.size u w') := fun u hu => Winner_any h u ro rn rc A L C F (hr.below hu) E hE y0 hy0 z0 hz0
  have HRN : Hid (∀ u, Below w.heap.size w u → Calls Try.prog 12 #[.agg #[.int .i64 k, .int .i64 r, .int .i64 c, .int .i64 q], .slice ro rn rc] u fun e w' => e = .returned (.tuple #[.int .i64 y1, .bool z1, .int .i64 E]) ∧ Below u.heap.size u w') := fun u hu => Runner_any h u ro rn rc A L C F (hr.below hu) E hE y1 hy1 z1 hz1
  have HLS : Hid (∀ u, Below w.heap.size w u → Calls Try.prog 14 #[.agg #[.int .i64 k, .int .i64 r, .int .i64 c, .int .i64 q], .slice ro rn rc] u (AnsI u E ms)) := fun u hu => Losers_any h u ro rn rc A L C F (hr.below hu) E hE ms hms
  have HMS : Hid (∀ u v, Below w.heap.size w u → E = 0 → 1 ≤ v → v ≤ 1073741824 → Calls Try.prog 16 #[.agg #[.int .i64 k, .int .i64 r, .int .i64 c, .int .i64 q], .slice ro rn rc, .int .i64 v] u (AnsI u 0 (dl (fun d => !hbv (hP N c L F) (hQ N c L F) v d) N))) := fun u v hu e h1 h2 => Missing_any h u ro rn rc A L C F (hr.below hu) E hE v 0 (by rw [e]; unfold erF; rw [if_pos rfl, if_pos ⟨h1, h2⟩]) _ rfl
  have HAW : Hid (∀ u, Calls Try.prog 6 #[] u fun e w' => e = .returned (.bool true) ∧ Below u.heap.size u w') := fun u => awake_any u
  have hle := h.le
  have HE0 : Hid (E = 0 → rn = N) := fun e => (erR_zero (hE.trans e)).2.1
  have HB : Hid ((∀ i, 0 ≤ hP N c L F i ∧ hP N c L F i ≤ 1073741824) ∧ ∀ i, 0 ≤ hQ N c L F i ∧ hQ N c L F i ≤ 1073741824) := ⟨hP_bd N c L F, hQ_bd N c L F⟩
  clear hr h hE
  generalize hP N c L F = P at *
  generalize hQ N c L F = Q at *
  unfold AnsTl at HTL
  unfold AnsI at HLS HMS
  obtain ⟨w0, hw0⟩ : ∃ w0, w0 = w.alloc (.cells #[.int .i64 k, .int .i64 r, .int .i64 c, .int .i64 q] 23) := ⟨_, rfl⟩
  have B0 : Hid (Below w.heap.size w w0) := by show Below _ _ _; rw [hw0]; exact below_alloc _ _
  have L0 : Hid (∀ v, Below w0.heap.size w0 v → At w v w.heap.size #[.int .i64 k, .int .i64 r, .int .i64 c, .int .i64 q] 23) := fun v hv => (at_made (Below.refl _ _) hw0).below hv
  have HC : Hid (∀ v, Below w0.heap.size w0 v → v.cell? ⟨w.heap.size, 0, none⟩ = some (.int .i64 k) ∧ v.cell? ⟨w.heap.size, 1, none⟩ = some (.int .i64 r) ∧ v.cell? ⟨w.heap.size, 2, none⟩ = some (.int .i64 c) ∧ v.cell? ⟨w.heap.size, 3, none⟩ = some (.int .i64 q)) := fun v hv => by
    have pq := L0.out v hv
    exact ⟨pq.cell (i := 0) rfl, pq.cell (i := 1) rfl, pq.cell (i := 2) rfl, pq.cell (i := 3) rfl⟩
  have hq : (E != 0) = true := by simpa using e0
  have hqq : (E == E) = true := by simp
  obtain rfl : z0 = false := by rw [← hz0]; exact decide_eq_false fun a => e0 a.1
  obtain rfl : z1 = false := by rw [← hz1]; exact decide_eq_false fun a => e0 a.1
  rw [if_neg e0] at hms
  subst hms
  clear hy0 hy1 hz0 hz1
  go_enter Try.func4, Try.ntmps4
  go_wp2_with fail
  rw [← hw0]
  clear hw0
  refine (HAW.out _).mono ?_
  rintro e wa ⟨rfl, ha⟩
  have BA : Hid (Below w0.heap.size w0 wa) := ha
  obtain ⟨s0, s1, s2, s3⟩ := HC.out wa BA.out
  clear ha
  go_wp2_with fail
  refine (HTL.out _ (below_then B0.out BA.out)).mono ?_
  rintro e wb ⟨a, cap, ts, rfl, ht, hm, hb⟩
  rw [if_neg (by first | exact e0 | exact id)] at hm
  obtain rfl : ts = [] := by simpa using hm
  have BB : Hid (Below w0.heap.size w0 wb) := below_then BA.out hb
  clear s0 s1 s2 s3 ht hm hb
  obtain ⟨s0, s1, s2, s3⟩ := HC.out wb BB.out
  go_wp2_with fail
  refine (HWN.out _ (below_then B0.out BB.out)).mono ?_
  rintro e wc ⟨rfl, hc⟩
  have BC : Hid (Below w0.heap.size w0 wc) := below_then BB.out hc
  clear s0 s1 s2 s3 hc
  obtain ⟨s0, s1, s2, s3⟩ := HC.out wc BC.out
  go_wp2_with fail
  refine (HRN.out _ (below_then B0.out BC.out)).mono ?_
  rintro e wd ⟨rfl, hd⟩
  have BD : Hid (Below w0.heap.size w0 wd) := below_then BC.out hd
  clear s0 s1 s2 s3 hd
  obtain ⟨s0, s1, s2, s3⟩ := HC.out wd BD.out
  go_wp2_with fail
  refine (HLS.out _ (below_then B0.out BD.out)).mono ?_
  rintro e we ⟨am, capm, rfl, hm, he⟩
  have BE : Hid (Below w0.heap.size w0 we) := below_then BD.out he
  clear s0 s1 s2 s3 hm he
  go_wp2_with fail
  go_ret
  exact ⟨rfl, below_then B0.out BE.out⟩
end Go.Proofs.Ytmlnbnbgkpbjeaa
