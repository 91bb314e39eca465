/- The law of a row: the program's answers and the document's own are the same, and stay so when what came back is written over. -/
import Derived.Test.YtmlnbnbgkpbjeaaCrR
import Derived.Test.YtmlnbnbgkpbjeaaCrM
import Derived.Test.YtmlnbnbgkpbjeaaCrQ
import Derived.Test.YtmlnbnbgkpbjeaaDoI
namespace Go.Proofs.Ytmlnbnbgkpbjeaa
open Go.RowKit Go.Maps Go.ChangeShapes

theorem lost_few (k : Int) (P Q : Nat → Int) (n : Nat) : (lost k P Q n).length ≤ 2 * n := Nat.le_trans (List.takeWhile_sublist _).length_le (tvL_few P Q n)
set_option maxHeartbeats 16000000 in
set_option maxRecDepth 100000 in
theorem cr_law {k r c q : Int} {N W : Nat} {x : Int} (h : Par k r c q N W x) (w : World) (ro : Option Addr) (rn rc : Nat) (A : Nat → Option Addr) (L C : Nat → Nat) (F : Nat → Nat → UInt8) (hr : Rw w ro rn A L C F) (hn : rn * 48 ≤ 140737488351232) (vq : Int) :
    Calls Try.prog 3 #[.agg #[.int .i64 k, .int .i64 r, .int .i64 c, .int .i64 q], .slice ro rn rc, .int .i64 vq] w fun e w' => e = .returned (.bool true) ∧ Below w.heap.size w w' := by
  obtain ⟨w0, hw0⟩ : ∃ w0, w0 = w.alloc (.cells #[.int .i64 k, .int .i64 r, .int .i64 c, .int .i64 q] 23) := ⟨_, rfl⟩
  have b0 : Below w.heap.size w w0 := by rw [hw0]; exact below_alloc _ _
  obtain ⟨E, hE⟩ : ∃ E, erR x N c rn L = E := ⟨_, rfl⟩
  obtain ⟨M, hM⟩ : ∃ M, erF E vq = M := ⟨_, rfl⟩
  obtain ⟨y0, hy0⟩ : ∃ t, rdv E (wins k (hP N c L F) (hQ N c L F) N) 0 = t := ⟨_, rfl⟩
  obtain ⟨z0, hz0⟩ : ∃ t, rdb E (wins k (hP N c L F) (hQ N c L F) N) 0 = t := ⟨_, rfl⟩
  obtain ⟨y1, hy1⟩ : ∃ t, rdv E (wins k (hP N c L F) (hQ N c L F) N) 1 = t := ⟨_, rfl⟩
  obtain ⟨z1, hz1⟩ : ∃ t, rdb E (wins k (hP N c L F) (hQ N c L F) N) 1 = t := ⟨_, rfl⟩
  obtain ⟨ls, hls⟩ : ∃ t, (if E = 0 then lost k (hP N c L F) (hQ N c L F) N else []) = t := ⟨_, rfl⟩
  obtain ⟨ms, hms⟩ : ∃ t, (if M = 0 then dl (fun d => !hbv (hP N c L F) (hQ N c L F) vq d) N else []) = t := ⟨_, rfl⟩
  obtain ⟨tv, htv⟩ : ∃ t, t = (if E = 0 then tvL (hP N c L F) (hQ N c L F) N else []) := ⟨_, rfl⟩
  obtain ⟨f, hf⟩ : ∃ f, f = dv (hP N c L F) (hQ N c L F) N := ⟨_, rfl⟩
  have hle := h.le
  obtain ⟨ll, hll⟩ : ∃ ll, ll = ls.length := ⟨_, rfl⟩
  obtain ⟨ml, hml⟩ : ∃ ml, ml = ms.length := ⟨_, rfl⟩
  have HLL : Hid (ll = ls.length ∧ ll ≤ 1000) := ⟨hll, by
    rw [hll, ← hls]
    split
    · have := lost_few k (hP N c L F) (hQ N c L F) N; omega
    · simp⟩
  have HML : Hid (ml = ms.length ∧ ml ≤ 1000) := ⟨hml, by
    rw [hml, ← hms]
    split
    · have := dl_few (fun d => !hbv (hP N c L F) (hQ N c L F) vq d) N; omega
    · simp⟩
  have HTV : Hid (tv.length ≤ 32) := by
    show _ ≤ _
    rw [htv]
    split
    · have := tvL_few (hP N c L F) (hQ N c L F) N; omega
    · simp
  have HFF : Hid (∀ x, (f x).length ≤ 1000) := fun x => by
    rw [hf]; have := dl_few (hbv (hP N c L F) (hQ N c L F) x) N; unfold dv; omega
  have K8 : Hid (∀ v ao cap A2 C2, Rw v ao rn A2 L C2 F → Calls Try.prog 8 #[.agg #[.int .i64 k, .int .i64 r, .int .i64 c, .int .i64 q], .slice ao rn cap] v fun e w' => ∃ a k ts, e = .returned (.tuple #[.slice a (ts.length : Nat) k, .int .i64 E]) ∧ Tal v.heap.size w' a k ts f ∧ ts.map (fun t => t.1) = tv ∧ Below v.heap.size v w') := fun v ao cap A2 C2 hv => by rw [htv, hf]; exact Tallies_any h v ao rn cap A2 L C2 F hv E hE
  have K9 : Hid (∀ v ao cap A2 C2, Rw v ao rn A2 L C2 F → Calls Try.prog 9 #[.agg #[.int .i64 k, .int .i64 r, .int .i64 c, .int .i64 q], .slice ao rn cap] v fun e w' => ∃ a k ts, e = .returned (.tuple #[.slice a (ts.length : Nat) k, .int .i64 E]) ∧ Tal v.heap.size w' a k ts f ∧ ts.map (fun t => t.1) = tv ∧ Below v.heap.size v w') := fun v ao cap A2 C2 hv => by rw [htv, hf]; exact RTallies_any h v ao rn cap A2 L C2 F hv E hE
  have K10 : Hid (∀ v ao cap A2 C2, Rw v ao rn A2 L C2 F → Calls Try.prog 10 #[.agg #[.int .i64 k, .int .i64 r, .int .i64 c, .int .i64 q], .slice ao rn cap] v fun e w' => e = .returned (.tuple #[.int .i64 y0, .bool z0, .int .i64 E]) ∧ Below v.heap.size v w') := fun v ao cap A2 C2 hv => Winner_any h v ao rn cap A2 L C2 F hv E hE y0 hy0 z0 hz0
  have K11 : Hid (∀ v ao cap A2 C2, Rw v ao rn A2 L C2 F → Calls Try.prog 11 #[.agg #[.int .i64 k, .int .i64 r, .int .i64 c, .int .i64 q], .slice ao rn cap] v fun e w' => e = .returned (.tuple #[.int .i64 y0, .bool z0, .int .i64 E]) ∧ Below v.heap.size v w') := fun v ao cap A2 C2 hv => RWinner_any h v ao rn cap A2 L C2 F hv E hE y0 hy0 z0 hz0
  have K12 : Hid (∀ v ao cap A2 C2, Rw v ao rn A2 L C2 F → Calls Try.prog 12 #[.agg #[.int .i64 k, .int .i64 r, .int .i64 c, .int .i64 q], .slice ao rn cap] v fun e w' => e = .returned (.tuple #[.int .i64 y1, .bool z1, .int .i64 E]) ∧ Below v.heap.size v w') := fun v ao cap A2 C2 hv => Runner_any h v ao rn cap A2 L C2 F hv E hE y1 hy1 z1 hz1
  have K13 : Hid (∀ v ao cap A2 C2, Rw v ao rn A2 L C2 F → Calls Try.prog 13 #[.agg #[.int .i64 k, .int .i64 r, .int .i64 c, .int .i64 q], .slice ao rn cap] v fun e w' => e = .returned (.tuple #[.int .i64 y1, .bool z1, .int .i64 E]) ∧ Below v.heap.size v w') := fun v ao cap A2 C2 hv => RRunner_any h v ao rn cap A2 L C2 F hv E hE y1 hy1 z1 hz1
  have K14 : Hid (∀ v ao cap A2 C2, Rw v ao rn A2 L C2 F → Calls Try.prog 14 #[.agg #[.int .i64 k, .int .i64 r, .int .i64 c, .int .i64 q], .slice ao rn cap] v fun e w' => ∃ a cap, e = .returned (.tuple #[.slice a ll cap, .int .i64 E]) ∧ w'.ownsInts v.heap.size 3 .i64 (.slice a ll cap) ls ∧ Below v.heap.size v w') := fun v ao cap A2 C2 hv => by rw [hll]; exact Losers_any h v ao rn cap A2 L C2 F hv E hE ls hls
  have K15 : Hid (∀ v ao cap A2 C2, Rw v ao rn A2 L C2 F → Calls Try.prog 15 #[.agg #[.int .i64 k, .int .i64 r, .int .i64 c, .int .i64 q], .slice ao rn cap] v fun e w' => ∃ a cap, e = .returned (.tuple #[.slice a ll cap, .int .i64 E]) ∧ w'.ownsInts v.heap.size 3 .i64 (.slice a ll cap) ls ∧ Below v.heap.size v w') := fun v ao cap A2 C2 hv => by rw [hll]; exact RLosers_any h v ao rn cap A2 L C2 F hv E hE ls hls
  have K16 : Hid (∀ v ao cap A2 C2, Rw v ao rn A2 L C2 F → Calls Try.prog 16 #[.agg #[.int .i64 k, .int .i64 r, .int .i64 c, .int .i64 q], .slice ao rn cap, .int .i64 vq] v fun e w' => ∃ a cap, e = .returned (.tuple #[.slice a ml cap, .int .i64 M]) ∧ w'.ownsInts v.heap.size 3 .i64 (.slice a ml cap) ms ∧ Below v.heap.size v w') := fun v ao cap A2 C2 hv => by rw [hml]; exact Missing_any h v ao rn cap A2 L C2 F hv E hE vq M hM ms hms
  have K17 : Hid (∀ v ao cap A2 C2, Rw v ao rn A2 L C2 F → Calls Try.prog 17 #[.agg #[.int .i64 k, .int .i64 r, .int .i64 c, .int .i64 q], .slice ao rn cap, .int .i64 vq] v fun e w' => ∃ a cap, e = .returned (.tuple #[.slice a ml cap, .int .i64 M]) ∧ w'.ownsInts v.heap.size 3 .i64 (.slice a ml cap) ms ∧ Below v.heap.size v w') := fun v ao cap A2 C2 hv => by rw [hml]; exact RMissing_any h v ao rn cap A2 L C2 F hv E hE vq M hM ms hms
  have HR : Hid (Rw w ro rn A L C F) := hr
  have HN : Hid (rn * 48 ≤ 140737488351232) := hn
  have L0 : Hid (∀ v, Below w0.heap.size w0 v → At w v w.heap.size #[.int .i64 k, .int .i64 r, .int .i64 c, .int .i64 q] 23) := fun v hv => (at_made (Below.refl _ _) hw0).below hv
  have B0 : Hid (Below w.heap.size w w0) := b0
  clear hr hn b0 hE hM hy0 hz0 hy1 hz1 hls hms htv hf hle hll hml h
  go_enter Try.func3, Try.ntmps3
  go_wp2_with fail
  rw [← hw0]
  clear hw0
  refine (awake_any _).mono ?_
  rintro e wa ⟨rfl, ha⟩
  have SA : Hid (Below w0.heap.size w0 wa) := ha
  clear ha
  have HRA := HR.out.below (below_then B0.out SA.out)
  go_wp2_with fail
  refine (Twin_any wa ro rn rc A L C F HRA HN.out).mono ?_
  rintro e wb ⟨ao, cap, A', C', rfl, htw⟩
  have HTW : Hid (Tw wa wb ao rn cap A' L C' F) := htw
  have SB : Hid (Below wa.heap.size wa wb) := htw.bel
  have HRT : Hid (∀ v, Below wb.heap.size wb v → Rw v ao rn A' L C' F) := fun v hv => htw.rw.below hv
  have HRO : Hid (∀ v, Below wb.heap.size wb v → Rw v ro rn A L C F) := fun v hv => (HRA.below SB.out).below hv
  have LP : Hid (∀ v, Below wb.heap.size wb v → At w v w.heap.size #[.int .i64 k, .int .i64 r, .int .i64 c, .int .i64 q] 23) := fun v hv => L0.out v (below_then (below_then SA.out SB.out) hv)
  clear htw HRA
  have pq := LP.out wb (Below.refl _ _)
  have s0 := pq.cell (i := 0) rfl
  have s1 := pq.cell (i := 1) rfl
  have s2 := pq.cell (i := 2) rfl
  have s3 := pq.cell (i := 3) rfl
  clear pq
  go_wp2_with fail
  refine (K8.out wb _ _ _ _ (HRT.out wb (Below.refl _ _))).mono ?_
  rintro e w1 ⟨a1, k1, ts, rfl, ht, hm, hb⟩
  have HT1 : Hid (Tal wb.heap.size w1 a1 k1 ts f) := ht
  have HM1 : Hid (ts.map (fun t => t.1) = tv) := hm
  have S1 : Hid (Below wb.heap.size wb w1) := hb
  obtain ⟨tl, htl⟩ : ∃ tl, tl = ts.length := ⟨_, rfl⟩
  have HTL : Hid (tl = ts.length) := htl
  have htl2 : tl ≤ 32 := by rw [htl, ← List.length_map (f := fun t : Tly => t.1), hm]; exact HTV.out
  rw [← htl]
  clear htl
  clear ht hm hb s0 s1 s2 s3
  have pq := LP.out w1 S1.out
  have s0 := pq.cell (i := 0) rfl
  have s1 := pq.cell (i := 1) rfl
  have s2 := pq.cell (i := 2) rfl
  have s3 := pq.cell (i := 3) rfl
  clear pq
  go_wp2_with fail
  refine (K9.out w1 _ _ _ _ (HRO.out w1 S1.out)).mono ?_
  rintro e w2 ⟨a2, k2, us, rfl, ht, hm, hb⟩
  have HT2 : Hid (Tal w1.heap.size w2 a2 k2 us f) := ht
  have HM2 : Hid (us.map (fun t => t.1) = tv) := hm
  have S2 : Hid (Below w1.heap.size w1 w2) := hb
  rw [show us.length = tl by rw [HTL.out, ← List.length_map (f := fun t : Tly => t.1), hm, ← HM1.out, List.length_map]]
  clear ht hm hb s0 s1 s2 s3
  have pq := LP.out w2 (below_then S1.out S2.out)
  have s0 := pq.cell (i := 0) rfl
  have s1 := pq.cell (i := 1) rfl
  have s2 := pq.cell (i := 2) rfl
  have s3 := pq.cell (i := 3) rfl
  clear pq
  go_wp2_with fail
  refine (K10.out w2 _ _ _ _ (HRT.out w2 (below_then S1.out S2.out))).mono ?_
  rintro e w3 ⟨rfl, hb⟩
  have S3 : Hid (Below w2.heap.size w2 w3) := hb
  clear hb s0 s1 s2 s3
  have pq := LP.out w3 (below_then (below_then S1.out S2.out) S3.out)
  have s0 := pq.cell (i := 0) rfl
  have s1 := pq.cell (i := 1) rfl
  have s2 := pq.cell (i := 2) rfl
  have s3 := pq.cell (i := 3) rfl
  clear pq
  go_wp2_with fail
  refine (K11.out w3 _ _ _ _ (HRO.out w3 (below_then (below_then S1.out S2.out) S3.out))).mono ?_
  rintro e w4 ⟨rfl, hb⟩
  have S4 : Hid (Below w3.heap.size w3 w4) := hb
  clear hb s0 s1 s2 s3
  have pq := LP.out w4 (below_then (below_then (below_then S1.out S2.out) S3.out) S4.out)
  have s0 := pq.cell (i := 0) rfl
  have s1 := pq.cell (i := 1) rfl
  have s2 := pq.cell (i := 2) rfl
  have s3 := pq.cell (i := 3) rfl
  clear pq
  go_wp2_with fail
  refine (K12.out w4 _ _ _ _ (HRT.out w4 (below_then (below_then (below_then S1.out S2.out) S3.out) S4.out))).mono ?_
  rintro e w5 ⟨rfl, hb⟩
  have S5 : Hid (Below w4.heap.size w4 w5) := hb
  clear hb s0 s1 s2 s3
  have pq := LP.out w5 (below_then (below_then (below_then (below_then S1.out S2.out) S3.out) S4.out) S5.out)
  have s0 := pq.cell (i := 0) rfl
  have s1 := pq.cell (i := 1) rfl
  have s2 := pq.cell (i := 2) rfl
  have s3 := pq.cell (i := 3) rfl
  clear pq
  go_wp2_with fail
  refine (K13.out w5 _ _ _ _ (HRO.out w5 (below_then (below_then (below_then (below_then S1.out S2.out) S3.out) S4.out) S5.out))).mono ?_
  rintro e w6 ⟨rfl, hb⟩
  have S6 : Hid (Below w5.heap.size w5 w6) := hb
  clear hb s0 s1 s2 s3
  have pq := LP.out w6 (below_then (below_then (below_then (below_then (below_then S1.out S2.out) S3.out) S4.out) S5.out) S6.out)
  have s0 := pq.cell (i := 0) rfl
  have s1 := pq.cell (i := 1) rfl
  have s2 := pq.cell (i := 2) rfl
  have s3 := pq.cell (i := 3) rfl
  clear pq
  go_wp2_with fail
  refine (K14.out w6 _ _ _ _ (HRT.out w6 (below_then (below_then (below_then (below_then (below_then S1.out S2.out) S3.out) S4.out) S5.out) S6.out))).mono ?_
  rintro e w7 ⟨a7, k7, rfl, hz, hb⟩
  have HZ7 : Hid (w7.ownsInts w6.heap.size 3 .i64 (.slice a7 ll k7) ls) := hz
  have S7 : Hid (Below w6.heap.size w6 w7) := hb
  clear hz hb s0 s1 s2 s3
  have pq := LP.out w7 (below_then (below_then (below_then (below_then (below_then (below_then S1.out S2.out) S3.out) S4.out) S5.out) S6.out) S7.out)
  have s0 := pq.cell (i := 0) rfl
  have s1 := pq.cell (i := 1) rfl
  have s2 := pq.cell (i := 2) rfl
  have s3 := pq.cell (i := 3) rfl
  clear pq
  go_wp2_with fail
  refine (K15.out w7 _ _ _ _ (HRO.out w7 (below_then (below_then (below_then (below_then (below_then (below_then S1.out S2.out) S3.out) S4.out) S5.out) S6.out) S7.out))).mono ?_
  rintro e w8 ⟨a8, k8, rfl, hz, hb⟩
  have HZ8 : Hid (w8.ownsInts w7.heap.size 3 .i64 (.slice a8 ll k8) ls) := hz
  have S8 : Hid (Below w7.heap.size w7 w8) := hb
  clear hz hb s0 s1 s2 s3
  have pq := LP.out w8 (below_then (below_then (below_then (below_then (below_then (below_then (below_then S1.out S2.out) S3.out) S4.out) S5.out) S6.out) S7.out) S8.out)
  have s0 := pq.cell (i := 0) rfl
  have s1 := pq.cell (i := 1) rfl
  have s2 := pq.cell (i := 2) rfl
  have s3 := pq.cell (i := 3) rfl
  clear pq
  go_wp2_with fail
  refine (K16.out w8 _ _ _ _ (HRT.out w8 (below_then (below_then (below_then (below_then (below_then (below_then (below_then S1.out S2.out) S3.out) S4.out) S5.out) S6.out) S7.out) S8.out))).mono ?_
  rintro e w9 ⟨a9, k9, rfl, hz, hb⟩
  have HZ9 : Hid (w9.ownsInts w8.heap.size 3 .i64 (.slice a9 ml k9) ms) := hz
  have S9 : Hid (Below w8.heap.size w8 w9) := hb
  clear hz hb s0 s1 s2 s3
  have pq := LP.out w9 (below_then (below_then (below_then (below_then (below_then (below_then (below_then (below_then S1.out S2.out) S3.out) S4.out) S5.out) S6.out) S7.out) S8.out) S9.out)
  have s0 := pq.cell (i := 0) rfl
  have s1 := pq.cell (i := 1) rfl
  have s2 := pq.cell (i := 2) rfl
  have s3 := pq.cell (i := 3) rfl
  clear pq
  go_wp2_with fail
  refine (K17.out w9 _ _ _ _ (HRO.out w9 (below_then (below_then (below_then (below_then (below_then (below_then (below_then (below_then S1.out S2.out) S3.out) S4.out) S5.out) S6.out) S7.out) S8.out) S9.out))).mono ?_
  rintro e w10 ⟨a10, k10, rfl, hz, hb⟩
  have HZ10 : Hid (w10.ownsInts w9.heap.size 3 .i64 (.slice a10 ml k10) ms) := hz
  have S10 : Hid (Below w9.heap.size w9 w10) := hb
  clear hz hb s0 s1 s2 s3
  have HSA := RSame_any w10 (HT1.out.below (below_then (below_then (below_then (below_then (below_then (below_then (below_then (below_then S2.out S3.out) S4.out) S5.out) S6.out) S7.out) S8.out) S9.out) S10.out)) (HT2.out.below (below_then (below_then (below_then (below_then (below_then (below_then (below_then S3.out S4.out) S5.out) S6.out) S7.out) S8.out) S9.out) S10.out)) (HM1.out.trans HM2.out.symm) tl HTL.out (by omega) HFF.out
  go_wp2_with fail
  refine HSA.mono ?_
  rintro e w11 ⟨rfl, hb⟩
  have S11 : Hid (Below w10.heap.size w10 w11) := hb
  clear hb HSA
  have HI1 := SameInts_any w11 a7 a8 ll k7 k8 _ _ (ints_rd (ownsInts_below HZ7.out (below_then (below_then (below_then S8.out S9.out) S10.out) S11.out))) (ints_rd (ownsInts_below HZ8.out (below_then (below_then S9.out S10.out) S11.out))) HLL.out.2 (fun _ _ => rfl)
  go_wp2_with fail
  refine HI1.mono ?_
  rintro e w12 ⟨rfl, hb⟩
  have S12 : Hid (Below w11.heap.size w11 w12) := hb
  clear hb HI1
  have HI2 := SameInts_any w12 a9 a10 ml k9 k10 _ _ (ints_rd (ownsInts_below HZ9.out (below_then (below_then S10.out S11.out) S12.out))) (ints_rd (ownsInts_below HZ10.out (below_then S11.out S12.out))) HML.out.2 (fun _ _ => rfl)
  go_wp2_with fail
  refine HI2.mono ?_
  rintro e w13 ⟨rfl, hb⟩
  have S13 : Hid (Below w12.heap.size w12 w13) := hb
  clear hb HI2
  have B13 : Hid (Below wb.heap.size wb w13) := (below_then (below_then (below_then (below_then (below_then (below_then (below_then (below_then (below_then (below_then (below_then (below_then S1.out S2.out) S3.out) S4.out) S5.out) S6.out) S7.out) S8.out) S9.out) S10.out) S11.out) S12.out) S13.out)
  have HSP : Hid (∀ g, a1 = some ⟨g, 0, none⟩ → Spo wb.heap.size w1.heap.size 0 tl w13 w13 g k1 ts) := fun g hg => by
    have ht := HT1.out
    rw [hg] at ht
    exact spo_0 ht (below_then (below_then (below_then (below_then (below_then (below_then (below_then (below_then (below_then (below_then (below_then S2.out S3.out) S4.out) S5.out) S6.out) S7.out) S8.out) S9.out) S10.out) S11.out) S12.out) S13.out) HTL.out.symm
  have HT3 : Hid (Tal wb.heap.size w1 a1 k1 ts f) := HT1.out
  have HU13 : Hid (Tal w1.heap.size w13 a2 k2 us f) := HT2.out.below (below_then (below_then (below_then (below_then (below_then (below_then (below_then (below_then (below_then (below_then S3.out S4.out) S5.out) S6.out) S7.out) S8.out) S9.out) S10.out) S11.out) S12.out) S13.out)
  have h1b : w1.heap.size ≤ w13.heap.size := ((below_then (below_then (below_then (below_then (below_then (below_then (below_then (below_then (below_then (below_then (below_then S2.out S3.out) S4.out) S5.out) S6.out) S7.out) S8.out) S9.out) S10.out) S11.out) S12.out) S13.out) : Below w1.heap.size w1 w13).size
  have H1B : Hid (w1.heap.size ≤ w13.heap.size ∧ wb.heap.size ≤ w1.heap.size) := ⟨h1b, S1.out.size⟩
  have HB13 : Hid (Below w.heap.size w w13) := below_then (below_then (below_then B0.out SA.out) SB.out) B13.out
  clear h1b HZ7 HZ8 HZ9 HZ10 HT1 HT2 K9 K10 K11 K12 K13 K14 K15 K16 K17 HLL HML S1 S2 S3 S4 S5 S6 S7 S8 S9 S10 S11 S12 S13
  obtain ⟨i0, hi0, hq0, hq1, hq2⟩ := info_parts info3
  go_wp2_with fail
  go_loopw [35] (fun y wr => ∃ i : Nat, i ≤ tl ∧ y = .int .i64 (i : Int) ∧ Hid (Only (fun b => wb.heap.size ≤ b ∧ b < w1.heap.size) w13 wr) ∧ Hid (∀ g, a1 = some ⟨g, 0, none⟩ → Spo wb.heap.size w1.heap.size i tl w13 wr g k1 ts)) (fun y _ => tl - (intOf y).toNat)
  case atStart => exact ⟨0, Nat.zero_le _, rfl, Only.refl _ _, HSP.out⟩
  case round =>
    obtain ⟨i, hi, rfl, hon, hsp⟩ := hrel
    by_cases hlt : i < tl
    · obtain ⟨g, rfl, _, _⟩ := HT3.out.at_ (by have := HTL.out; omega)
      obtain ⟨t, htt⟩ : ∃ t, ts[i]? = some t := ⟨_, List.getElem?_eq_getElem (by rw [← HTL.out]; exact hlt)⟩
      have hl := HT3.out.len htt
      have hl2 := HFF.out t.1
      obtain ⟨t0, ta, tn, tc⟩ := t
      simp only at hl hl2
      have HTT : Hid (ts[i]? = some (t0, ta, tn, tc)) := htt
      have htn : tn ≤ 1000 := by omega
      have HS0 : Hid (Spo wb.heap.size w1.heap.size i tl w13 wr g k1 ts) := hsp.out g rfl
      have i1 : (0 : Int) ≤ (i : Int) := by omega
      have i2 : (i : Int) < (tl : Int) := by omega
      clear hl hl2 htt
      go_wp2_with fail
      go_loopw [36] (fun y wq => ∃ u : Nat, u ≤ tn ∧ y = .int .i64 (u : Int) ∧ Hid (Spo wb.heap.size w1.heap.size i tl w13 wq g k1 ts)) (fun y _ => tn - (intOf y).toNat)
      case atStart => exact ⟨0, Nat.zero_le _, rfl, HS0⟩
      case round =>
        obtain ⟨u, hu, rfl, hsq⟩ := hrel
        have c1 : wr.cell? ⟨g, i * 2 + 1, none⟩ = some (.slice ta tn tc) := hsq.out.c1 HTT.out hlt
        by_cases hut : u < tn
        · obtain ⟨gi, hgi⟩ : ∃ gi, ta = some ⟨gi, 0, none⟩ := hsq.out.inner HTT.out (by show 0 < tn; omega)
          obtain ⟨⟨xo, x1⟩, x2⟩ := hsq.out.rd HTT.out (gi := gi) (u := u) hgi hut
          have HPU : Hid (Spo wb.heap.size w1.heap.size i tl w13 (wr.setCell ⟨gi, u, none⟩ (.int .i64 (-9))) g k1 ts) := hsq.out.put HTT.out hgi _
          subst hgi
          have u1 : (0 : Int) ≤ (u : Int) := by omega
          have u2 : (u : Int) < (tn : Int) := by omega
          go_wp2_with fail
          go_roundw
          case rel => exact ⟨u + 1, by omega, by go_num, HPU⟩
          case measure => simp [intOf]; omega
        · have u2 : ¬ (u : Int) < (tn : Int) := by omega
          obtain ⟨⟨ys, hys⟩, _⟩ := hsq.out.cel i _ (Nat.le_refl _) HTT.out
          have OE : wr.ownsRow wb.heap.size 3 1 (.slice ta tn tc) tn ys := hys
          have hwz := hsq.out.onl.size
          have HWZ : Hid (wb.heap.size ≤ wr.heap.size) := by show _ ≤ _; have := H1B.out; omega
          clear hys hwz
          go_wp2_with (first
            | (at_builtin; refine wpList_append_own_at _ rfl _ _ 33 rfl wb.heap.size 3 i0 (.int .i64 0) 1 8 Try.underlying33 hi0 hq0 hq1 hq2 rfl (by decide) _ _ _ rfl (OE.alloc _) ⟨wr.heap.size, 0, none⟩ 1 1 [.int .i64 (-8)] rfl rfl (cell_one_new _ _ _) (ints_oneCell .i64 [(-8)]) (by unfold maxLen; omega) (by omega) (by have := HWZ.out; simp; omega) ?_; intro v' wn hown2 hgrow hnil hloc; obtain ⟨⟨xo, x1⟩, x2, hnx⟩ := hsq.out.next HTT.out hlt hgrow; have HNX : Hid (∀ v, Spo wb.heap.size w1.heap.size (i + 1) tl w13 (wn.setCell ⟨g, i * 2 + 1, none⟩ v) g k1 ts) := hnx; obtain ⟨an, cn, rfl⟩ := own_form hown2; clear hnx hown2 hgrow hnil hloc)
            | go_in)
          go_roundw
          case rel =>
            refine ⟨i + 1, by omega, by go_num, (HNX.out _).onl, fun g' hg' => ?_⟩
            cases hg'
            exact HNX.out _
          case measure => simp [intOf]; omega
    · have i2 : ¬ (i : Int) < (tl : Int) := by omega
      have hbr : Below wb.heap.size w13 wr := hon.out.below (fun b hb => hb.1) (by have := H1B.out; omega)
      have HBR : Hid (Below wb.heap.size w13 wr) := hbr
      have HBB : Hid (Below wb.heap.size wb wr) := B13.out.trans hbr
      have HUR : Hid (Tal w1.heap.size wr a2 k2 us f) := HU13.out.stay fun b h1 h2 => hon.out.block b h2 (fun hx => by omega)
      have pq := LP.out wr HBB.out
      have s0 := pq.cell (i := 0) rfl
      have s1 := pq.cell (i := 1) rfl
      have s2 := pq.cell (i := 2) rfl
      have s3 := pq.cell (i := 3) rfl
      clear pq hbr
      go_wp2_with fail
      refine (K8.out wr _ _ _ _ (HRT.out wr HBB.out)).mono ?_
      rintro e w14 ⟨a14, k14, vs, rfl, ht, hm, hb⟩
      have S14 : Hid (Below wr.heap.size wr w14) := hb
      have HSV := RSame_any w14 ht (HUR.out.below hb) (hm.trans HM2.out.symm) tl (by rw [HTL.out, ← List.length_map (f := fun t : Tly => t.1), HM1.out, ← hm, List.length_map]) (by omega) HFF.out
      rw [show vs.length = tl by rw [HTL.out, ← List.length_map (f := fun t : Tly => t.1), hm, ← HM1.out, List.length_map]]
      clear ht hm hb s0 s1 s2 s3
      go_wp2_with fail
      refine HSV.mono ?_
      rintro e w15 ⟨rfl, hb⟩
      have S15 : Hid (Below w14.heap.size w14 w15) := hb
      clear hb HSV
      have HB15 : Hid (Below wb.heap.size wb w15) := below_then HBB.out (below_then S14.out S15.out)
      have HSR := SameRow_any w15 ao ro rn cap rc A' A L C' C F F (HRT.out _ HB15.out) (HRO.out _ HB15.out) (by have := HN.out; omega) (fun _ _ _ _ => rfl)
      go_wp2_with fail
      refine HSR.mono ?_
      rintro e w16 ⟨rfl, hb⟩
      have S16 : Hid (Below w15.heap.size w15 w16) := hb
      clear hb HSR
      go_wp2_with fail
      go_ret
      exact ⟨rfl, below_then (below_then (below_then (below_then B0.out SA.out) SB.out) HB15.out) S16.out⟩
end Go.Proofs.Ytmlnbnbgkpbjeaa
