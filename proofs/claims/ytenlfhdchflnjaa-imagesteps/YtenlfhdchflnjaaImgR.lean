/- Raw writes go one by one, and each changes its own slot alone. -/
import Derived.Test.YtenlfhdchflnjaaImgQ
namespace Go.Proofs.Ytenlfhdchflnjaa
open Go.RowKit

section
variable {k r c q : Int} {n : Nat} {F : Nat → List UInt8} {D : Nat → Pt} {ln : Nat} {Z : Nat → Prop}
/-- Where the answer is at hand: images that are large, raw writes that are many. -/
def Mch (n : Nat) (D : Nat → Pt) (ln : Nat) (m h : Bool) : Prop := m = decide (2000 < n) ∧ Hvy D ln h ∧ (m = true ∨ h = true ∨ 40 < ln)
set_option maxHeartbeats 2000000 in
set_option maxRecDepth 100000 in
theorem Steps_big {m h : Bool} (hm : Mch n D ln m h) (nn dr : Int) (lo : Option Addr) (cl : Nat) (po : Option Addr) (pc : Nat) (B : Nat → Option Addr) (K : Nat → Nat) (w : World) (hp : Pts w Z po ln D B K) :
    Calls Try.prog 7 #[.agg #[.int .i64 k, .int .i64 r, .int .i64 c, .int .i64 q, .slice lo n cl], .slice po ln pc, .int .i64 nn, .int .i64 dr] w fun e w' => e = .returned (.bool true) ∧ Below w.heap.size w w' := by
  obtain ⟨w0, hw0⟩ : ∃ w0, w0 = w.alloc (.cells #[.int .i64 k, .int .i64 r, .int .i64 c, .int .i64 q, .slice lo n cl] 27) := ⟨_, rfl⟩
  have b0 : Below w.heap.size w w0 := by rw [hw0]; exact below_alloc _ _
  have HAL := alive_any w0
  have HMU := fun v => much_any k r c q lo n cl v m hm.1
  have HHE : Hid (∀ v, Below w.heap.size w v → Calls Try.prog 19 #[.slice po ln pc] v fun e w' => e = .returned (.bool h) ∧ w' = v) := fun v hv => heavy_any hm.2.1 po pc B K v (hp.below hv)
  have HB0 : Hid (Below w.heap.size w w0) := b0
  have SH : Hid (∀ v, Below w0.heap.size w0 v → v.cell? ⟨w.heap.size, 0, none⟩ = some (.int .i64 k) ∧ v.cell? ⟨w.heap.size, 1, none⟩ = some (.int .i64 r) ∧ v.cell? ⟨w.heap.size, 2, none⟩ = some (.int .i64 c) ∧ v.cell? ⟨w.heap.size, 3, none⟩ = some (.int .i64 q) ∧ v.cell? ⟨w.heap.size, 4, none⟩ = some (.slice lo n cl)) := fun v hv => img_held hw0 hv
  have hor := hm.2.2
  clear hm hp b0
  go_enter Try.func7, Try.ntmps7
  go_wp2_with fail
  rw [← hw0]
  clear hw0
  refine HAL.mono ?_
  rintro e w1 ⟨rfl, h1⟩
  obtain ⟨s0, s1, s2, s3, s4⟩ := SH.out w1 h1
  have HB1 : Hid (Below w.heap.size w w1) := below_then HB0.out h1
  clear HAL h1 SH
  rcases hor with rfl | rfl | hl
  · go_wp2_with (go_at_call 18; refine (HMU _).mono ?_; rintro e w2 ⟨rfl, h2⟩)
    go_ret
    exact ⟨rfl, below_then HB1.out h2⟩
  · cases m
    · go_wp2_with (first | (go_at_call 18; refine (HMU _).mono ?_; rintro e w2 ⟨rfl, h2⟩; have HH := HHE.out w2 (below_then HB1.out h2)) | (go_at_call 19; refine HH.mono ?_; rintro e w' ⟨rfl, hw'⟩; obtain rfl := hw'.symm))
      go_ret
      exact ⟨rfl, below_then HB1.out h2⟩
    · go_wp2_with (go_at_call 18; refine (HMU _).mono ?_; rintro e w2 ⟨rfl, h2⟩)
      go_ret
      exact ⟨rfl, below_then HB1.out h2⟩
  · have hl2 : (40 : Int) < (ln : Int) := by omega
    cases m
    · cases h
      all_goals
        go_wp2_with (first | (go_at_call 18; refine (HMU _).mono ?_; rintro e w2 ⟨rfl, h2⟩; have HH := HHE.out w2 (below_then HB1.out h2)) | (go_at_call 19; refine HH.mono ?_; rintro e w' ⟨rfl, hw'⟩; obtain rfl := hw'.symm))
        go_ret
        exact ⟨rfl, below_then HB1.out h2⟩
    · go_wp2_with (go_at_call 18; refine (HMU _).mono ?_; rintro e w2 ⟨rfl, h2⟩)
      go_ret
      exact ⟨rfl, below_then HB1.out h2⟩
set_option maxHeartbeats 2000000 in
set_option maxRecDepth 100000 in
theorem Steps_err {x : Int} {nn : Int} (haf : Aft k r c q n F D ln nn x 0 0 0 0 0 (fun _ => [])) (hx : ¬ x = 0) (dr : Int) (hn : n ≤ 2000) (hhv : Hvy D ln false) (hln : ln ≤ 40) (lo : Option Addr) (cl : Nat) (A : Nat → Option Addr) (C : Nat → Nat) (po : Option Addr) (pc : Nat) (hpc : ln ≤ pc) (B : Nat → Option Addr) (K : Nat → Nat) (w : World) (hl : Lst w lo n A C F) (hp : Pts w Z po ln D B K) :
    Calls Try.prog 7 #[.agg #[.int .i64 k, .int .i64 r, .int .i64 c, .int .i64 q, .slice lo n cl], .slice po ln pc, .int .i64 nn, .int .i64 dr] w fun e w' => e = .returned (.bool true) ∧ Below w.heap.size w w' := by
  have hx2 : (x != 0) = true := by simp; exact hx
  obtain ⟨w0, hw0⟩ : ∃ w0, w0 = w.alloc (.cells #[.int .i64 k, .int .i64 r, .int .i64 c, .int .i64 q, .slice lo n cl] 27) := ⟨_, rfl⟩
  have b0 : Below w.heap.size w w0 := by rw [hw0]; exact below_alloc _ _
  have z0 : w.heap.size < w0.heap.size := by rw [hw0]; simp
  have HAL := alive_any w0
  have HMU := fun v => much_any k r c q lo n cl v false (by simp; omega)
  have HHE : Hid (∀ v, Below w.heap.size w v → Calls Try.prog 19 #[.slice po ln pc] v fun e w' => e = .returned (.bool false) ∧ w' = v) := fun v hv => heavy_any hhv po pc B K v (hp.below hv)
  have HB0 : Hid (Below w.heap.size w w0) := b0
  have SH : Hid (∀ v, Below w0.heap.size w0 v → v.cell? ⟨w.heap.size, 0, none⟩ = some (.int .i64 k) ∧ v.cell? ⟨w.heap.size, 1, none⟩ = some (.int .i64 r) ∧ v.cell? ⟨w.heap.size, 2, none⟩ = some (.int .i64 c) ∧ v.cell? ⟨w.heap.size, 3, none⟩ = some (.int .i64 q) ∧ v.cell? ⟨w.heap.size, 4, none⟩ = some (.slice lo n cl)) := fun v hv => img_held hw0 hv
  have hl2 : ¬ (40 : Int) < (ln : Int) := by omega
  have HP : Hid (Pts w Z po ln D B K) := hp
  have HL : Hid (Lst w lo n A C F) := hl
  have HAF : Hid (∀ v, Below w.heap.size w v → _) := fun v hv => After_any haf lo cl A C po pc B K v (hl.below hv) (hp.below hv) hpc
  clear hp b0 hhv hl 
  go_enter Try.func7, Try.ntmps7
  go_wp2_with fail
  rw [← hw0]
  clear hw0
  refine HAL.mono ?_
  rintro e w1 ⟨rfl, h1⟩
  obtain ⟨s0, s1, s2, s3, s4⟩ := SH.out w1 h1
  have HB1 : Hid (Below w0.heap.size w0 w1) := h1
  clear HAL h1
  go_wp2_with (first | (go_at_call 18; refine (HMU _).mono ?_; rintro e w2 ⟨rfl, h2⟩; have HB2 : Hid (Below w0.heap.size w0 w2) := below_then HB1.out h2; have HH := HHE.out w2 (below_then HB0.out HB2.out); obtain ⟨q0, q1, q2, q3, q4⟩ := SH.out w2 HB2.out; clear h2) | (go_at_call 19; refine HH.mono ?_; rintro e w' ⟨rfl, hw'⟩; obtain rfl := hw'.symm) | fail)
  clear s0 s1 s2 s3 s4 HH HMU HHE HB1
  refine (HAF.out w2 (below_then HB0.out HB2.out)).mono ?_
  rintro e wa ⟨loa, Aa, Ca, rfl, hia, ha⟩
  have HBA : Hid (Below w.heap.size w wa) := below_then HB0.out (below_then HB2.out ha)
  clear ha hia hx
  go_wp2_with fail
  go_ret
  exact ⟨rfl, below_then HBA.out (below_alloc _ _)⟩
/-- The image that stands now is apart from the block that names it. -/
def Apt (U : Nat) (lo : Option Addr) (n : Nat) (A : Nat → Option Addr) (F : Nat → List UInt8) : Prop := (0 < n → ∀ a, lo = some a → ¬ a.block = U) ∧ ∀ i a, i < n → A i = some a → F i ≠ [] → ¬ a.block = U
def Now (w : World) (U : Nat) (k r c q : Int) (lo : Option Addr) (n cl : Nat) (A : Nat → Option Addr) (C : Nat → Nat) (F : Nat → List UInt8) : Prop :=
  Blk w U 27 [.int .i64 k, .int .i64 r, .int .i64 c, .int .i64 q, .slice lo n cl] ∧ Lst w lo n A C F ∧ Apt U lo n A F
theorem ck_aft {k r c q : Int} {n : Nat} {F : Nat → List UInt8} {N Q S : Nat} {D : Nat → Pt} (hck : Ck k r c q n F 0 N Q S) (m : Nat) (ht : ∀ i, i < m → takB N Q S (D i) = true) : Ck k r c q n (aft Q D m F) 0 N Q S := by
  obtain ⟨h1, h2, h3⟩ := hck.ok rfl
  exact .inl ⟨rfl, h1, h2, aft_fit h3 m ht⟩
theorem ck_wip {k r c q : Int} {n : Nat} {F : Nat → List UInt8} {N Q S : Nat} (hck : Ck k r c q n F 0 N Q S) (d : Nat) : Ck k r c q n (wpF Q d F) 0 N Q S := by
  obtain ⟨h1, h2, h3⟩ := hck.ok rfl
  refine .inl ⟨rfl, h1, h2, fun i hi => ?_⟩
  unfold wpF
  split
  · exact .inl rfl
  · exact h3 i hi
set_option maxHeartbeats 8000000 in
set_option maxRecDepth 100000 in
theorem Steps_go {N Q S : Nat} (hck : Ck k r c (Q : Int) n F 0 N Q S) (ht : ∀ i, i < ln → takB N Q S (D i) = true) (nn : Nat) (hnn : nn ≤ ln) (dr : Int) (hn : n ≤ 2000) (hhv : Hvy D ln false) (hln : ln ≤ 40) (lo : Option Addr) (cl : Nat) (A : Nat → Option Addr) (C : Nat → Nat) (po : Option Addr) (pc : Nat) (hpc : ln ≤ pc) (B : Nat → Option Addr) (K : Nat → Nat) (w : World) (hl : Lst w lo n A C F) (hp : Pts w Z po ln D B K) :
    Calls Try.prog 7 #[.agg #[.int .i64 k, .int .i64 r, .int .i64 c, .int .i64 (Q : Int), .slice lo n cl], .slice po ln pc, .int .i64 (nn : Int), .int .i64 dr] w fun e w' => e = .returned (.bool true) ∧ Below w.heap.size w w' := by
  have haf : Aft k r c (Q : Int) n F D ln (nn : Int) 0 k r c (Q : Int) n (aft Q D nn F) := ⟨0, N, Q, S, hck, .inl ⟨rfl, by omega, ht, by omega, by omega, rfl, rfl, rfl, rfl, rfl, rfl, by rw [Int.toNat_natCast]⟩⟩
  have HCA : Hid (∀ m, m ≤ ln → Ck k r c (Q : Int) n (aft Q D m F) 0 N Q S) := fun m hm => ck_aft hck m (fun i hi => ht i (by omega))
  have HTK : Hid (∀ i, i < ln → takB N Q S (D i) = true) := ht
  obtain ⟨hpm, hne, hfit⟩ := hck.ok rfl
  obtain ⟨hN1, hN2, hQ1, hQ, hS1, hS2, hn1, hn2⟩ := hpm.bounds
  rw [← hne] at hn1 hn2
  have HNE : Hid (n = N * Q * 2) := hne
  have HKR : Hid ((N : Int) = k + r) := hpm.2.1
  have HLT : Hid _ := hl.lt
  obtain ⟨w0, hw0⟩ : ∃ w0, w0 = w.alloc (.cells #[.int .i64 k, .int .i64 r, .int .i64 c, .int .i64 (Q : Int), .slice lo n cl] 27) := ⟨_, rfl⟩
  have b0 : Below w.heap.size w w0 := by rw [hw0]; exact below_alloc _ _
  have z0 : w.heap.size < w0.heap.size := by rw [hw0]; simp
  have HAL := alive_any w0
  have HMU := fun v => much_any k r c (Q : Int) lo n cl v false (by simp; omega)
  have HHE : Hid (∀ v, Below w.heap.size w v → Calls Try.prog 19 #[.slice po ln pc] v fun e w' => e = .returned (.bool false) ∧ w' = v) := fun v hv => heavy_any hhv po pc B K v (hp.below hv)
  have HB0 : Hid (Below w.heap.size w w0) := b0
  have SH : Hid (∀ v, Below w0.heap.size w0 v → v.cell? ⟨w.heap.size, 0, none⟩ = some (.int .i64 k) ∧ v.cell? ⟨w.heap.size, 1, none⟩ = some (.int .i64 r) ∧ v.cell? ⟨w.heap.size, 2, none⟩ = some (.int .i64 c) ∧ v.cell? ⟨w.heap.size, 3, none⟩ = some (.int .i64 (Q : Int)) ∧ v.cell? ⟨w.heap.size, 4, none⟩ = some (.slice lo n cl)) := fun v hv => img_held hw0 hv
  have hl2 : ¬ (40 : Int) < (ln : Int) := by omega
  have HP : Hid (Pts w Z po ln D B K) := hp
  have HL : Hid (Lst w lo n A C F) := hl
  have HAF : Hid (∀ v, Below w.heap.size w v → _) := fun v hv => After_any haf lo cl A C po pc B K v (hl.below hv) (hp.below hv) hpc
  clear hp b0 hhv hl hpm hne hfit ht hck haf
  go_enter Try.func7, Try.ntmps7
  go_wp2_with fail
  rw [← hw0]
  clear hw0
  refine HAL.mono ?_
  rintro e w1 ⟨rfl, h1⟩
  obtain ⟨s0, s1, s2, s3, s4⟩ := SH.out w1 h1
  have HB1 : Hid (Below w0.heap.size w0 w1) := h1
  clear HAL h1
  go_wp2_with (first | (go_at_call 18; refine (HMU _).mono ?_; rintro e w2 ⟨rfl, h2⟩; have HB2 : Hid (Below w0.heap.size w0 w2) := below_then HB1.out h2; have HH := HHE.out w2 (below_then HB0.out HB2.out); obtain ⟨q0, q1, q2, q3, q4⟩ := SH.out w2 HB2.out; clear h2) | (go_at_call 19; refine HH.mono ?_; rintro e w' ⟨rfl, hw'⟩; obtain rfl := hw'.symm) | fail)
  clear s0 s1 s2 s3 s4 HH HMU HHE HB1
  refine (HAF.out w2 (below_then HB0.out HB2.out)).mono ?_
  rintro e wa ⟨loa, Aa, Ca, rfl, hia, ha⟩
  obtain ⟨wa', hwa'⟩ : ∃ wa', wa' = wa.alloc (.cells #[.int .i64 k, .int .i64 r, .int .i64 c, .int .i64 (Q : Int), .slice loa n n] 27) := ⟨_, rfl⟩
  obtain ⟨wb', hwb'⟩ : ∃ wb', wb' = wa'.alloc (.cells #[.int .i64 k, .int .i64 r, .int .i64 c, .int .i64 (Q : Int), .slice lo n cl] 27) := ⟨_, rfl⟩
  have za' : wa'.heap.size = wa.heap.size + 1 := by rw [hwa']; simp
  have zb' : wb'.heap.size = wa.heap.size + 2 := by rw [hwb']; simp; omega
  have baa : Below wa.heap.size wa wa' := by rw [hwa']; exact below_alloc _ _
  have bab : Below wa'.heap.size wa' wb' := by rw [hwb']; exact below_alloc _ _
  have HBA : Hid (Below w.heap.size w wa) := below_then HB0.out (below_then HB2.out ha)
  have HBS : Hid (Below w.heap.size w wb') := below_then HBA.out (below_then baa bab)
  have hwa0 : w.heap.size < wa.heap.size := by have := (below_then HB2.out ha).size; omega
  have HIA : Hid (Im w2.heap.size wb' loa n Aa Ca (aft Q D nn F)) := (hia.below (below_then baa bab))
  have HIAlt : Hid _ := hia.lst.lt
  have HVA : Hid (Blk wb' wa.heap.size 27 [.int .i64 k, .int .i64 r, .int .i64 c, .int .i64 (Q : Int), .slice loa n n]) := (show Blk wa' wa.heap.size 27 [.int .i64 k, .int .i64 r, .int .i64 c, .int .i64 (Q : Int), .slice loa n n] by rw [hwa']; exact blk_new wa 27 _).below bab
  have HVU : Hid (Blk wb' (wa.heap.size + 1) 27 [.int .i64 k, .int .i64 r, .int .i64 c, .int .i64 (Q : Int), .slice lo n cl]) := by rw [← za', hwb']; exact blk_new wa' 27 _
  have SM : Hid (∀ v, Only (fun x => x = wa.heap.size + 1) wb' v → v.cell? ⟨w.heap.size, 0, none⟩ = some (.int .i64 k) ∧ v.cell? ⟨w.heap.size, 1, none⟩ = some (.int .i64 r) ∧ v.cell? ⟨w.heap.size, 2, none⟩ = some (.int .i64 c) ∧ v.cell? ⟨w.heap.size, 3, none⟩ = some (.int .i64 (Q : Int)) ∧ v.cell? ⟨w.heap.size, 4, none⟩ = some (.slice lo n cl)) := fun v hv => by
    obtain ⟨a0, a1, a2, a3, a4⟩ := SH.out wb' (below_then HB2.out (below_then ha (below_then baa bab)))
    have hne : ¬ (w.heap.size = wa.heap.size + 1) := by omega
    exact ⟨hv.cell a0 hne, hv.cell a1 hne, hv.cell a2 hne, hv.cell a3 hne, hv.cell a4 hne⟩
  have SA : Hid (∀ v, Only (fun x => x = wa.heap.size + 1) wb' v → v.cell? ⟨wa.heap.size, 0, none⟩ = some (.int .i64 k) ∧ v.cell? ⟨wa.heap.size, 1, none⟩ = some (.int .i64 r) ∧ v.cell? ⟨wa.heap.size, 2, none⟩ = some (.int .i64 c) ∧ v.cell? ⟨wa.heap.size, 3, none⟩ = some (.int .i64 (Q : Int)) ∧ v.cell? ⟨wa.heap.size, 4, none⟩ = some (.slice loa n n)) := fun v hv => by
    have h := HVA.out.only hv (by omega)
    exact ⟨h.cell rfl, h.cell rfl, h.cell rfl, h.cell rfl, h.cell rfl⟩
  have SAL : Hid (∀ v, Only (fun x => x = wa.heap.size + 1) wb' v → Lst v loa n Aa Ca (aft Q D nn F)) := fun v hv => HIA.out.lst.only hv (fun h a e => by have := HIAlt.out.1 h a e; omega) (fun i a hi e hc => by have := HIAlt.out.2 i a hi e hc; omega)
  have HNOW : Hid (Now wb' (wa.heap.size + 1) k r c (Q : Int) lo n cl A C F) := ⟨HVU.out, HL.out.below HBS.out, fun h a e => by have := HLT.out.1 h a e; omega, fun i a hi e hc => by have := HLT.out.2 i a hi e hc; omega⟩
  have q0 := held q0 ha
  have q1 := held q1 ha
  have q2 := held q2 ha
  have q3 := held q3 ha
  have q4 := held q4 ha
  have r0 := fun o => held q0 (below_alloc wa o)
  have r1 := fun o => held q1 (below_alloc wa o)
  have r2 := fun o => held q2 (below_alloc wa o)
  have r3 := fun o => held q3 (below_alloc wa o)
  have r4 := fun o => held q4 (below_alloc wa o)
  clear ha hia baa bab HAF
  go_wp2_with fail
  rw [← hwa', ← hwb']
  clear hwa' hwb' r0 r1 r2 r3 r4
  have zb2 : wa.heap.size + 1 < wb'.heap.size := by omega
  clear za' zb'
  go_loopw [13, 14, 15, 16, 17, 18] (fun x _ _ _ _ _ wr => ∃ (i : Nat) (li : Option Addr) (ci : Nat) (Ai : Nat → Option Addr) (Ci : Nat → Nat), i ≤ nn ∧ x = .int .i64 i ∧ Hid (Now wr (wa.heap.size + 1) k r c (Q : Int) li n ci Ai Ci (aft Q D i F)) ∧ Hid (Only (fun x => x = wa.heap.size + 1) wb' wr)) (fun x _ _ _ _ _ _ => nn - (intOf x).toNat)
  case atStart => exact ⟨0, lo, cl, A, C, Nat.zero_le _, rfl, HNOW.out, Only.refl _ _⟩
  case round =>
    obtain ⟨i, li, ci, Ai, Ci, hi, rfl, hs, hb⟩ := hrel
    have hbw : Below w.heap.size w wr := HBS.out.trans (hb.out.below (fun i h => by omega) (by omega))
    have hzr := hb.out.size
    by_cases hlt : i < nn
    · have hpw := HP.out.below hbw
      obtain ⟨b, off, rfl, hc'⟩ := hpw.at_ (by omega)
      obtain ⟨y, hy⟩ : ∃ y, y = D i := ⟨_, rfl⟩
      have HY : Hid (y = D i) := hy
      have hty := HTK.out i (by omega)
      have hcx := hc' i (by omega)
      rw [← hy] at hty hcx
      obtain ⟨hh, hlen⟩ := tak_has hty
      obtain ⟨⟨d1, d2⟩, ⟨d3, d4⟩, d5, d6⟩ := has_true hh
      obtain ⟨pz, hpz⟩ : ∃ pz, pz = plc Q y.d y.r y.s := ⟨_, rfl⟩
      have HPZ : Hid (pz = plc Q y.d y.r y.s) := hpz
      have hpl := plc_lt hh
      rw [← hpz, ← HNE.out] at hpl
      have hpc2 := plc_cast (Q := Q) d1 d3 d5
      rw [← hpz] at hpc2
      obtain ⟨p, hp1, hp2⟩ : ∃ p : Nat, y.d * (Q : Int) = (p : Int) ∧ p ≤ 4096 := by
        obtain ⟨a, ea⟩ := Int.eq_ofNat_of_zero_le d1
        have : a * Q ≤ 16 * 256 := Nat.mul_le_mul (by omega) hQ
        exact ⟨a * Q, by rw [ea]; simp, by omega⟩
      have g1 : Value.int .i64 (IntKind.i64.wrap (y.d * (Q : Int))) = .int .i64 (p : Int) := by rw [hp1, show IntKind.i64.wrap (p : Int) = (p : Int) by rw [IntKind.wrap_i64]; omega]
      rw [hp1] at hpc2
      have g2 : IntKind.i64.wrap ((p : Int) + y.r) = (p : Int) + y.r := by rw [IntKind.wrap_i64]; omega
      have g3 : IntKind.i64.wrap (((p : Int) + y.r) * 2) = ((p : Int) + y.r) * 2 := by rw [IntKind.wrap_i64]; omega
      have g4 : IntKind.i64.wrap (((p : Int) + y.r) * 2 + y.s) = (pz : Int) := by rw [hpc2, IntKind.wrap_i64]; omega
      have HYB0 : Hid (RdB wr (B i) y.b) := by rw [HY.out]; exact hpw.rd i (by omega)
      have hnil : B i = none → y.b = [] ∧ K i = 0 := by rw [HY.out]; exact hpw.nil i (by omega)
      have hput : Aft k r c (Q : Int) n (aft Q D i F) (fun _ => y) 1 1 0 k r c (Q : Int) n (upd pz y.b (aft Q D i F)) := ⟨0, N, Q, S, HCA.out i (by omega), .inl ⟨rfl, by omega, fun _ _ => hty, by omega, by omega, rfl, rfl, rfl, rfl, rfl, rfl, by rw [hpz]; rfl⟩⟩
      have HPU : Hid (∀ v, Below wr.heap.size wr v → Calls Try.prog 22 #[.agg #[.int .i64 k, .int .i64 r, .int .i64 c, .int .i64 (Q : Int), .slice li n ci], .agg #[.int .i64 y.d, .int .i64 y.r, .int .i64 y.s, .slice (B i) y.b.length (K i)]] v fun e w' => ∃ lo' A' C', e = .returned (.tuple #[.agg #[.int .i64 k, .int .i64 r, .int .i64 c, .int .i64 (Q : Int), .slice lo' n n], .int .i64 0]) ∧ Im v.heap.size w' lo' n A' C' (upd pz y.b (aft Q D i F)) ∧ Below v.heap.size v w') := fun v hv => Put_any (y := y) hput li ci Ai Ci (B i) (K i) v (hs.out.2.1.below hv) (HYB0.out.below hv) hnil
      have CH : Hid (∀ v, Below wr.heap.size wr v → v.cell? ⟨wa.heap.size + 1, 0, none⟩ = some (.int .i64 k) ∧ v.cell? ⟨wa.heap.size + 1, 1, none⟩ = some (.int .i64 r) ∧ v.cell? ⟨wa.heap.size + 1, 2, none⟩ = some (.int .i64 c) ∧ v.cell? ⟨wa.heap.size + 1, 3, none⟩ = some (.int .i64 (Q : Int)) ∧ v.cell? ⟨wa.heap.size + 1, 4, none⟩ = some (.slice li n ci) ∧ v.cell? ⟨b, off + i * 4, none⟩ = some (.int .i64 y.d) ∧ v.cell? ⟨b, off + i * 4 + 1, none⟩ = some (.int .i64 y.r) ∧ v.cell? ⟨b, off + i * 4 + 2, none⟩ = some (.int .i64 y.s) ∧ v.cell? ⟨b, off + i * 4 + 3, none⟩ = some (.slice (B i) y.b.length (K i))) := fun v hv => by
        have h := hs.out.1.below hv
        exact ⟨h.cell rfl, h.cell rfl, h.cell rfl, h.cell rfl, h.cell rfl, held hcx.1 hv, held hcx.2.1 hv, held hcx.2.2.1 hv, held hcx.2.2.2 hv⟩
      obtain ⟨c0, c1, c2, c3, c4, x0, x1, x2, x3⟩ := CH.out wr (Below.refl _ _)
      have y' := fun o => CH.out (wr.alloc o) (below_alloc _ _)
      have yc0 := fun o => (y' o).1
      have yc1 := fun o => (y' o).2.1
      have yc2 := fun o => (y' o).2.2.1
      have yc3 := fun o => (y' o).2.2.2.1
      have yc4 := fun o => (y' o).2.2.2.2.1
      have yx0 := fun o => (y' o).2.2.2.2.2.1
      have yx1 := fun o => (y' o).2.2.2.2.2.2.1
      have yx2 := fun o => (y' o).2.2.2.2.2.2.2.1
      have yx3 := fun o => (y' o).2.2.2.2.2.2.2.2
      have i1 : (0 : Int) ≤ (i : Int) := by omega
      have i2 : (i : Int) < (ln : Int) := by omega
      have i3 : (i : Int) < (nn : Int) := by omega
      have hzwr : w.heap.size < wr.heap.size := by omega
      have hbb : b < wr.heap.size := World.block_lt_of_cell? wr _ hcx.1
      have ht0 : ∀ (v : World) i u o, (v.setCell ⟨wr.heap.size, i, none⟩ u).cell? ⟨wa.heap.size + 1, o, none⟩ = v.cell? ⟨wa.heap.size + 1, o, none⟩ := fun v i u o => World.cell?_of_block (Below.heap_setCell _ _ _ _ (by show wa.heap.size + 1 ≠ wr.heap.size; omega))
      have ht1 : ∀ (v : World) i u o, (v.setCell ⟨wr.heap.size, i, none⟩ u).cell? ⟨b, o, none⟩ = v.cell? ⟨b, o, none⟩ := fun v i u o => World.cell?_of_block (Below.heap_setCell _ _ _ _ (by show b ≠ wr.heap.size; omega))
      clear hpw hc' hy hty hh hlen d1 d2 d3 d4 d5 d6 hpz hpc2 hp1 y' hput hnil
      go_wp2_with fail
      go_region_held3 (fun v => v.cell? ⟨wa.heap.size + 1, 0, none⟩ = some (.int .i64 k) ∧ v.cell? ⟨wa.heap.size + 1, 1, none⟩ = some (.int .i64 r) ∧ v.cell? ⟨wa.heap.size + 1, 2, none⟩ = some (.int .i64 c) ∧ v.cell? ⟨wa.heap.size + 1, 3, none⟩ = some (.int .i64 (Q : Int)) ∧ v.cell? ⟨wa.heap.size + 1, 4, none⟩ = some (.slice li n ci) ∧ v.cell? ⟨b, off + i * 4, none⟩ = some (.int .i64 y.d) ∧ v.cell? ⟨b, off + i * 4 + 1, none⟩ = some (.int .i64 y.r) ∧ v.cell? ⟨b, off + i * 4 + 2, none⟩ = some (.int .i64 y.s) ∧ v.cell? ⟨b, off + i * 4 + 3, none⟩ = some (.slice (B i) y.b.length (K i))) (go_keep)
        ((go_at_call 22; refine (HPU.out _ (by first | exact below_drew _ _ | exact (below_alloc _ _).drew)).mono ?_; rintro e wn ⟨lon, An, Cn, rfl, hin, hbn⟩; have HN : Hid (Im wr.heap.size wn lon n An Cn (upd pz y.b (aft Q D i F))) := (by first | exact hin | exact hin.mono (by simp)); have HBn : Hid (Below wr.heap.size wr wn) := (by first | exact of_drew hbn | exact below_then (below_alloc _ _) (of_drew hbn)); (first | (obtain ⟨m0, m1, m2, m3, m4⟩ := img_held (w := wr) rfl (of_drew hbn); have m5 := blk_free (w := wr) rfl (of_drew hbn); have HN1 : Hid (Im (wr.heap.size + 1) wn lon n An Cn (upd pz y.b (aft Q D i F)) ∧ Blk wn wr.heap.size 27 [.int .i64 0, .int .i64 0, .int .i64 0, .int .i64 0, .slice none 0 0]) := ⟨(by simpa using hin), (Blk.below (blk_new wr 27 _) (of_drew hbn))⟩) | skip); obtain ⟨d0, d1, d2, d3, d4, e0, e1, e2, e3⟩ := CH.out wn HBn.out; have z' := fun o => CH.out (wn.alloc o) (below_then HBn.out (below_alloc _ _)); have zc0 := fun o => (z' o).1; have zc1 := fun o => (z' o).2.1; have zc2 := fun o => (z' o).2.2.1; have zc3 := fun o => (z' o).2.2.2.1; have zc4 := fun o => (z' o).2.2.2.2.1; have zx0 := fun o => (z' o).2.2.2.2.2.1; have zx1 := fun o => (z' o).2.2.2.2.2.2.1; have zx2 := fun o => (z' o).2.2.2.2.2.2.2.1; have zx3 := fun o => (z' o).2.2.2.2.2.2.2.2; clear hin hbn z'))
      · obtain ⟨wz, hwz⟩ : ∃ wz, wz = (wn.alloc (.cells #[.int .i64 k, .int .i64 r, .int .i64 c, .int .i64 (Q : Int), .slice lon n n] 27)) := ⟨_, rfl⟩
        rw [← hwz]
        have HBz : Hid (Below wr.heap.size wr wz) := by rw [hwz]; exact below_then HBn.out (below_alloc _ _)
        have HVz : Hid (Blk wz (wn.heap.size) 27 [.int .i64 k, .int .i64 r, .int .i64 c, .int .i64 (Q : Int), .slice lon n n]) := by rw [hwz]; exact blk_new wn 27 _
        have HNz : Hid (Lst wz lon n An Cn (upd pz y.b (aft Q D i F))) := by rw [hwz]; exact HN.out.lst.below (below_alloc _ _)
        have HGE : Hid ((∀ a, lon = some a → ¬ a.block = wa.heap.size + 1) ∧ ∀ i a, i < n → An i = some a → ¬ a.block = wa.heap.size + 1) := ⟨fun a e => by have := HN.out.ge.1 a e; omega, fun i a hi e => by have := HN.out.ge.2 i a hi e; omega⟩
        have HUz : Hid (Blk wz (wa.heap.size + 1) 27 [.int .i64 k, .int .i64 r, .int .i64 c, .int .i64 (Q : Int), .slice li n ci]) := hs.out.1.below HBz.out
        have HLz : Hid (Lst wz li n Ai Ci (aft Q D i F)) := hs.out.2.1.below HBz.out
        have HYB : Hid (RdB wz (B i) y.b) := HYB0.out.below HBz.out
        clear hwz zc0 zc1 zc2 zc3 zc4 zx0 zx1 zx2 zx3 yc0 yc1 yc2 yc3 yc4 yx0 yx1 yx2 yx3 c0 c1 c2 c3 c4 x0 x1 x2 x3 d0 d1 d2 d3 d4 e0 e1 e2 e3 ht0 ht1
        obtain ⟨u0, u1, u2, u3, u4, x0, x1, x2, x3⟩ := CH.out wz HBz.out
        have v0 : wz.cell? ⟨wn.heap.size, 0, none⟩ = some (.int .i64 k) := HVz.out.cell rfl
        have v1 : wz.cell? ⟨wn.heap.size, 1, none⟩ = some (.int .i64 r) := HVz.out.cell rfl
        have v2 : wz.cell? ⟨wn.heap.size, 2, none⟩ = some (.int .i64 c) := HVz.out.cell rfl
        have v3 : wz.cell? ⟨wn.heap.size, 3, none⟩ = some (.int .i64 (Q : Int)) := HVz.out.cell rfl
        have v4 : wz.cell? ⟨wn.heap.size, 4, none⟩ = some (.slice lon n n) := HVz.out.cell rfl
        have uf := HUz.out.free
        obtain ⟨w0', w1', w2', w3', w4'⟩ := SM.out wr hb.out
        have w3' := held w3' HBz.out
        have w4' := held w4' HBz.out
        have enn : ((n : Int) != (n : Int)) = false := by simp
        go_wp2_with fail
        go_region_held3 (fun v => v.cell? ⟨b, off + i * 4, none⟩ = some (.int .i64 y.d) ∧ v.cell? ⟨b, off + i * 4 + 1, none⟩ = some (.int .i64 y.r) ∧ v.cell? ⟨b, off + i * 4 + 2, none⟩ = some (.int .i64 y.s) ∧ v.cell? ⟨b, off + i * 4 + 3, none⟩ = some (.slice (B i) y.b.length (K i)) ∧ v.cell? ⟨w.heap.size, 3, none⟩ = some (.int .i64 (Q : Int))) (go_keep) (fail)
        all_goals
          obtain ⟨wy, hwy⟩ : ∃ wy, wy = wz.drew := ⟨_, rfl⟩
          rw [← hwy]
          have bzy : Below wz.heap.size wz wy := by rw [hwy]; exact below_drew _ _
          replace HBz : Hid (Below wr.heap.size wr wy) := below_then HBz.out bzy
          replace HVz : Hid (Blk wy (wn.heap.size) 27 [.int .i64 k, .int .i64 r, .int .i64 c, .int .i64 (Q : Int), .slice lon n n]) := HVz.out.below bzy
          replace HNz : Hid (Lst wy lon n An Cn (upd pz y.b (aft Q D i F))) := HNz.out.below bzy
          replace HUz : Hid (Blk wy (wa.heap.size + 1) 27 [.int .i64 k, .int .i64 r, .int .i64 c, .int .i64 (Q : Int), .slice li n ci]) := HUz.out.below bzy
          replace HLz : Hid (Lst wy li n Ai Ci (aft Q D i F)) := HLz.out.below bzy
          replace HYB : Hid (RdB wy (B i) y.b) := HYB.out.below bzy
          clear hwy
          replace v0 := held v0 bzy
          replace v1 := held v1 bzy
          replace v2 := held v2 bzy
          replace v3 := held v3 bzy
          replace v4 := held v4 bzy
          replace u0 := held u0 bzy
          replace u1 := held u1 bzy
          replace u2 := held u2 bzy
          replace u3 := held u3 bzy
          replace u4 := held u4 bzy
          replace x3 := held x3 bzy
          replace w4' := held w4' bzy
          replace uf := HUz.out.free
          clear x0 x1 x2 w3' bzy w0' w1' w2'
          go_wp2_with fail
          go_loop [17, 18] (fun x _ => ∃ j : Nat, j ≤ n ∧ x = .int .i64 j) (fun x _ => n - (intOf x).toNat)
          case atStart => exact ⟨0, Nat.zero_le _, rfl⟩
          case round =>
            obtain ⟨j, hj, rfl⟩ := hrel
            by_cases hjn : j < n
            · obtain ⟨bi, oi, rfl, hci⟩ := HLz.out.at_ (by omega)
              obtain ⟨bn, on, rfl, hcn⟩ := HNz.out.at_ (by omega)
              have ui := hci j hjn
              have un := hcn j hjn
              have vi := conv_any (HLz.out.rd j hjn) _ (Ci j) rfl
              have vn := conv_any (HNz.out.rd j hjn) _ (Cn j) rfl
              have j1 : (0 : Int) ≤ (j : Int) := by omega
              have j2 : (j : Int) < (n : Int) := by omega
              by_cases hjp : j = pz
              · have e1 : ((j : Int) == (pz : Int)) = true := by simp; omega
                have HE : Hid (upd pz y.b (aft Q D i F) j = y.b) := by rw [hjp]; exact upd_at _ _ _
                rw [HE.out] at un vn
                have vb := conv_any HYB.out _ (K i) rfl
                have e2 : ((sOf y.b).toList != (sOf y.b).toList) = false := by simp
                clear hjp hci hcn
                go_wp2_with fail
                go_round
                case rel => exact ⟨j + 1, by omega, by go_num⟩
                case measure => simp [intOf]; omega
              · have e1 : ((j : Int) == (pz : Int)) = false := by simp; omega
                have HE : Hid (upd pz y.b (aft Q D i F) j = aft Q D i F j) := upd_ne _ _ hjp
                rw [HE.out] at un vn
                have e2 : ((sOf (aft Q D i F j)).toList != (sOf (aft Q D i F j)).toList) = false := by simp
                clear hjp hci hcn
                go_wp2_with fail
                go_round
                case rel => exact ⟨j + 1, by omega, by go_num⟩
                case measure => simp [intOf]; omega
            · obtain rfl : j = n := by omega
              have hzw := HBz.out.size
              go_wp2_with fail
              go_roundw
              case rel =>
                have hO := only5 wy (wa.heap.size + 1) (.int .i64 k) (.int .i64 r) (.int .i64 c) (.int .i64 (Q : Int)) (.slice lon j j)
                refine ⟨i + 1, lon, j, An, Cn, by omega, by go_num, ?_, ?_⟩
                · refine ⟨?_, ?_, ?_⟩
                  · have h := HUz.out
                    exact (((((h.set 0 _).set 1 _).set 2 _).set 3 _).set 4 _)
                  · show Lst _ _ _ _ _ (upd (plc Q (D i).d (D i).r (D i).s) (D i).b (aft Q D i F))
                    rw [← HY.out, ← HPZ.out]
                    exact HNz.out.only hO (fun _ a ha => HGE.out.1 a ha) (fun i a hi ha _ => HGE.out.2 i a hi ha)
                  · exact ⟨fun _ a ha => HGE.out.1 a ha, fun i a hi ha _ => HGE.out.2 i a hi ha⟩
                · exact (hb.out.then HBz.out).trans hO
              case measure => simp [intOf]; omega
      · obtain ⟨wz, hwz⟩ : ∃ wz, wz = (((((wn.setCell ⟨wr.heap.size, 0, none⟩ (.int .i64 k)).setCell ⟨wr.heap.size, 1, none⟩ (.int .i64 r)).setCell ⟨wr.heap.size, 2, none⟩ (.int .i64 c)).setCell ⟨wr.heap.size, 3, none⟩ (.int .i64 (Q : Int))).setCell ⟨wr.heap.size, 4, none⟩ (.slice lon n n)) := ⟨_, rfl⟩
        rw [← hwz]
        have HBz : Hid (Below wr.heap.size wr wz) := by rw [hwz]; exact HBn.out.trans ((only5 wn wr.heap.size _ _ _ _ _).below (fun b h => by omega) HBn.out.size)
        have HVz : Hid (Blk wz (wr.heap.size) 27 [.int .i64 k, .int .i64 r, .int .i64 c, .int .i64 (Q : Int), .slice lon n n]) := by rw [hwz]; exact ((((HN1.out.2.set 0 _).set 1 _).set 2 _).set 3 _).set 4 _
        have HNz : Hid (Lst wz lon n An Cn (upd pz y.b (aft Q D i F))) := by rw [hwz]; exact HN1.out.1.lst.only (only5 wn wr.heap.size _ _ _ _ _) (fun _ a e => by have := HN1.out.1.ge.1 a e; omega) (fun i a hi e _ => by have := HN1.out.1.ge.2 i a hi e; omega)
        have HGE : Hid ((∀ a, lon = some a → ¬ a.block = wa.heap.size + 1) ∧ ∀ i a, i < n → An i = some a → ¬ a.block = wa.heap.size + 1) := ⟨fun a e => by have := HN.out.ge.1 a e; omega, fun i a hi e => by have := HN.out.ge.2 i a hi e; omega⟩
        have HUz : Hid (Blk wz (wa.heap.size + 1) 27 [.int .i64 k, .int .i64 r, .int .i64 c, .int .i64 (Q : Int), .slice li n ci]) := hs.out.1.below HBz.out
        have HLz : Hid (Lst wz li n Ai Ci (aft Q D i F)) := hs.out.2.1.below HBz.out
        have HYB : Hid (RdB wz (B i) y.b) := HYB0.out.below HBz.out
        clear hwz zc0 zc1 zc2 zc3 zc4 zx0 zx1 zx2 zx3 yc0 yc1 yc2 yc3 yc4 yx0 yx1 yx2 yx3 c0 c1 c2 c3 c4 x0 x1 x2 x3 d0 d1 d2 d3 d4 e0 e1 e2 e3 ht0 ht1
        obtain ⟨u0, u1, u2, u3, u4, x0, x1, x2, x3⟩ := CH.out wz HBz.out
        have v0 : wz.cell? ⟨wr.heap.size, 0, none⟩ = some (.int .i64 k) := HVz.out.cell rfl
        have v1 : wz.cell? ⟨wr.heap.size, 1, none⟩ = some (.int .i64 r) := HVz.out.cell rfl
        have v2 : wz.cell? ⟨wr.heap.size, 2, none⟩ = some (.int .i64 c) := HVz.out.cell rfl
        have v3 : wz.cell? ⟨wr.heap.size, 3, none⟩ = some (.int .i64 (Q : Int)) := HVz.out.cell rfl
        have v4 : wz.cell? ⟨wr.heap.size, 4, none⟩ = some (.slice lon n n) := HVz.out.cell rfl
        have uf := HUz.out.free
        obtain ⟨w0', w1', w2', w3', w4'⟩ := SM.out wr hb.out
        have w3' := held w3' HBz.out
        have w4' := held w4' HBz.out
        have enn : ((n : Int) != (n : Int)) = false := by simp
        go_wp2_with fail
        go_region_held3 (fun v => v.cell? ⟨b, off + i * 4, none⟩ = some (.int .i64 y.d) ∧ v.cell? ⟨b, off + i * 4 + 1, none⟩ = some (.int .i64 y.r) ∧ v.cell? ⟨b, off + i * 4 + 2, none⟩ = some (.int .i64 y.s) ∧ v.cell? ⟨b, off + i * 4 + 3, none⟩ = some (.slice (B i) y.b.length (K i)) ∧ v.cell? ⟨w.heap.size, 3, none⟩ = some (.int .i64 (Q : Int))) (go_keep) (fail)
        all_goals
          obtain ⟨wy, hwy⟩ : ∃ wy, wy = wz.drew := ⟨_, rfl⟩
          rw [← hwy]
          have bzy : Below wz.heap.size wz wy := by rw [hwy]; exact below_drew _ _
          replace HBz : Hid (Below wr.heap.size wr wy) := below_then HBz.out bzy
          replace HVz : Hid (Blk wy (wr.heap.size) 27 [.int .i64 k, .int .i64 r, .int .i64 c, .int .i64 (Q : Int), .slice lon n n]) := HVz.out.below bzy
          replace HNz : Hid (Lst wy lon n An Cn (upd pz y.b (aft Q D i F))) := HNz.out.below bzy
          replace HUz : Hid (Blk wy (wa.heap.size + 1) 27 [.int .i64 k, .int .i64 r, .int .i64 c, .int .i64 (Q : Int), .slice li n ci]) := HUz.out.below bzy
          replace HLz : Hid (Lst wy li n Ai Ci (aft Q D i F)) := HLz.out.below bzy
          replace HYB : Hid (RdB wy (B i) y.b) := HYB.out.below bzy
          clear hwy
          replace v0 := held v0 bzy
          replace v1 := held v1 bzy
          replace v2 := held v2 bzy
          replace v3 := held v3 bzy
          replace v4 := held v4 bzy
          replace u0 := held u0 bzy
          replace u1 := held u1 bzy
          replace u2 := held u2 bzy
          replace u3 := held u3 bzy
          replace u4 := held u4 bzy
          replace x3 := held x3 bzy
          replace w4' := held w4' bzy
          replace uf := HUz.out.free
          clear x0 x1 x2 w3' bzy w0' w1' w2'
          go_wp2_with fail
          go_loop [17, 18] (fun x _ => ∃ j : Nat, j ≤ n ∧ x = .int .i64 j) (fun x _ => n - (intOf x).toNat)
          case atStart => exact ⟨0, Nat.zero_le _, rfl⟩
          case round =>
            obtain ⟨j, hj, rfl⟩ := hrel
            by_cases hjn : j < n
            · obtain ⟨bi, oi, rfl, hci⟩ := HLz.out.at_ (by omega)
              obtain ⟨bn, on, rfl, hcn⟩ := HNz.out.at_ (by omega)
              have ui := hci j hjn
              have un := hcn j hjn
              have vi := conv_any (HLz.out.rd j hjn) _ (Ci j) rfl
              have vn := conv_any (HNz.out.rd j hjn) _ (Cn j) rfl
              have j1 : (0 : Int) ≤ (j : Int) := by omega
              have j2 : (j : Int) < (n : Int) := by omega
              by_cases hjp : j = pz
              · have e1 : ((j : Int) == (pz : Int)) = true := by simp; omega
                have HE : Hid (upd pz y.b (aft Q D i F) j = y.b) := by rw [hjp]; exact upd_at _ _ _
                rw [HE.out] at un vn
                have vb := conv_any HYB.out _ (K i) rfl
                have e2 : ((sOf y.b).toList != (sOf y.b).toList) = false := by simp
                clear hjp hci hcn
                go_wp2_with fail
                go_round
                case rel => exact ⟨j + 1, by omega, by go_num⟩
                case measure => simp [intOf]; omega
              · have e1 : ((j : Int) == (pz : Int)) = false := by simp; omega
                have HE : Hid (upd pz y.b (aft Q D i F) j = aft Q D i F j) := upd_ne _ _ hjp
                rw [HE.out] at un vn
                have e2 : ((sOf (aft Q D i F j)).toList != (sOf (aft Q D i F j)).toList) = false := by simp
                clear hjp hci hcn
                go_wp2_with fail
                go_round
                case rel => exact ⟨j + 1, by omega, by go_num⟩
                case measure => simp [intOf]; omega
            · obtain rfl : j = n := by omega
              have hzw := HBz.out.size
              go_wp2_with fail
              go_roundw
              case rel =>
                have hO := only5 wy (wa.heap.size + 1) (.int .i64 k) (.int .i64 r) (.int .i64 c) (.int .i64 (Q : Int)) (.slice lon j j)
                refine ⟨i + 1, lon, j, An, Cn, by omega, by go_num, ?_, ?_⟩
                · refine ⟨?_, ?_, ?_⟩
                  · have h := HUz.out
                    exact (((((h.set 0 _).set 1 _).set 2 _).set 3 _).set 4 _)
                  · show Lst _ _ _ _ _ (upd (plc Q (D i).d (D i).r (D i).s) (D i).b (aft Q D i F))
                    rw [← HY.out, ← HPZ.out]
                    exact HNz.out.only hO (fun _ a ha => HGE.out.1 a ha) (fun i a hi ha _ => HGE.out.2 i a hi ha)
                  · exact ⟨fun _ a ha => HGE.out.1 a ha, fun i a hi ha _ => HGE.out.2 i a hi ha⟩
                · exact (hb.out.then HBz.out).trans hO
              case measure => simp [intOf]; omega
    · obtain rfl : i = nn := by omega
      obtain ⟨a0, a1, a2, a3, a4⟩ := SA.out wr hb.out
      have u0 : wr.cell? ⟨wa.heap.size + 1, 0, none⟩ = some (.int .i64 k) := hs.out.1.cell rfl
      have u1 : wr.cell? ⟨wa.heap.size + 1, 1, none⟩ = some (.int .i64 r) := hs.out.1.cell rfl
      have u2 : wr.cell? ⟨wa.heap.size + 1, 2, none⟩ = some (.int .i64 c) := hs.out.1.cell rfl
      have u3 : wr.cell? ⟨wa.heap.size + 1, 3, none⟩ = some (.int .i64 (Q : Int)) := hs.out.1.cell rfl
      have u4 : wr.cell? ⟨wa.heap.size + 1, 4, none⟩ = some (.slice li n ci) := hs.out.1.cell rfl
      have HSA := Same_img (sme_refl k r c (Q : Int) n (aft Q D i F)) li loa ci n Ai Aa Ci Ca wr (by omega) hs.out.2.1 (SAL.out wr hb.out)
      have CHA : Hid (∀ v, Below wr.heap.size wr v → v.cell? ⟨wa.heap.size, 0, none⟩ = some (.int .i64 k) ∧ v.cell? ⟨wa.heap.size, 1, none⟩ = some (.int .i64 r) ∧ v.cell? ⟨wa.heap.size, 2, none⟩ = some (.int .i64 c) ∧ v.cell? ⟨wa.heap.size, 3, none⟩ = some (.int .i64 (Q : Int)) ∧ v.cell? ⟨wa.heap.size, 4, none⟩ = some (.slice loa n n)) := fun v hv => by
        obtain ⟨a0, a1, a2, a3, a4⟩ := SA.out wr hb.out
        exact ⟨held a0 hv, held a1 hv, held a2 hv, held a3 hv, held a4 hv⟩
      have CHM : Hid (∀ v, Below wr.heap.size wr v → v.cell? ⟨w.heap.size, 0, none⟩ = some (.int .i64 k) ∧ v.cell? ⟨w.heap.size, 1, none⟩ = some (.int .i64 r) ∧ v.cell? ⟨w.heap.size, 2, none⟩ = some (.int .i64 c) ∧ v.cell? ⟨w.heap.size, 3, none⟩ = some (.int .i64 (Q : Int)) ∧ v.cell? ⟨w.heap.size, 4, none⟩ = some (.slice lo n cl)) := fun v hv => by
        obtain ⟨a0, a1, a2, a3, a4⟩ := SM.out wr hb.out
        exact ⟨held a0 hv, held a1 hv, held a2 hv, held a3 hv, held a4 hv⟩
      have HLA : Hid (∀ v, Below wr.heap.size wr v → Lst v loa n Aa Ca (aft Q D i F)) := fun v hv => (SAL.out wr hb.out).below hv
      have HBW : Hid (Below w.heap.size w wr) := hbw
      have hck := HCA.out i (by omega)
      obtain ⟨kb1, kb2, rb1, rb2⟩ : 1 ≤ k ∧ k ≤ 12 ∧ 0 ≤ r ∧ r ≤ 4 := by
        obtain ⟨hpm, _, _⟩ := hck.ok rfl
        obtain ⟨h1, h2, h3, h4, _⟩ := may_true hpm.1
        exact ⟨h1, h2, h3, h4⟩
      have e26 : ¬ (i : Int) < (i : Int) := by omega
      clear hbw
      go_wp2_with fail
      refine HSA.mono ?_
      rintro e ws ⟨rfl, hws⟩
      obtain ⟨a0, a1, a2, a3, a4⟩ := CHA.out ws hws
      by_cases hd : 0 ≤ dr ∧ dr < (N : Int)
      · obtain ⟨d, rfl⟩ := Int.eq_ofNat_of_zero_le hd.1
        have hwi : Wip k r c (Q : Int) n (aft Q D i F) (d : Int) 0 k r c (Q : Int) n (wpF Q d (aft Q D i F)) := ⟨0, N, Q, S, hck, .inl ⟨rfl, hd.1, hd.2, rfl, rfl, rfl, rfl, rfl, rfl, by rw [Int.toNat_natCast]⟩⟩
        have HWI := Wiped_any hwi loa n Aa Ca ws (HLA.out ws hws)
        have HCW : Hid (Ck k r c (Q : Int) n (wpF Q d (aft Q D i F)) 0 N Q S) := ck_wip hck d
        have HCK : Hid (Ck k r c (Q : Int) n (aft Q D i F) 0 N Q S) := hck
        have HBWS : Hid (Below wr.heap.size wr ws) := hws
        clear hwi hd hck hws HSA
        go_wp2_with fail
        refine HWI.mono ?_
        rintro e wt ⟨low, Aw, Cw, rfl, hiw, hwt⟩
        obtain ⟨wt', hwt'⟩ : ∃ wt', wt' = wt.alloc (.cells #[.int .i64 k, .int .i64 r, .int .i64 c, .int .i64 (Q : Int), .slice low n n] 27) := ⟨_, rfl⟩
        have btt : Below wt.heap.size wt wt' := by rw [hwt']; exact below_alloc _ _
        have HBT : Hid (Below wr.heap.size wr wt') := below_then HBWS.out (below_then hwt btt)
        have HLW : Hid (∀ v, Below wt'.heap.size wt' v → Lst v low n Aw Cw (wpF Q d (aft Q D i F))) := fun v hv => hiw.lst.below (below_then btt hv)
        have CHW : Hid (∀ v, Below wt'.heap.size wt' v → v.cell? ⟨wt.heap.size, 0, none⟩ = some (.int .i64 k) ∧ v.cell? ⟨wt.heap.size, 1, none⟩ = some (.int .i64 r) ∧ v.cell? ⟨wt.heap.size, 2, none⟩ = some (.int .i64 c) ∧ v.cell? ⟨wt.heap.size, 3, none⟩ = some (.int .i64 (Q : Int)) ∧ v.cell? ⟨wt.heap.size, 4, none⟩ = some (.slice low n n)) := fun v hv => img_held hwt' hv
        obtain ⟨a0, a1, a2, a3, a4⟩ := CHA.out wt' HBT.out
        obtain ⟨m0, m1, m2, m3, m4⟩ := CHM.out wt' HBT.out
        obtain ⟨t0, t1, t2, t3, t4⟩ := CHW.out wt' (Below.refl _ _)
        clear HWI hiw hwt btt
        go_wp2_with fail
        rw [← hwt']
        clear hwt'
        go_loop [20, 21] (fun x _ => ∃ j : Nat, j ≤ n ∧ x = .int .i64 j) (fun x _ => n - (intOf x).toNat)
        case atStart => exact ⟨0, Nat.zero_le _, rfl⟩
        case round =>
          obtain ⟨j, hj, rfl⟩ := hrel
          by_cases hjn : j < n
          · have LA := HLA.out wt' HBT.out
            have LW := HLW.out wt' (Below.refl _ _)
            obtain ⟨ba, oa, rfl, hca⟩ := LA.at_ (by omega)
            obtain ⟨bw, ow, rfl, hcw⟩ := LW.at_ (by omega)
            have ua := hca j hjn
            have uw := hcw j hjn
            have va := conv_any (LA.rd j hjn) _ (Ca j) rfl
            have vw := conv_any (LW.rd j hjn) _ (Cw j) rfl
            have j1 : (0 : Int) ≤ (j : Int) := by omega
            have j2 : (j : Int) < (n : Int) := by omega
            obtain ⟨h, hh⟩ : ∃ h, h = j / 2 := ⟨_, rfl⟩
            obtain ⟨g, hg⟩ : ∃ g, g = h / Q := ⟨_, rfl⟩
            have hgb : g ≤ 2000 := by rw [hg]; exact Nat.le_trans (Nat.div_le_self _ _) (by omega)
            have e1 : (j : Int) / 2 = (h : Int) := by omega
            have e2 : (h : Int) / (Q : Int) = (g : Int) := by rw [hg]; simp
            have nQ : ¬ Q = 0 := by omega
            have nQ2 : ¬ (Q : Int) = 0 := by omega
            have HG : Hid (j / (2 * Q) = g) := by show _ = _; rw [hg, hh, Nat.div_div_eq_div_mul]
            clear hh hg hca hcw LA LW
            by_cases hgd : g = d
            · have e3 : ((g : Int) == (d : Int)) = true := by simp; omega
              have hw0 : wpF Q d (aft Q D i F) j = [] := if_pos (HG.out.trans hgd)
              rw [hw0] at uw vw
              have vw : (convert 33 9 (.slice (Aw j) 0 (Cw j))).run Try.prog wt' = .ok (.string ⟨#[]⟩) wt' := vw
              clear hgd hw0
              go_wp2_with fail
              go_round
              case rel => exact ⟨j + 1, by omega, by go_num⟩
              case measure => simp [intOf]; omega
            · have e3 : ((g : Int) == (d : Int)) = false := by simp; omega
              have hw0 : wpF Q d (aft Q D i F) j = aft Q D i F j := if_neg (fun h => hgd (HG.out.symm.trans h))
              rw [hw0] at uw vw
              have e4 : ((sOf (aft Q D i F j)).toList != (sOf (aft Q D i F j)).toList) = false := by simp
              clear hgd hw0
              go_wp2_with fail
              go_round
              case rel => exact ⟨j + 1, by omega, by go_num⟩
              case measure => simp [intOf]; omega
          · obtain rfl : j = n := by omega
            have HC1 := Check_img HCW.out low j Aw Cw wt' (HLW.out wt' (Below.refl _ _))
            have HC2 : Hid (∀ v, Below wt'.heap.size wt' v → Calls Try.prog 17 #[.agg #[.int .i64 k, .int .i64 r, .int .i64 c, .int .i64 (Q : Int), .slice loa j j]] v fun e w' => e = .returned (.int .i64 0) ∧ Below v.heap.size v w') := fun v hv => Check_img HCK.out loa j Aa Ca v (HLA.out v (below_then HBT.out hv))
            have tok1 : True := trivial
            go_wp2_with (first
              | (go_at_call 17; have _t := tok1; refine HC1.mono ?_; rintro e wu ⟨rfl, hu⟩; have HU : Hid (Below wt'.heap.size wt' wu) := hu; obtain ⟨f0, f1, f2, f3, f4⟩ := CHA.out wu (below_then HBT.out hu); clear hu tok1)
              | (go_at_call 17; refine (HC2.out wu HU.out).mono ?_; rintro e wv ⟨rfl, hv⟩; have HV : Hid (Below wt'.heap.size wt' wv) := below_then HU.out hv; clear hv))
            go_ret
            exact ⟨rfl, below_then HBW.out (below_then HBT.out HV.out)⟩
      · have hwi : Wip k r c (Q : Int) n (aft Q D i F) dr 2 0 0 0 0 0 (fun _ => []) := ⟨0, N, Q, S, hck, .inr ⟨⟨rfl, rfl, rfl, rfl, rfl, rfl⟩, .inr ⟨rfl, hd, rfl⟩⟩⟩
        have HWI := Wiped_any hwi loa n Aa Ca ws (HLA.out ws hws)
        have HBWS : Hid (Below wr.heap.size wr ws) := hws
        have HD : Hid (dr < 0 ∨ k + r ≤ dr) := by have := HKR.out; show _ ∨ _; omega
        clear hwi hck hws HSA hd
        go_wp2_with fail
        refine HWI.mono ?_
        rintro e wt ⟨low, Aw, Cw, rfl, hiw, hwt⟩
        have HBT : Hid (Below wr.heap.size wr wt) := below_then HBWS.out hwt
        obtain ⟨m0, m1, m2, m3, m4⟩ := CHM.out wt HBT.out
        have o0 := fun o => held m0 (below_alloc wt o)
        have o1 := fun o => held m1 (below_alloc wt o)
        clear HWI hiw hwt
        by_cases hd0 : dr < 0
        · go_wp2_with fail
          go_ret
          exact ⟨rfl, below_then HBW.out (below_then HBT.out (below_alloc _ _))⟩
        · have hd1 : k + r ≤ dr := by rcases HD.out with h | h; exact absurd h hd0; exact h
          go_wp2_with fail
          go_ret
          exact ⟨rfl, below_then HBW.out (below_then HBT.out (below_alloc _ _))⟩
end
theorem Steps_any (k r c q : Int) (nn dr : Int) (lo : Option Addr) (n cl : Nat) (A : Nat → Option Addr) (C : Nat → Nat) (F : Nat → List UInt8) (po : Option Addr) (ln pc : Nat) (D : Nat → Pt) (B : Nat → Option Addr) (K : Nat → Nat) {Z : Nat → Prop} (hpc : ln ≤ pc) (w : World) (hl : Lst w lo n A C F) (hp : Pts w Z po ln D B K) :
    Calls Try.prog 7 #[.agg #[.int .i64 k, .int .i64 r, .int .i64 c, .int .i64 q, .slice lo n cl], .slice po ln pc, .int .i64 nn, .int .i64 dr] w fun e w' => e = .returned (.bool true) ∧ Below w.heap.size w w' := by
  obtain ⟨h, hh⟩ := hvy_ex D ln
  by_cases hb : 2000 < n ∨ h = true ∨ 40 < ln
  · refine Steps_big (m := decide (2000 < n)) (h := h) ⟨rfl, hh, ?_⟩ nn dr lo cl po pc B K w hp
    rcases hb with e | e | e
    · exact .inl (decide_eq_true e)
    · exact .inr (.inl e)
    · exact .inr (.inr e)
  · have h1 : n ≤ 2000 := by omega
    have h2 : h = false := by cases h; rfl; exact absurd (.inr (.inl rfl)) hb
    have h3 : ln ≤ 40 := by omega
    subst h2
    obtain ⟨x, k', r', c', q', n', F', y, N, Q, S, hck, hc⟩ := aft_ex k r c q n F D ln nn
    rcases hc with ⟨rfl, a1, a2, a3, a4, rfl, rfl, rfl, rfl, rfl, rfl, rfl⟩ | ⟨⟨rfl, rfl, rfl, rfl, rfl, rfl⟩, hc⟩
    · obtain ⟨mm, rfl⟩ := Int.eq_ofNat_of_zero_le a3
      obtain rfl : q' = (Q : Int) := ((hck.ok rfl).1.2.2.1).symm
      exact Steps_go hck a2 mm (by omega) dr h1 hh h3 lo cl A C po pc hpc B K w hl hp
    · refine Steps_err ⟨y, N, Q, S, hck, .inr ⟨⟨rfl, rfl, rfl, rfl, rfl, rfl⟩, hc⟩⟩ ?_ dr h1 hh h3 lo cl A C po pc hpc B K w hl hp
      rcases hc with ⟨e1, rfl⟩ | ⟨_, _, rfl⟩ | ⟨_, _, _, rfl⟩ | ⟨_, _, _, _, rfl⟩
      · exact e1
      · decide
      · decide
      · decide
end Go.Proofs.Ytenlfhdchflnjaa
