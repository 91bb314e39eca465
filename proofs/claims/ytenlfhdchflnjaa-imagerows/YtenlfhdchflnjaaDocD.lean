/- What the document says of an image. -/
import Derived.Test.YtenlfhdchflnjaaDocC
import Derived.Test.YtenlfhdchflnjaaImgS
import Derived.Test.YtenlfhdchflnjaaImgS
namespace Go.Proofs.Ytenlfhdchflnjaa
open Go.RowKit

section
variable {k r c q : Int} {n : Nat} {F : Nat → List UInt8} {N Q S : Nat}
set_option maxHeartbeats 1000000 in
set_option maxRecDepth 100000 in
theorem Check_doc1 (hm : may k r c q = false) (lo : Option Addr) (cl : Nat) (w : World) :
    Calls Try.prog 27 #[.agg #[.int .i64 k, .int .i64 r, .int .i64 c, .int .i64 q, .slice lo n cl]] w fun e w' => e = .returned (.int .i64 2) ∧ Below w.heap.size w w' := by
  obtain ⟨w0, hw0⟩ : ∃ w0, w0 = w.alloc (.cells #[.int .i64 k, .int .i64 r, .int .i64 c, .int .i64 q, .slice lo n cl] 27) := ⟨_, rfl⟩
  have HB0 : Hid (Below w.heap.size w w0) := by rw [hw0]; exact below_alloc _ _
  have HM := May_any k r c q w0
  rw [hm] at HM
  go_enter Try.func27, Try.ntmps27
  go_wp2_with fail
  rw [← hw0]
  refine HM.mono ?_
  rintro e wa ⟨rfl, ha⟩
  go_wp2_with fail
  go_ret
  exact ⟨rfl, below_then HB0.out ha⟩
set_option maxHeartbeats 4000000 in
set_option maxRecDepth 100000 in
theorem Check_doc2 (hp : Pm k r c q N Q S) (x : Int) (hx : ((n = N * Q * 2 ∧ Fit n S F) ∧ x = 0) ∨ (¬ (n = N * Q * 2 ∧ Fit n S F) ∧ x = 90)) (lo : Option Addr) (cl : Nat) (A : Nat → Option Addr) (C : Nat → Nat) (w : World) (hl : Lst w lo n A C F) :
    Calls Try.prog 27 #[.agg #[.int .i64 k, .int .i64 r, .int .i64 c, .int .i64 q, .slice lo n cl]] w fun e w' => e = .returned (.int .i64 x) ∧ Below w.heap.size w w' := by
  have hbn := hp.bounds
  obtain rfl : q = (Q : Int) := hp.2.2.1.symm
  have HN : Hid (∀ v, Calls Try.prog 55 #[.agg #[.int .i64 k, .int .i64 r, .int .i64 c, .int .i64 (Q : Int)]] v fun e w' => e = .returned (.int .i64 (N : Int)) ∧ Below v.heap.size v w') := fun v => N_any c _ hp.2.1 hbn.2.1 v
  have HSZ : Hid (∀ v, Calls Try.prog 57 #[.agg #[.int .i64 k, .int .i64 r, .int .i64 c, .int .i64 (Q : Int)]] v fun e w' => e = .returned (.int .i64 (S : Int)) ∧ Below v.heap.size v w') := fun v => Size_any hp v
  obtain ⟨p, hpp⟩ : ∃ p, p = N * Q := ⟨_, rfl⟩
  have e1 : IntKind.i64.wrap ((N : Int) * (Q : Int)) = (p : Int) := by
    have : ((N : Int) * (Q : Int)) = (p : Int) := by rw [hpp]; simp
    rw [this, IntKind.wrap_i64]; omega
  rw [← hpp] at hx hbn
  have e1' : wrap64 ((N : Int) * (Q : Int)) = (p : Int) := by
    have : ((N : Int) * (Q : Int)) = (p : Int) := by rw [hpp]; simp
    rw [this, w64 _ (by omega)]
  have e2 : IntKind.i64.wrap ((p : Int) * 2) = ((p * 2 : Nat) : Int) := by rw [IntKind.wrap_i64]; omega
  obtain ⟨m, hm⟩ : ∃ m, m = p * 2 := ⟨_, rfl⟩
  rw [← hm] at hx e2 hbn
  have e2' : wrap64 ((p : Int) * 2) = (m : Int) := by rw [w64 _ (by omega)]; omega
  have hS := hbn.2.2.2.2.2.1
  have hm2 : m ≤ 8192 := hbn.2.2.2.2.2.2.2
  have HX : Hid (((n = m ∧ Fit n S F) ∧ x = 0) ∨ (¬ (n = m ∧ Fit n S F) ∧ x = 90)) := hx
  have HM := May_any k r c (Q : Int)
  rw [hp.1] at HM
  have HL : Hid (Lst w lo n A C F) := hl
  clear hpp hp hbn hm hx hl
  obtain ⟨w0, hw0⟩ : ∃ w0, w0 = w.alloc (.cells #[.int .i64 k, .int .i64 r, .int .i64 c, .int .i64 (Q : Int), .slice lo n cl] 27) := ⟨_, rfl⟩
  have HB0 : Hid (Below w.heap.size w w0) := by rw [hw0]; exact below_alloc _ _
  have SH : Hid (∀ v, Below w0.heap.size w0 v → v.cell? ⟨w.heap.size, 0, none⟩ = some (.int .i64 k) ∧ v.cell? ⟨w.heap.size, 1, none⟩ = some (.int .i64 r) ∧ v.cell? ⟨w.heap.size, 2, none⟩ = some (.int .i64 c) ∧ v.cell? ⟨w.heap.size, 3, none⟩ = some (.int .i64 (Q : Int)) ∧ v.cell? ⟨w.heap.size, 4, none⟩ = some (.slice lo n cl)) := fun v hv => img_held hw0 hv
  go_enter Try.func27, Try.ntmps27
  go_wp2_with fail
  rw [← hw0]
  clear hw0
  refine (HM _).mono ?_
  rintro e wa ⟨rfl, ha⟩
  have HA : Hid (Below w0.heap.size w0 wa) := ha
  have hcs0 := SH.out wa ha
  obtain ⟨c0, c1, c2, c3, c4⟩ := hcs0
  clear ha HM
  obtain ⟨zz, hzz⟩ : ∃ zz : Bool, ((n : Int) != (m : Int)) = zz := ⟨_, rfl⟩
  go_wp2_with fail
  go_region_held3 (fun v => v.cell? ⟨w.heap.size, 0, none⟩ = some (.int .i64 k) ∧ v.cell? ⟨w.heap.size, 1, none⟩ = some (.int .i64 r) ∧ v.cell? ⟨w.heap.size, 2, none⟩ = some (.int .i64 c) ∧ v.cell? ⟨w.heap.size, 3, none⟩ = some (.int .i64 (Q : Int)) ∧ v.cell? ⟨w.heap.size, 4, none⟩ = some (.slice lo n cl)) (go_keep) ((go_at_call 55; refine (HN.out _).mono ?_; rintro e wx ⟨rfl, hx⟩; have HX2 : Hid (Below w0.heap.size w0 wx) := below_then HA.out (of_drew hx); obtain ⟨d0, d1, d2, d3, d4⟩ := SH.out wx HX2.out; clear hx))
  all_goals
    by_cases hnm : n = m
    · obtain rfl : zz = false := by rw [← hzz, hnm]; simp
      have HNM : Hid (n = m) := hnm
      have hn2 : n ≤ 8192 := by omega
      clear hzz hnm
      go_wp2_with fail
      go_loopw [3] (fun x wr => ∃ i : Nat, i ≤ n ∧ x = .int .i64 i ∧ Hid (∀ j, j < i → (F j).length = 0 ∨ (F j).length = S) ∧ Hid (Below w0.heap.size w0 wr)) (fun x _ => n - (intOf x).toNat)
      case atStart => exact ⟨0, Nat.zero_le _, rfl, fun j hj => absurd hj (Nat.not_lt_zero _), HX2.out⟩
      case round =>
        obtain ⟨i, hi, rfl, hg, hb⟩ := hrel
        have hcs := SH.out wr hb.out
        obtain ⟨v0, v1, v2, v3, v4⟩ := hcs
        by_cases hlt : i < n
        · obtain ⟨b, off, rfl, hc⟩ := (HL.out.below (below_then HB0.out hb.out)).at_ (by omega)
          have ck := hc i hlt
          obtain ⟨L, hL⟩ : ∃ L, L = (F i).length := ⟨_, rfl⟩
          have HLi : Hid (L = (F i).length) := hL
          rw [← hL] at ck
          have SW : Hid (∀ v, Below wr.heap.size wr v → (v.cell? ⟨w.heap.size, 0, none⟩ = some (.int .i64 k) ∧ v.cell? ⟨w.heap.size, 1, none⟩ = some (.int .i64 r) ∧ v.cell? ⟨w.heap.size, 2, none⟩ = some (.int .i64 c) ∧ v.cell? ⟨w.heap.size, 3, none⟩ = some (.int .i64 (Q : Int)) ∧ v.cell? ⟨w.heap.size, 4, none⟩ = some (.slice (some ⟨b, off, none⟩) n cl)) ∧ v.cell? ⟨b, off + i, none⟩ = some (.slice (A i) L (C i))) := fun v hv => ⟨SH.out v (below_then hb.out hv), held ck hv⟩
          clear hc hL c0 c1 c2 c3 c4 d0 d1 d2 d3 d4
          have i1 : (0 : Int) ≤ (i : Int) := by omega
          have i2 : (i : Int) < (n : Int) := by omega
          by_cases h0 : L = 0
          · have k0 : ((L : Int) != 0) = false := by simp; omega
            have H0 : Hid (L = 0) := h0
            clear h0
            go_wp2_with fail
            go_quiet (fail)
            go_wp2
            go_roundw
            case rel => exact ⟨i + 1, by omega, by go_num, fun j hj => by rcases Nat.lt_succ_iff_lt_or_eq.1 hj with g | rfl; exact hg.out j g; exact .inl (HLi.out.symm.trans H0.out), below_then hb.out (below_q rfl)⟩
            case measure => simp [intOf]; omega
          · have k0 : ((L : Int) != 0) = true := by simp; omega
            obtain ⟨z, hz⟩ : ∃ z : Bool, ((L : Int) != (S : Int)) = z := ⟨_, rfl⟩
            go_wp2_with fail
            go_region_held3 (fun v => (v.cell? ⟨w.heap.size, 0, none⟩ = some (.int .i64 k) ∧ v.cell? ⟨w.heap.size, 1, none⟩ = some (.int .i64 r) ∧ v.cell? ⟨w.heap.size, 2, none⟩ = some (.int .i64 c) ∧ v.cell? ⟨w.heap.size, 3, none⟩ = some (.int .i64 (Q : Int)) ∧ v.cell? ⟨w.heap.size, 4, none⟩ = some (.slice (some ⟨b, off, none⟩) n cl)) ∧ v.cell? ⟨b, off + i, none⟩ = some (.slice (A i) L (C i))) (go_keep) ((go_at_call 57; refine (HSZ.out _).mono ?_; rintro e wy ⟨rfl, hy⟩; have HY : Hid (Below wr.heap.size wr wy) := of_drew hy; obtain ⟨⟨t0, t1, t2, t3, t4⟩, t5⟩ := SW.out wy HY.out; clear hy))
            all_goals
             by_cases h1 : L = S
             · obtain rfl : z = false := by rw [← hz, h1]; simp
               have HS : Hid (L = S) := h1
               clear h1 hz
               go_wp2_with fail
               go_roundw
               case rel => exact ⟨i + 1, by omega, by go_num, fun j hj => by rcases Nat.lt_succ_iff_lt_or_eq.1 hj with g | rfl; exact hg.out j g; exact .inr (HLi.out.symm.trans HS.out), below_then hb.out HY.out⟩
               case measure => simp [intOf]; omega
             · obtain rfl : z = true := by rw [← hz]; simp; omega
               have HF : Hid (x = 90) := by
                 rcases HX.out with ⟨⟨_, hf⟩, _⟩ | ⟨_, e⟩
                 · have := hf i hlt
                   rw [← HLi.out] at this
                   omega
                 · exact e
               clear hz
               go_wp2_with fail
               go_ret
               exact ⟨ret_int HF.out.symm, below_then HB0.out (below_then hb.out HY.out)⟩
        · obtain rfl : i = n := by omega
          have HF : Hid (x = 0) := by
            rcases HX.out with ⟨_, e⟩ | ⟨hf, _⟩
            · exact e
            · exact absurd ⟨HNM.out, fun j hj => hg.out j hj⟩ hf
          go_wp2_with fail
          go_ret
          exact ⟨ret_int HF.out.symm, below_then HB0.out hb.out⟩
    · obtain rfl : zz = true := by rw [← hzz]; simp; omega
      have HF : Hid (x = 90) := by
        rcases HX.out with ⟨⟨e, _⟩, _⟩ | ⟨_, e⟩
        · exact absurd e hnm
        · exact e
      clear hzz
      go_wp2_with fail
      go_ret
      exact ⟨ret_int HF.out.symm, below_then HB0.out HX2.out⟩
end
theorem Check_doc {k r c q : Int} {n : Nat} {F : Nat → List UInt8} {x : Int} {N Q S : Nat} (hck : Ck k r c q n F x N Q S) (lo : Option Addr) (cl : Nat) (A : Nat → Option Addr) (C : Nat → Nat) (w : World) (hl : Lst w lo n A C F) :
    Calls Try.prog 27 #[.agg #[.int .i64 k, .int .i64 r, .int .i64 c, .int .i64 q, .slice lo n cl]] w fun e w' => e = .returned (.int .i64 x) ∧ Below w.heap.size w w' := by
  rcases hck with ⟨rfl, h1, h2, h3⟩ | ⟨rfl, h1, _⟩ | ⟨rfl, _, _, _, N', Q', S', h1, h2⟩
  · exact Check_doc2 h1 0 (.inl ⟨⟨h2, h3⟩, rfl⟩) lo cl A C w hl
  · exact Check_doc1 h1 lo cl w
  · exact Check_doc2 h1 90 (.inr ⟨h2, rfl⟩) lo cl A C w hl
end Go.Proofs.Ytenlfhdchflnjaa
