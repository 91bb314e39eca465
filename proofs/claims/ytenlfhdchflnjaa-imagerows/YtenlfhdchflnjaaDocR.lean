/- A row of an image, as the document tells it. -/
import Derived.Test.YtenlfhdchflnjaaDocI
import Derived.Test.YtenlfhdchflnjaaImgM
namespace Go.Proofs.Ytenlfhdchflnjaa
open Go.RowKit

theorem own_lst2 {w : World} {V : Nat} {ao : Option Addr} {t : TypeId} {s n m cap : Nat} {A : Nat → Option Addr} {C : Nat → Nat} {F : Nat → List UInt8} (h : w.ownsRow V t s (.slice ao m cap) m (svs A C F n)) (hn0 : n = m * s) (h1 : ∀ i, i < n → RdB w (A i) (F i)) (h2 : ∀ i, i < n → A i = none → F i = [] ∧ C i = 0) : Lst w ao n A C F := by
  refine ⟨fun hn => ?_, h1, h2⟩
  rcases h.2 with ⟨e, h0⟩ | ⟨g, cap', cur, e, hB, hb, hc, _⟩
  · subst h0; omega
  · cases e
    refine ⟨g, 0, rfl, fun i hi => ?_⟩
    rw [Nat.zero_add, World.ownsRow.cellAt h i (by omega)]
    exact svs_get A C F n i hi
def rowI (Q o j : Nat) : Nat := (j / 2 * Q + o) * 2 + j % 2
set_option maxHeartbeats 4000000 in
set_option maxRecDepth 100000 in
theorem Pairs_any {k r c : Int} {N Q S : Nat} (hpm : Pm k r c (Q : Int) N Q S) (o : Nat) (ho : o < Q) (lo : Option Addr) (n cl : Nat) (hne : n = N * Q * 2) (A : Nat → Option Addr) (C : Nat → Nat) (F : Nat → List UInt8) (w : World) (hl : Lst w lo n A C F) :
    Calls Try.prog 58 #[.agg #[.int .i64 k, .int .i64 r, .int .i64 c, .int .i64 (Q : Int), .slice lo n cl], .int .i64 (o : Int)] w fun e w' => ∃ lo' cl', e = .returned (.slice lo' N cl') ∧ Lst w' lo' (2 * N) (fun j => A (rowI Q o j)) (fun j => C (rowI Q o j)) (fun j => F (rowI Q o j)) ∧ Below w.heap.size w w' := by
  have hbn := hpm.bounds
  have HN : Hid (∀ v, Calls Try.prog 55 #[.agg #[.int .i64 k, .int .i64 r, .int .i64 c, .int .i64 (Q : Int)]] v fun e w' => e = .returned (.int .i64 (N : Int)) ∧ Below v.heap.size v w') := fun v => N_any c _ hpm.2.1 hbn.2.1 v
  have HNU : Hid (∀ (i : Nat) v, i < N → Calls Try.prog 54 #[.agg #[.int .i64 k, .int .i64 r, .int .i64 c, .int .i64 (Q : Int)], .int .i64 (i : Int), .int .i64 (o : Int), .int .i64 0] v fun e w' => e = .returned (.int .i64 (((i * Q + o) * 2 : Nat) : Int)) ∧ Below v.heap.size v w') := fun i v hi => by
    have := Number_any hpm (i : Int) (o : Int) 0 v
    have hh : hasB N Q (i : Int) (o : Int) 0 = true := decide_eq_true (by omega)
    have hp : plc Q (i : Int) (o : Int) 0 = (i * Q + o) * 2 := by unfold plc; simp
    unfold numZ at this
    rwa [if_pos hh, hp] at this
  have hN16 := hbn.2.1
  have hn8 : n ≤ 8192 := by omega
  have HPZ : Hid (∀ i, i < N → (i * Q + o) * 2 + 1 < n) := fun i hi => by
    have h1 : (i + 1) * Q ≤ N * Q := Nat.mul_le_mul_right Q hi
    rw [Nat.add_mul, Nat.one_mul] at h1
    omega
  have HL : Hid (Lst w lo n A C F) := hl
  obtain ⟨i0, hinf, hz0, hz1, hz2⟩ := info_parts info59
  obtain ⟨w0, hw0⟩ : ∃ w0, w0 = w.alloc (.cells #[.int .i64 k, .int .i64 r, .int .i64 c, .int .i64 (Q : Int), .slice lo n cl] 27) := ⟨_, rfl⟩
  have HB0 : Hid (Below w.heap.size w w0) := by rw [hw0]; exact below_alloc _ _
  have hzw0 : w0.heap.size = w.heap.size + 1 := by rw [hw0]; simp
  have SH : Hid (∀ v, Below w0.heap.size w0 v → v.cell? ⟨w.heap.size, 0, none⟩ = some (.int .i64 k) ∧ v.cell? ⟨w.heap.size, 1, none⟩ = some (.int .i64 r) ∧ v.cell? ⟨w.heap.size, 2, none⟩ = some (.int .i64 c) ∧ v.cell? ⟨w.heap.size, 3, none⟩ = some (.int .i64 (Q : Int)) ∧ v.cell? ⟨w.heap.size, 4, none⟩ = some (.slice lo n cl)) := fun v hv => img_held hw0 hv
  clear hpm hne hl hbn
  go_enter Try.func58, Try.ntmps58
  go_wp2_with fail
  rw [← hw0]
  clear hw0
  go_loopw [5, 6] (fun vo vi wr => ∃ (i : Nat) (ao : Option Addr) (cap : Nat), i ≤ N ∧ vo = .slice ao i cap ∧ vi = .int .i64 i ∧ Hid (wr.ownsRow w0.heap.size 59 2 (.slice ao i cap) i (svs (fun j => A (rowI Q o j)) (fun j => C (rowI Q o j)) (fun j => F (rowI Q o j)) (2 * i))) ∧ Hid (Below w0.heap.size w0 wr)) (fun _ vi _ => N - (intOf vi).toNat)
  case atStart => exact ⟨0, none, 0, Nat.zero_le _, rfl, rfl, World.ownsRow_nil _ _ _ _, Below.refl _ _⟩
  case round =>
    obtain ⟨i, ao, cap, hi, rfl, rfl, hs, hb⟩ := hrel
    obtain ⟨s0, s1, s2, s3, s4⟩ := SH.out wr hb.out
    have tok1 : True := trivial
    by_cases hlt : i < N
    · have i1 : (0 : Int) ≤ (i : Int) := by omega
      have i2 : (i : Int) < (N : Int) := by omega
      obtain ⟨pz, hpz⟩ : ∃ pz, pz = (i * Q + o) * 2 := ⟨_, rfl⟩
      have HPI : Hid (pz = (i * Q + o) * 2) := hpz
      have hpn := HPZ.out i hlt
      have HNI : Hid (∀ v, Calls Try.prog 54 #[.agg #[.int .i64 k, .int .i64 r, .int .i64 c, .int .i64 (Q : Int)], .int .i64 (i : Int), .int .i64 (o : Int), .int .i64 0] v fun e w' => e = .returned (.int .i64 (pz : Int)) ∧ Below v.heap.size v w') := fun v => by rw [hpz]; exact HNU.out i v hlt
      rw [← hpz] at hpn
      clear hpz
      obtain ⟨pw, hpw⟩ : ∃ pw, pw = pz + 1 := ⟨_, rfl⟩
      have HPW : Hid (pw = pz + 1) := hpw
      rw [← hpw] at hpn
      have p3 : IntKind.i64.wrap ((pz : Int) + 1) = (pw : Int) := by rw [IntKind.wrap_i64]; omega
      have p4 : (pw : Int) < (n : Int) := by omega
      have p5 : (0 : Int) ≤ (pw : Int) := by omega
      have p6 : pz < n := by omega
      clear hpw
      go_wp2_with (first
        | (go_at_call 55; have _t := tok1; clear _t tok1; refine (HN.out _).mono ?_; rintro e wb ⟨rfl, h1⟩; have HBB : Hid (Below w0.heap.size w0 wb) := below_then hb.out h1; have HRB : Hid (Below wr.heap.size wr wb) := h1; clear s0 s1 s2 s3 s4; obtain ⟨s0, s1, s2, s3, s4⟩ := SH.out wb HBB.out; clear h1)
        | (go_at_call 54; refine (HNI.out _).mono ?_; rintro e wd ⟨rfl, h1⟩; have HBD : Hid (Below w0.heap.size w0 wd) := below_then HBB.out h1; have HRD : Hid (Below wr.heap.size wr wd) := below_then HRB.out h1; clear h1))
      obtain ⟨b, off, rfl, hc⟩ := (HL.out.below (below_then HB0.out HBD.out)).at_ (by omega)
      have hbb : b < w0.heap.size := by
        obtain ⟨b', o', e, hc3⟩ := HL.out.at_ (by omega)
        cases e
        have : b < w.heap.size := World.block_lt_of_cell? w _ (hc3 pz (by omega))
        omega
      have CH0 : Hid (wd.cell? ⟨w.heap.size, 4, none⟩ = some (.slice (some ⟨b, off, none⟩) n cl) ∧ wd.cell? ⟨b, off + pz, none⟩ = some (.slice (A pz) (F pz).length (C pz)) ∧ wd.cell? ⟨b, off + pw, none⟩ = some (.slice (A pw) (F pw).length (C pw))) := ⟨(SH.out wd HBD.out).2.2.2.2, hc pz (by omega), hc pw hpn⟩
      have CH : Hid (∀ v, Below w0.heap.size w0 v → v.cell? ⟨w.heap.size, 4, none⟩ = some (.slice (some ⟨b, off, none⟩) n cl) ∧ v.cell? ⟨b, off + pz, none⟩ = some (.slice (A pz) (F pz).length (C pz)) ∧ v.cell? ⟨b, off + pw, none⟩ = some (.slice (A pw) (F pw).length (C pw))) := fun v hv => by
        obtain ⟨b', o', e, hc3⟩ := (HL.out.below (below_then HB0.out hv)).at_ (by omega)
        cases e
        exact ⟨(SH.out v hv).2.2.2.2, hc3 pz (by omega), hc3 pw hpn⟩
      obtain ⟨f1, f2, f3⟩ := CH0.out
      have g1 := fun o => held f1 (below_alloc wd o)
      have g2' := fun o => held f2 (below_alloc wd o)
      have g3 := fun o => held f3 (below_alloc wd o)
      obtain ⟨XS, hXS⟩ : ∃ XS, XS = svs (fun j => A (rowI Q o j)) (fun j => C (rowI Q o j)) (fun j => F (rowI Q o j)) (2 * i) := ⟨_, rfl⟩
      have HXS : Hid (XS = svs (fun j => A (rowI Q o j)) (fun j => C (rowI Q o j)) (fun j => F (rowI Q o j)) (2 * i)) := hXS
      have HOB : Hid (∀ v, Below wd.heap.size wd v → v.ownsRow w0.heap.size 59 2 (.slice ao i cap) i XS) := fun v hv => by rw [HXS.out]; exact owns_stay hs.out fun g _ hg => (below_then HRD.out hv).block g hg
      have p1 : (0 : Int) ≤ (pz : Int) := by omega
      have p2 : (pz : Int) < (n : Int) := by omega
      have hzd := HBD.out.size
      clear hc hXS s0 s1 s2 s3 s4
      go_region_held3 (fun v => v.cell? ⟨w.heap.size, 4, none⟩ = some (.slice (some ⟨b, off, none⟩) n cl) ∧ v.cell? ⟨b, off + pz, none⟩ = some (.slice (A pz) (F pz).length (C pz)) ∧ v.cell? ⟨b, off + pw, none⟩ = some (.slice (A pw) (F pw).length (C pw))) (go_keep) ((refine Go.step_append_lies _ (by rfl) (.tmp 20) (.tmp 33) 42 (by rfl) w0.heap.size 59 i0 (.agg #[.slice none 0 0, .slice none 0 0]) 2 48 Try.underlying42 hinf hz0 hz1 hz2 (by rfl) (by decide) (.slice ao i cap) i XS (by simp [Act.eval]) (HOB.out _ (by first | exact below_alloc _ _ | exact below_then (below_drew _ _) (below_alloc _ _))) ⟨wd.heap.size, 0, none⟩ 1 1 [.slice (A pz) (F pz).length (C pz), .slice (A pw) (F pw).length (C pw)] (by simp [Act.eval]) (by rfl) (World.news_of_block (heap_alloc_new _ _)) (by simp [Value.oneCell']) (by decide) (by unfold maxLen; omega) (by omega) (by simp; omega) (wd.heap.size + 1) (by simp) ?_; intro g2 cap2 w2 hown2 hgrow2 hwh2 _; have HST : Hid (w2.ownsRow w0.heap.size 59 2 (.slice (some ⟨g2, 0, none⟩) (i + 1) cap2) (i + 1) (XS ++ [.slice (A pz) (F pz).length (C pz), .slice (A pw) (F pw).length (C pw)]) ∧ Below w0.heap.size w0 w2) := ⟨hown2, (by first | exact (HBD.out.alloc (by omega) _).grown hgrow2 (by simp; omega) (fun r hr => ((HOB.out _ (below_alloc wd (.cells #[] 3))).lt r hr).1) | exact ((HBD.out.trans (below_drew _ _)).alloc (show w0.heap.size ≤ wd.heap.size from hzd) _).grown hgrow2 (by simp; omega) (fun r hr => ((HOB.out _ (below_alloc wd (.cells #[] 3))).lt r hr).1))⟩; obtain ⟨u1, u2, u3⟩ := CH.out w2 HST.out.2; clear hown2 hgrow2 hwh2))
      all_goals
        go_wp2_with fail
        go_roundw
        case rel =>
          refine ⟨i + 1, some ⟨g2, 0, none⟩, cap2, by omega, rfl, by go_num, ?_, HST.out.2⟩
          have e0 : rowI Q o (2 * i) = pz := by unfold rowI; rw [HPI.out, show 2 * i / 2 = i by omega]; omega
          have e1 : rowI Q o (2 * i + 1) = pw := by unfold rowI; rw [HPW.out, HPI.out, show (2 * i + 1) / 2 = i by omega]; omega
          show World.ownsRow _ _ _ _ _ _ _
          rw [show 2 * (i + 1) = 2 * i + 1 + 1 by omega, svs, svs, e0, e1, ← HXS.out, List.append_assoc]
          exact HST.out.1
        case measure => simp [intOf]; omega
    · obtain rfl : i = N := by omega
      go_wp2_with (go_at_call 55; refine (HN.out _).mono ?_; rintro e wb ⟨rfl, h1⟩; have HBB : Hid (Below w0.heap.size w0 wb) := below_then hb.out h1; have HRB : Hid (Below wr.heap.size wr wb) := h1; clear h1)
      go_ret
      have hO := owns_stay hs.out fun g _ hg => HRB.out.block g hg
      have hL := HL.out.below (below_then HB0.out HBB.out)
      have hlt2 : ∀ j, j < 2 * i → rowI Q o j < n := fun j hj => by
        have h1 := HPZ.out (j / 2) (by omega)
        unfold rowI
        omega
      exact ⟨ao, cap, rfl, own_lst2 hO (by omega) (fun j hj => hL.rd _ (hlt2 j hj)) (fun j hj => hL.nil _ (hlt2 j hj)), below_then HB0.out HBB.out⟩
end Go.Proofs.Ytenlfhdchflnjaa
