/- LayoutSpans: the parts of a range, by the program beside the document; an answer that is written over. -/
import Derived.Test.YtenifakhojdfpaaLayN
import Derived.BigQuiet
import Derived.OpenShut
namespace Go.Proofs.Ytenifakhojdfpaa
open Go.RowKit

/-- But for block g, and there from cell i on, all is as it was. -/
structure Spoilt (g i : Nat) (v w : World) : Prop where
  os : w.os = v.os
  tape : w.tape = v.tape
  output : w.output = v.output
  size : w.heap.size = v.heap.size
  block : ∀ k, k ≠ g → w.heap[k]? = v.heap[k]?
  cell : ∀ j, i ≤ j → w.cell? ⟨g, j, none⟩ = v.cell? ⟨g, j, none⟩
  free : ∀ j, w.frozen? ⟨g, j, none⟩ = v.frozen? ⟨g, j, none⟩
theorem below_drewN (B : Nat) (w : World) (n : Nat) : Below B w (w.drewN n) := ⟨rfl, rfl, rfl, Nat.le_refl _, fun _ _ => rfl⟩
theorem Spoilt.refl (g i : Nat) (v : World) : Spoilt g i v v := ⟨rfl, rfl, rfl, rfl, fun _ _ => rfl, fun _ _ => rfl, fun _ => rfl⟩
theorem Spoilt.set {g i j i' : Nat} {v w : World} (h : Spoilt g i v w) (hi : i ≤ i') (hj : j < i') (u : Value) : Spoilt g i' v (w.setCell ⟨g, j, none⟩ u) :=
  ⟨h.os, h.tape, h.output, by rw [← h.size]; simp [World.setCell], fun k hk => (Below.heap_setCell _ _ _ _ hk).trans (h.block k hk),
   fun l hl => (World.cell?_setCell_other _ _ _ _ (fun e => by cases e; omega)).trans (h.cell l (by omega)), fun l => by rw [frozen_set]; exact h.free l⟩
theorem Spoilt.drew {g i : Nat} {v w : World} (h : Spoilt g i v w) (n : Nat) : Spoilt g i v (w.drewN n) := ⟨h.os, h.tape, h.output, h.size, h.block, h.cell, h.free⟩
set_option maxHeartbeats 2000000 in
set_option maxRecDepth 100000 in
theorem lspans_bad {k r c q : Int} {N W : Nat} {y : Int} (h : Par k r c q N W y) (off m : Int) (w : World) (e : Int) (hoff : off ≤ 9223372036854775807) (he : (y = 2 ∧ e = 2) ∨ (y = 0 ∧ off < 0 ∧ e = 2) ∨ (y = 0 ∧ 0 ≤ off ∧ m < 0 ∧ e = 2) ∨ (y = 0 ∧ 0 ≤ off ∧ 0 ≤ m ∧ (mst W : Int) < off + m ∧ e = 3)) :
    Calls Try.prog 5 #[.agg #[.int .i64 k, .int .i64 r, .int .i64 c, .int .i64 q], .int .i64 off, .int .i64 m] w fun e' w' => e' = .returned (.bool true) ∧ Below w.heap.size w w' := by
  have C0 := fun w => spans_bad h off m w e hoff he
  have C1 := fun w => rspans_bad h off m w e he
  clear h he
  obtain ⟨w0, hw0⟩ : ∃ w0, w0 = w.alloc (.cells #[.int .i64 k, .int .i64 r, .int .i64 c, .int .i64 q] 23) := ⟨_, rfl⟩
  have b0 : Below w.heap.size w w0 := by rw [hw0]; exact below_alloc _ _
  go_enter Try.func5, Try.ntmps5
  go_wp2_with fail
  rw [← hw0]
  refine (awake_any _).mono ?_
  rintro e wp ⟨rfl, hp⟩
  obtain ⟨s0, s1, s2, s3⟩ := par_held hw0 hp
  go_wp2_with fail
  refine (C0 _).mono ?_
  rintro e v0 ⟨rfl, g0⟩
  have k0 := below_then hp g0
  clear s0 s1 s2 s3
  obtain ⟨s0, s1, s2, s3⟩ := par_held hw0 k0
  go_wp2_with fail
  refine (C1 _).mono ?_
  rintro e v1 ⟨rfl, g1⟩
  have k1 := below_then k0 g1
  clear s0 s1 s2 s3
  obtain ⟨s0, s1, s2, s3⟩ := par_held hw0 k1
  go_wp2_with fail
  go_loopw [12] (fun x wr => x = .int .i64 0 ∧ wr = v1) (fun _ _ => 0)
  case atStart => exact ⟨rfl, rfl⟩
  case round =>
    obtain ⟨rfl, hwr⟩ := hrel
    subst hwr
    go_wp2_with fail
    refine (C0 _).mono ?_
    rintro e v2 ⟨rfl, g2⟩
    have k2 := below_then k1 g2
    clear s0 s1 s2 s3 hw0
    go_wp2_with fail
    go_loopw [15] (fun x wr => x = .int .i64 0 ∧ wr = v2) (fun _ _ => 0)
    case atStart => exact ⟨rfl, rfl⟩
    case round =>
      obtain ⟨rfl, hwr⟩ := hrel
      subst hwr
      go_wp2_with fail
      go_ret
      exact ⟨rfl, below_then b0 k2⟩
set_option maxHeartbeats 2000000 in
set_option maxRecDepth 100000 in
theorem lspans_good {k r c q : Nat} {N W : Nat} (h : Par (k : Int) (r : Int) (c : Int) (q : Int) N W 0) (o nn : Nat) (w : World) (hon : o + nn ≤ mst W) (hWk : W = k * c) (hk : 1 ≤ k) (hk2 : k ≤ 12) (hc1 : 8 ≤ c) (hc2 : c ≤ 64) (hmay : may k r c q = true) :
    Calls Try.prog 5 #[.agg #[.int .i64 (k : Int), .int .i64 (r : Int), .int .i64 (c : Int), .int .i64 (q : Int)], .int .i64 (o : Int), .int .i64 (nn : Int)] w fun e' w' => e' = .returned (.bool true) ∧ Below w.heap.size w w' := by
  have C0 := fun w => spans_good h o nn w hon hWk hk hc1 hc2
  have C1 := fun w => rspans_good h o nn w hon hk hk2 hc1 hc2 hmay
  have hm := mst_le W
  clear h
  obtain ⟨w0, hw0⟩ : ∃ w0, w0 = w.alloc (.cells #[.int .i64 (k : Int), .int .i64 (r : Int), .int .i64 (c : Int), .int .i64 (q : Int)] 23) := ⟨_, rfl⟩
  have b0 : Below w.heap.size w w0 := by rw [hw0]; exact below_alloc _ _
  go_enter Try.func5, Try.ntmps5
  go_wp2_with fail
  rw [← hw0]
  refine (awake_any _).mono ?_
  rintro e wp ⟨rfl, hp⟩
  obtain ⟨s0, s1, s2, s3⟩ := par_held hw0 hp
  have h0p : w.heap.size < w0.heap.size := by rw [hw0]; simp
  go_wp2_with fail
  refine (C0 _).mono ?_
  rintro e v0 ⟨n, ao, cap, rfl, hE, hown, g0⟩
  have k0 := below_then hp g0
  clear s0 s1 s2 s3
  obtain ⟨s0, s1, s2, s3⟩ := par_held hw0 k0
  go_wp2_with fail
  refine (C1 _).mono ?_
  rintro e v1 ⟨n', bo, bcap, rfl, hE', hown', g1⟩
  obtain rfl := hE.uniq hE'
  have k1 := below_then k0 g1
  clear s0 s1 s2 s3
  obtain ⟨s0, s1, s2, s3⟩ := par_held hw0 k1
  have hn := end_le (by omega) hE
  generalize stp o c k = SF at *
  generalize cel o c k = CF at *
  generalize frm o c = FF at *
  generalize til o (o + nn) c = TF at *
  have HO : Hid (v0.ownsRow wp.heap.size 36 4 (.slice ao n cap) n (spOf SF CF FF TF n)) := hown
  have HO' : Hid (v1.ownsRow v0.heap.size 36 4 (.slice bo n bcap) n (spOf SF CF FF TF n)) := hown'
  have HG : Hid (Below v0.heap.size v0 v1) := g1
  have HK1 : Hid (Below w0.heap.size w0 v1) := k1
  have hsp := hp.size
  clear hE' hown hown' g0 g1 k0 k1 C1 hp
  obtain ⟨ga, ha1, ha2⟩ : ∃ ga, wp.heap.size ≤ ga ∧ (0 < n → ao = some ⟨ga, 0, none⟩ ∧ ga < v0.heap.size) := by
    rcases HO.out.2 with ⟨_, h1⟩ | ⟨g, cap', cur, h1, h2, h3, _⟩
    · exact ⟨wp.heap.size, Nat.le_refl _, fun h => by omega⟩
    · cases h1; exact ⟨g, h2, fun _ => ⟨rfl, (HO.out.lt g rfl).2⟩⟩
  obtain ⟨gb, hb1, hb2⟩ : ∃ gb, v0.heap.size ≤ gb ∧ (0 < n → bo = some ⟨gb, 0, none⟩ ∧ gb < v1.heap.size) := by
    rcases HO'.out.2 with ⟨_, h1⟩ | ⟨g, cap', cur, h1, h2, h3, _⟩
    · exact ⟨v0.heap.size, Nat.le_refl _, fun h => by omega⟩
    · cases h1; exact ⟨g, h2, fun _ => ⟨rfl, (HO'.out.lt g rfl).2⟩⟩
  have HHA : Hid (0 < n → ao = some ⟨ga, 0, none⟩ ∧ ga < v0.heap.size) := ha2
  have HHB : Hid (0 < n → bo = some ⟨gb, 0, none⟩ ∧ gb < v1.heap.size) := hb2
  have HEN : Hid (End o (o + nn) c n) := hE
  have T0 : Hid (v1.cell? ⟨w.heap.size, 0, none⟩ = some (.int .i64 (k : Int)) ∧ v1.cell? ⟨w.heap.size, 1, none⟩ = some (.int .i64 (r : Int)) ∧ v1.cell? ⟨w.heap.size, 2, none⟩ = some (.int .i64 (c : Int)) ∧ v1.cell? ⟨w.heap.size, 3, none⟩ = some (.int .i64 (q : Int))) := ⟨s0, s1, s2, s3⟩
  clear ha2 hb2 hE hw0 s0 s1 s2 s3
  go_wp2_with fail
  go_loopw [12] (fun x wr => ∃ i : Nat, i ≤ n ∧ x = .int .i64 (i : Int) ∧ Hid (Spoilt ga (i * 4) v1 wr)) (fun x _ => n - (intOf x).toNat)
  case atStart => exact ⟨0, Nat.zero_le _, rfl, Spoilt.refl _ _ _⟩
  case round =>
    obtain ⟨i, hin, rfl, hspo⟩ := hrel
    by_cases hlt : i < n
    · obtain ⟨e1, e2, e3, e4⟩ := spOf_get SF CF FF TF n i hlt
      obtain ⟨ea, hal⟩ := HHA.out (by omega)
      obtain ⟨eb, hbl⟩ := HHB.out (by omega)
      subst ea eb
      have c1 := held (HO.out.cells (g := ga) rfl _ _ e1) HG.out
      have c2 := held (HO.out.cells (g := ga) rfl _ _ e2) HG.out
      have c3 := held (HO.out.cells (g := ga) rfl _ _ e3) HG.out
      have c4 := held (HO.out.cells (g := ga) rfl _ _ e4) HG.out
      have d1 := HO'.out.cells (g := gb) rfl _ _ e1
      have d2 := HO'.out.cells (g := gb) rfl _ _ e2
      have d3 := HO'.out.cells (g := gb) rfl _ _ e3
      have d4 := HO'.out.cells (g := gb) rfl _ _ e4
      rw [Addr.add_lit, Nat.zero_add] at c1 c2 c3 c4 d1 d2 d3 d4
      have hne : gb ≠ ga := by omega
      replace c1 := (hspo.out.cell (i * 4) (by omega)).trans c1
      replace c2 := (hspo.out.cell (i * 4 + 1) (by omega)).trans c2
      replace c3 := (hspo.out.cell (i * 4 + 2) (by omega)).trans c3
      replace c4 := (hspo.out.cell (i * 4 + 3) (by omega)).trans c4
      replace d1 := (World.cell?_of_block (a := ⟨gb, i * 4, none⟩) (hspo.out.block gb hne)).trans d1
      replace d2 := (World.cell?_of_block (a := ⟨gb, i * 4 + 1, none⟩) (hspo.out.block gb hne)).trans d2
      replace d3 := (World.cell?_of_block (a := ⟨gb, i * 4 + 2, none⟩) (hspo.out.block gb hne)).trans d3
      replace d4 := (World.cell?_of_block (a := ⟨gb, i * 4 + 3, none⟩) (hspo.out.block gb hne)).trans d4
      have f1 : ∀ j, wr.frozen? ⟨ga, j, none⟩ = false := fun j => (hspo.out.free j).trans ((HG.out.frozen (p := ⟨ga, j, none⟩) hal).trans (owns_free HO.out j))
      generalize SF i = sv at *
      generalize CF i = cv at *
      generalize FF i = fv at *
      generalize TF i = tv at *
      have i1 : (0 : Int) ≤ (i : Int) := by omega
      have i2 : (i : Int) < (n : Int) := by omega
      clear e1 e2 e3 e4
      go_wp2_with fail
      go_quiet (fail)
      go_wp2_with fail
      go_roundw
      case rel => exact ⟨i + 1, by omega, by go_num, (hspo.out.drew nq).set (by omega) (by omega) _⟩
      case measure => simp [intOf]; omega
    · obtain rfl : i = n := by omega
      have t0 : ∀ j v, v1.cell? ⟨w.heap.size, j, none⟩ = some v → wr.cell? ⟨w.heap.size, j, none⟩ = some v := fun j v h => (World.cell?_of_block (a := ⟨w.heap.size, j, none⟩) (hspo.out.block w.heap.size (by omega))).trans h
      have s0 := t0 _ _ T0.out.1
      have s1 := t0 _ _ T0.out.2.1
      have s2 := t0 _ _ T0.out.2.2.1
      have s3 := t0 _ _ T0.out.2.2.2
      clear t0
      obtain ⟨wm, rfl⟩ : ∃ x, x = wr := ⟨wr, rfl⟩
      go_wp2_with fail
      refine (C0 _).mono ?_
      rintro e v3 ⟨n3, ro, rcap, rfl, hE3, hown3, g3⟩
      obtain rfl := hE3.uniq HEN.out
      have HO3 : Hid (v3.ownsRow wm.heap.size 36 4 (.slice ro n3 rcap) n3 (spOf SF CF FF TF n3)) := hown3
      have HG3 : Hid (Below wm.heap.size wm v3) := g3
      have HB0 : Hid (Below w.heap.size w v1) := below_then b0 HK1.out
      have HSP : Hid (Spoilt ga (n3 * 4) v1 wm) := hspo.out
      clear hE3 hown3 g3 s0 s1 s2 s3 C0 hspo T0
      go_wp2_with fail
      go_loopw [15] (fun x wr => ∃ i : Nat, i ≤ n3 ∧ x = .int .i64 (i : Int) ∧ Hid (Below v3.heap.size v3 wr)) (fun x _ => n3 - (intOf x).toNat)
      case atStart => exact ⟨0, Nat.zero_le _, rfl, Below.refl _ _⟩
      case round =>
        obtain ⟨i, hi3, rfl, hbel⟩ := hrel
        by_cases hlt2 : i < n3
        · obtain ⟨e1, e2, e3, e4⟩ := spOf_get SF CF FF TF n3 i hlt2
          obtain ⟨ea, hal⟩ := HHA.out (by omega)
          obtain ⟨eb, hbl⟩ := HHB.out (by omega)
          subst ea eb
          obtain ⟨gr, hgr⟩ : ∃ g, ro = some ⟨g, 0, none⟩ := by
            rcases HO3.out.2 with ⟨_, h1⟩ | ⟨g, cap', cur, h1, _⟩
            · omega
            · cases h1; exact ⟨g, rfl⟩
          subst hgr
          have c1 := held (HO3.out.cells (g := gr) rfl _ _ e1) hbel.out
          have c2 := held (HO3.out.cells (g := gr) rfl _ _ e2) hbel.out
          have c3 := held (HO3.out.cells (g := gr) rfl _ _ e3) hbel.out
          have c4 := held (HO3.out.cells (g := gr) rfl _ _ e4) hbel.out
          have d1 := HO'.out.cells (g := gb) rfl _ _ e1
          have d2 := HO'.out.cells (g := gb) rfl _ _ e2
          have d3 := HO'.out.cells (g := gb) rfl _ _ e3
          have d4 := HO'.out.cells (g := gb) rfl _ _ e4
          rw [Addr.add_lit, Nat.zero_add] at c1 c2 c3 c4 d1 d2 d3 d4
          have hne : gb ≠ ga := by omega
          have hbb := below_then HG3.out hbel.out
          replace d1 := held ((World.cell?_of_block (a := ⟨gb, i * 4, none⟩) (HSP.out.block gb hne)).trans d1) hbb
          replace d2 := held ((World.cell?_of_block (a := ⟨gb, i * 4 + 1, none⟩) (HSP.out.block gb hne)).trans d2) hbb
          replace d3 := held ((World.cell?_of_block (a := ⟨gb, i * 4 + 2, none⟩) (HSP.out.block gb hne)).trans d3) hbb
          replace d4 := held ((World.cell?_of_block (a := ⟨gb, i * 4 + 3, none⟩) (HSP.out.block gb hne)).trans d4) hbb
          generalize SF i = sv at *
          generalize CF i = cv at *
          generalize FF i = fv at *
          generalize TF i = tv at *
          have i1 : (0 : Int) ≤ (i : Int) := by omega
          have i2 : (i : Int) < (n3 : Int) := by omega
          clear e1 e2 e3 e4 hbb
          go_wp2_with fail
          go_quiet (fail)
          go_wp2_with fail
          go_roundw
          case rel => exact ⟨i + 1, by omega, by go_num, hbel.out.trans (below_drewN _ _ nq)⟩
          case measure => simp [intOf]; omega
        · obtain rfl : i = n3 := by omega
          have HBF : Hid (Below w.heap.size w wm) := ⟨HSP.out.os.trans HB0.out.os, HSP.out.tape.trans HB0.out.tape, HSP.out.output.trans HB0.out.output, by rw [HSP.out.size]; exact HB0.out.size, fun k hk => (HSP.out.block k (by omega)).trans (HB0.out.block k hk)⟩
          go_wp2_with fail
          go_ret
          exact ⟨rfl, below_then HBF.out (below_then HG3.out hbel.out)⟩
set_option maxHeartbeats 2000000 in
set_option maxRecDepth 100000 in
theorem lspans_walk (k r c q off m : Int) (hoff : (Lit.int .i64 off).wf = true) (_hm : (Lit.int .i64 m).wf = true) (w : World) :
    Calls Try.prog 5 #[.agg #[.int .i64 k, .int .i64 r, .int .i64 c, .int .i64 q], .int .i64 off, .int .i64 m] w fun e' w' => e' = .returned (.bool true) ∧ Below w.heap.size w w' := by
  have ho := bounds_i64 hoff
  obtain ⟨N, W, y, h⟩ := par_any k r c q
  have hp := h
  rcases h with ⟨p0, p1, p2, rfl⟩ | ⟨p0, p1, p2, rfl⟩
  · obtain ⟨h1, h2, h3, h4, h5, h6, h7, h8, h9⟩ := may_true p0
    by_cases o1 : off < 0
    · exact lspans_bad hp off m w 2 (by omega) (.inr (.inl ⟨rfl, o1, rfl⟩))
    · by_cases o2 : m < 0
      · exact lspans_bad hp off m w 2 (by omega) (.inr (.inr (.inl ⟨rfl, by omega, o2, rfl⟩)))
      · by_cases o3 : (mst W : Int) < off + m
        · exact lspans_bad hp off m w 3 (by omega) (.inr (.inr (.inr ⟨rfl, by omega, by omega, o3, rfl⟩)))
        · obtain ⟨o, rfl⟩ := Int.eq_ofNat_of_zero_le (show 0 ≤ off by omega)
          obtain ⟨nn, rfl⟩ := Int.eq_ofNat_of_zero_le (show 0 ≤ m by omega)
          obtain ⟨k, rfl⟩ := Int.eq_ofNat_of_zero_le (show 0 ≤ k by omega)
          obtain ⟨c, rfl⟩ := Int.eq_ofNat_of_zero_le (show 0 ≤ c by omega)
          obtain ⟨r, rfl⟩ := Int.eq_ofNat_of_zero_le (show 0 ≤ r by omega)
          obtain ⟨q, rfl⟩ := Int.eq_ofNat_of_zero_le (show 0 ≤ q by omega)
          rw [← Int.natCast_mul] at p1
          exact lspans_good hp o nn w (by omega) (by omega) (by omega) (by omega) (by omega) (by omega) p0
  · exact lspans_bad hp off m w 2 (by omega) (.inl ⟨rfl, rfl⟩)
end Go.Proofs.Ytenifakhojdfpaa
