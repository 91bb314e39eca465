/- What Row and Encode of the program answer. -/
import Derived.Test.YthkikocacbbhkaaCodH
namespace Go.Proofs.Ythkikocacbbhkaa
open Go.RowKit

/-- An answer of bytes: none, or a row of its own between B and T. -/
def RowSol (w : World) (B T : Nat) (ao : Option Addr) (n cap : Nat) (f : Nat → K) : Prop := (ao = none ∧ n = 0 ∧ cap = 0) ∨ ∃ g, ao = some ⟨g, 0, none⟩ ∧ B ≤ g ∧ g < T ∧ Own w g n cap f
def OneAns (w : World) (ok : Bool) (err : Int) (n : Nat) (f : Nat → K) (e : Ending) (w' : World) : Prop :=
  ∃ ao cap, e = .returned (.tuple #[.slice ao (lenB ok n) cap, .int .i64 (errB ok err)]) ∧ RowSol w' w.heap.size w'.heap.size ao (lenB ok n) cap f ∧ Below w.heap.size w w'
def okRow (k r c : Int) : Bool := mayB k r && decide (0 ≤ c ∧ c < k + r)
theorem Kept.made (w : World) (k r : Nat) : Kept (w.alloc (.map #[] 0)) w.heap.size w.heap.size k r 0 0 0 :=
  ⟨.map [], World.ownsMap_made w Try.prog 54 elem, (fun c _ h => by cases h), fun c _ h => absurd h (Nat.not_lt_zero c)⟩
theorem below_map {w w' : World} (h : Keeps w.heap.size (w.heap.size + 1) (w.alloc (.map #[] 0)) w') : Below w.heap.size w w' :=
  ((Below.refl _ _).alloc (Nat.le_refl _) _).trans (h.below (by simp) (Nat.le_refl _))

set_option maxHeartbeats 400000 in
set_option maxRecDepth 100000 in
theorem Row_any (w : World) (k r c : Int) : Calls Try.prog 14 #[.int .i64 k, .int .i64 r, .int .i64 c] w (OneAns w (okRow k r c) 2 k.toNat (gen k.toNat c.toNat)) := by
  have HM := may_any w k r
  have bad : OneAns w false 2 k.toNat (gen k.toNat c.toNat) (.returned (.tuple #[.slice none 0 0, .int .i64 2])) w := ⟨none, 0, rfl, .inl ⟨rfl, rfl, rfl⟩, Below.refl _ _⟩
  cases hmay : mayB k r
  · rw [show okRow k r c = false by unfold okRow; rw [hmay]; rfl]
    rw [hmay] at HM
    clear hmay
    go_enter Try.func14, Try.ntmps14
    go_wp2_with (go_at_call 23; refine HM.mono ?_; rintro e w' ⟨rfl, rfl⟩)
    go_ret2
    exact bad
  · obtain ⟨h1, h2, h3, h4⟩ := mayB_true hmay
    rw [hmay] at HM
    by_cases h5 : 0 ≤ c
    · by_cases h6 : c < k + r
      · rw [show okRow k r c = true by unfold okRow; rw [hmay]; simp [h5, h6]]
        clear hmay bad
        obtain ⟨k, rfl⟩ := Int.eq_ofNat_of_zero_le (show 0 ≤ k by omega)
        obtain ⟨r, rfl⟩ := Int.eq_ofNat_of_zero_le (show 0 ≤ r by omega)
        obtain ⟨c, rfl⟩ := Int.eq_ofNat_of_zero_le h5
        rw [Int.toNat_natCast, Int.toNat_natCast]
        have hmm := @run_makeMap Try.prog
        have HR := row_any (w.alloc (.map #[] 0)) w.heap.size w.heap.size k r 0 c (by omega) (by omega) (by omega) (by omega) (by omega) (by simp) (Kept.made w k r)
        unfold key at HR
        have HRR : Hid (Calls Try.prog 29 #[.map (some w.heap.size), .agg #[.int .i64 (k : Int), .int .i64 (r : Int), .int .i64 (c : Int)]] (w.alloc (.map #[] 0)) (RowOf (w.alloc (.map #[] 0)) w.heap.size w.heap.size k r 0 c)) := HR
        clear HR
        go_enter Try.func14, Try.ntmps14
        go_wp2_with (first | (go_at_call 23; refine HM.mono ?_; rintro e w' ⟨rfl, rfl⟩) | (go_at_call 29; refine HRR.out.mono ?_; rintro e w' ⟨g, u, rfl, hg, ho, _, hke⟩))
        go_ret2
        exact ⟨_, _, rfl, .inr ⟨g, rfl, hg, ho.lt, ho⟩, below_map hke⟩
      · rw [show okRow k r c = false by unfold okRow; simp [h6]]
        clear hmay
        go_enter Try.func14, Try.ntmps14
        go_wp2_with (go_at_call 23; refine HM.mono ?_; rintro e w' ⟨rfl, rfl⟩)
        go_ret2
        exact bad
    · rw [show okRow k r c = false by unfold okRow; simp [h5]]
      clear hmay
      go_enter Try.func14, Try.ntmps14
      go_wp2_with (go_at_call 23; refine HM.mono ?_; rintro e w' ⟨rfl, rfl⟩)
      go_ret2
      exact bad

/-- An answer of cells: as many as n of m bytes each, every one in a row of its own, or none. -/
def Out (w : World) (ok : Bool) (err : Int) (n m : Nat) (H : M) (e : Ending) (w' : World) : Prop :=
  ∃ ao cap T U, e = .returned (.tuple #[.slice ao (lenB ok n) cap, .int .i64 err]) ∧ Copied w' w.heap.size (lenB ok n) (.slice ao (lenB ok n) cap) T (fun _ => m) U H ∧ Below w.heap.size w w'
theorem Out.no {w w' : World} {err : Int} {n m : Nat} {H : M} (hb : Below w.heap.size w w') : Out w false err n m H (.returned (.tuple #[.slice none 0 0, .int .i64 err])) w' :=
  ⟨none, 0, fun _ => none, fun _ => 0, rfl, Copied.start _ _ _ _ _ _, hb⟩
def okEnc (ll : Nat) (L : Nat → Nat) (k r : Int) : Bool := mayB k r && (okC ll L k && decide (k ≤ (cnt L ll : Int)))
def errE (may ok : Bool) : Int := if may then (if ok then 0 else 40) else 2
theorem okC_true {ll : Nat} {L : Nat → Nat} {many : Int} (h : okC ll L many = true) : (ll : Int) = many ∧ okT L ll = true := by
  unfold okC at h
  rw [Bool.and_eq_true, decide_eq_true_eq] at h
  exact h
theorem alike_of {ll : Nat} {L : Nat → Nat} (h : okT L ll = true) (hc : 1 ≤ cnt L ll) : 1 ≤ len0 L ll ∧ len0 L ll ≤ 65536 ∧ ∀ i, i < ll → L i = 0 ∨ L i = len0 L ll := by
  rcases len0_sel L ll with ⟨h1, _⟩ | ⟨h1, h2, h3⟩
  · omega
  · have hs := (sel_is L ll).lt 0 h1
    refine ⟨by omega, ?_, fun i hi => ?_⟩
    · rcases okT_all h _ hs with g | g
      · exact absurd g ((sel_is L ll).there 0 h1)
      · rw [h2]; exact g.1
    · rcases okT_all h i hi with g | g
      · exact .inl g
      · exact .inr g.2
theorem all_there {L : Nat → Nat} {n : Nat} (h : n ≤ cnt L n) (i : Nat) (hi : i < n) : L i ≠ 0 := fun e => by have := cnt_lt hi e; omega

set_option maxHeartbeats 1000000 in
set_option maxRecDepth 100000 in
theorem Encode_any (w : World) (k r : Int) (lo : Option Addr) (ll cl : Nat) (A : Nat → Option Addr) (C L : Nat → Nat) (H : M) (hl : Lst w lo ll A C L H) :
    Calls Try.prog 9 #[.int .i64 k, .int .i64 r, .slice lo ll cl] w (Out w (okEnc ll L k r) (errE (mayB k r) (okEnc ll L k r)) r.toNat (len0 L ll) (par k.toNat H)) := by
  have HM := may_any w k r
  cases hmay : mayB k r
  · rw [show okEnc ll L k r = false by unfold okEnc; rw [hmay]; rfl]
    rw [hmay] at HM
    clear hmay
    go_enter Try.func9, Try.ntmps9
    go_wp2_with (go_at_call 23; refine HM.mono ?_; rintro e w' ⟨rfl, rfl⟩)
    go_ret2
    exact Out.no (Below.refl _ _)
  · obtain ⟨h1, h2, h3, h4⟩ := mayB_true hmay
    rw [hmay] at HM
    have HT := there_any w lo ll cl A C L H k (by omega) hl
    cases hoc : okC ll L k
    · have HOK : Hid (okEnc ll L k r = false) := by show _ = _; unfold okEnc; rw [hoc, Bool.false_and, Bool.and_false]
      unfold There at HT
      rw [hoc] at HT
      have e1 : errB false 40 = 40 := rfl
      clear hmay hoc hl
      go_enter Try.func9, Try.ntmps9
      go_wp2_with (first | (go_at_call 23; refine HM.mono ?_; rintro e w' ⟨rfl, rfl⟩) | (go_at_call 24; refine HT.mono ?_; rintro e w1 ⟨ao, cap, rfl, _, _, _, hb⟩))
      go_ret2
      rw [HOK.out]
      exact Out.no hb
    · obtain ⟨hll, hokT⟩ := okC_true hoc
      subst hll
      have hcl := cnt_le L ll
      unfold There at HT
      rw [hoc] at HT
      have e1 : errB true 40 = 0 := rfl
      have e2 : lenB true (cnt L ll) = cnt L ll := rfl
      by_cases hcn : cnt L ll < ll
      · have HOK : Hid (okEnc ll L ll r = false) := by show _ = _; unfold okEnc; rw [show decide ((ll : Int) ≤ (cnt L ll : Int)) = false from decide_eq_false (by omega), Bool.and_false, Bool.and_false]
        have hci : (cnt L ll : Int) < (ll : Int) := by omega
        clear hmay hoc hl hokT
        go_enter Try.func9, Try.ntmps9
        go_wp2_with (first | (go_at_call 23; refine HM.mono ?_; rintro e w' ⟨rfl, rfl⟩) | (go_at_call 24; refine HT.mono ?_; rintro e w1 ⟨ao, cap, rfl, _, _, _, hb⟩))
        go_ret2
        rw [HOK.out]
        exact Out.no hb
      · have hce : cnt L ll = ll := by omega
        have HOK : Hid (okEnc ll L ll r = true) := by show _ = _; unfold okEnc; rw [hmay, hoc, show decide ((ll : Int) ≤ (cnt L ll : Int)) = true from decide_eq_true (by omega)]; rfl
        obtain ⟨m1, m2, m3⟩ := alike_of hokT (by omega)
        have HLm : Hid (∀ i, i < ll → L i = len0 L ll) := fun i hi => by
          rcases m3 i hi with g | g
          · exact absurd g (all_there (by omega) i hi)
          · exact g
        rw [hce] at HT
        have e3 : lenB true ll = ll := rfl
        have hci : ¬ ((ll : Int) < (ll : Int)) := by omega
        obtain ⟨r, rfl⟩ := Int.eq_ofNat_of_zero_le h3
        rw [Int.toNat_natCast, Int.toNat_natCast]
        have hmm := @run_makeMap Try.prog
        have HL : Hid (Lst w lo ll A C L H) := hl
        clear hmay hoc hl hokT m3 hce hcn hcl
        go_enter Try.func9, Try.ntmps9
        go_wp2_with (first
          | (go_at_call 23; refine HM.mono ?_; rintro e w' ⟨rfl, rfl⟩)
          | (go_at_call 24; refine HT.mono ?_; rintro e w1 ⟨ao, cap, rfl, _, _, _, hb⟩
             have HP := parity_any (w1.alloc (.map #[] 0)) w1.heap.size w1.heap.size ll r 0 (len0 L ll) lo cl A C L H (by omega) (by omega) (by omega) m1 m2 (by omega) (by simp) (Kept.made w1 ll r) ((HL.out.below hb).below ((Below.refl _ _).alloc (Nat.le_refl _) _)) HLm.out)
          | (go_at_call 25; refine HP.mono ?_; rintro e w2 ⟨ao2, cap2, T, U, rfl, hcop, _, hke⟩))
        go_ret2
        rw [HOK.out]
        exact ⟨ao2, cap2, T, U, rfl, hcop.base (by have := hb.size; simp; omega), below_step hb (below_map hke) hb.size⟩
end Go.Proofs.Ythkikocacbbhkaa
