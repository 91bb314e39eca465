/- What all drives of a row hold: the program's list of it. -/
import Derived.Test.YtmlnbnbgkpbjeaaCnA
import Derived.Laws.OwnMore
namespace Go.Proofs.Ytmlnbnbgkpbjeaa
open Go.RowKit

/-- Two numbers for each drive, one behind the other. -/
def fl2 (P Q : Nat → Int) (j : Nat) : Int := if j % 2 = 0 then P (j / 2) else Q (j / 2)
theorem fl2_0 (P Q : Nat → Int) (i : Nat) : fl2 P Q (i * 2) = P i := by unfold fl2; rw [if_pos (by omega), show i * 2 / 2 = i by omega]
theorem fl2_1 (P Q : Nat → Int) (i : Nat) : fl2 P Q (i * 2 + 1) = Q i := by unfold fl2; rw [if_neg (by omega), show (i * 2 + 1) / 2 = i by omega]
theorem fl2_put0 (P Q : Nat → Int) (i : Nat) (v : Int) : put (i * 2) v (fl2 P Q) = fl2 (put i v P) Q := by
  funext j
  by_cases e : j = i * 2
  · rw [e, put_at, fl2_0, put_at]
  · rw [put_ne _ _ e]
    unfold fl2
    split
    · rw [put_ne _ _ (by omega)]
    · rfl
theorem fl2_put1 (P Q : Nat → Int) (i : Nat) (v : Int) : put (i * 2 + 1) v (fl2 P Q) = fl2 P (put i v Q) := by
  funext j
  by_cases e : j = i * 2 + 1
  · rw [e, put_at, fl2_1, put_at]
  · rw [put_ne _ _ e]
    unfold fl2
    split
    · rfl
    · rw [put_ne _ _ (by omega)]
/-- A list of the call's own: of each drive two versions. -/
def Hol (B : Nat) (w : World) (a : Option Addr) (n cap : Nat) (P Q : Nat → Int) : Prop := w.ownsRow B 62 2 (.slice a n cap) n (zOf (n * 2) (fl2 P Q))
theorem hol_nil (B : Nat) (w : World) (P Q : Nat → Int) : Hol B w none 0 0 P Q := World.ownsRow_nil _ _ _ _
theorem Hol.mono {B B' : Nat} {w : World} {a : Option Addr} {n cap : Nat} {P Q : Nat → Int} (h : Hol B w a n cap P Q) (hb : B' ≤ B) : Hol B' w a n cap P Q := by
  rcases h with ⟨h1, h2 | ⟨g, cp, cur, h2, h3, h4⟩⟩
  · exact ⟨h1, .inl h2⟩
  · exact ⟨h1, .inr ⟨g, cp, cur, h2, by omega, h4⟩⟩
theorem Hol.stay {B : Nat} {w w' : World} {a : Option Addr} {n cap : Nat} {P Q : Nat → Int} (h : Hol B w a n cap P Q) (hb : ∀ g, B ≤ g → g < w.heap.size → w'.heap[g]? = w.heap[g]?) : Hol B w' a n cap P Q := by
  rcases h with ⟨h1, h2 | ⟨g, cp, cur, h2, h3, h4, h5⟩⟩
  · exact ⟨h1, .inl h2⟩
  · exact ⟨h1, .inr ⟨g, cp, cur, h2, h3, (hb g h3 (Array.getElem?_eq_some_iff.1 h4).1).trans h4, h5⟩⟩
theorem Hol.below {B : Nat} {w w' : World} {a : Option Addr} {n cap : Nat} {P Q : Nat → Int} (h : Hol B w a n cap P Q) (hb : Below w.heap.size w w') : Hol B w' a n cap P Q := h.stay fun g _ hg => hb.block g hg
theorem Hol.at_ {B : Nat} {w : World} {a : Option Addr} {n cap : Nat} {P Q : Nat → Int} (h : Hol B w a n cap P Q) (hn : 0 < n) : ∃ g, a = some ⟨g, 0, none⟩ ∧ B ≤ g ∧ g < w.heap.size := by
  rcases h with ⟨h1, ⟨_, h2⟩ | ⟨g, cp, cur, h2, h3, h4, _⟩⟩
  · omega
  · simp only [Value.slice.injEq] at h2
    exact ⟨g, h2.1, h3, (Array.getElem?_eq_some_iff.1 h4).1⟩
theorem Hol.c0 {B : Nat} {w : World} {g n cap : Nat} {P Q : Nat → Int} (h : Hol B w (some ⟨g, 0, none⟩) n cap P Q) {i : Nat} (hi : i < n) : w.cell? ⟨g, i * 2, none⟩ = some (.int .i64 (P i)) := by
  have := World.ownsRow.cellAt h (i * 2) (by omega)
  rw [this, zOf_get _ _ _ (by omega), fl2_0]
theorem Hol.c1 {B : Nat} {w : World} {g n cap : Nat} {P Q : Nat → Int} (h : Hol B w (some ⟨g, 0, none⟩) n cap P Q) {i : Nat} (hi : i < n) : w.cell? ⟨g, i * 2 + 1, none⟩ = some (.int .i64 (Q i)) := by
  have := World.ownsRow.cellAt h (i * 2 + 1) (by omega)
  rw [this, zOf_get _ _ _ (by omega), fl2_1]
theorem Hol.free {B : Nat} {w : World} {g n cap : Nat} {P Q : Nat → Int} (h : Hol B w (some ⟨g, 0, none⟩) n cap P Q) (j : Nat) : w.frozen? ⟨g, j, none⟩ = false := World.ownsRow.frozenAt h j
theorem Hol.s0 {B : Nat} {w : World} {g n cap : Nat} {P Q : Nat → Int} (h : Hol B w (some ⟨g, 0, none⟩) n cap P Q) (i : Nat) (v : Int) : Hol B (w.setCell ⟨g, i * 2, none⟩ (.int .i64 v)) (some ⟨g, 0, none⟩) n cap (put i v P) Q := by
  have := (World.ownsRow.stored h (i * 2) (.int .i64 v)).1
  rw [zOf_set, fl2_put0] at this; exact this
theorem Hol.s1 {B : Nat} {w : World} {g n cap : Nat} {P Q : Nat → Int} (h : Hol B w (some ⟨g, 0, none⟩) n cap P Q) (i : Nat) (v : Int) : Hol B (w.setCell ⟨g, i * 2 + 1, none⟩ (.int .i64 v)) (some ⟨g, 0, none⟩) n cap P (put i v Q) := by
  have := (World.ownsRow.stored h (i * 2 + 1) (.int .i64 v)).1
  rw [zOf_set, fl2_put1] at this; exact this
theorem Hol.congr {B : Nat} {w : World} {a : Option Addr} {n cap : Nat} {P Q P' Q' : Nat → Int} (h : Hol B w a n cap P Q) (e : ∀ i, i < n → P i = P' i ∧ Q i = Q' i) : Hol B w a n cap P' Q' := by
  unfold Hol at *
  rw [zOf_congr (S := fl2 P Q) (fun j hj => ?_)]
  · exact h
  · unfold fl2
    split
    · exact ((e _ (by omega)).1).symm
    · exact ((e _ (by omega)).2).symm
theorem info62 : (Try.prog.info? 62).map (fun i => (i.zero, i.size, i.bytes)) = some (some (.agg #[.int .i64 0, .int .i64 0]), 2, 16) := by kernel_rfl
theorem made2 (n : Nat) : (madeCells (Value.agg #[Value.int .i64 0, Value.int .i64 0]).cells (n * 2)).toList = zOf (n * 2) (fl2 (fun _ => 0) (fun _ => 0)) := by
  have hc : (Value.agg #[Value.int .i64 0, Value.int .i64 0]).cells = #[Value.int .i64 0, Value.int .i64 0] := by rfl
  rw [hc]
  apply List.ext_getElem?
  intro j
  by_cases hj : j < n * 2
  · rw [zOf_get _ _ _ hj]
    have e : fl2 (fun _ => 0) (fun _ => 0) j = 0 := by unfold fl2; split <;> rfl
    rw [e]
    simp only [madeCells, Array.toList_map, Array.toList_range, List.getElem?_map, List.getElem?_range hj, Option.map_some, Option.some.injEq]
    rcases Nat.mod_two_eq_zero_or_one j with h | h <;> simp [h]
  · simp [madeCells, zOf, hj]
/-- A list of holdings is made. -/
theorem mk_hol (w : World) (n : Nat) (hn : n ≤ 16) : ∃ w', (Instr.makeSlice 49 (.int .i64 (n : Int)) (.int .i64 (n : Int))).run Try.prog w = .ok (.slice (some ⟨w.heap.size, 0, none⟩) n n) w' ∧ Hol w.heap.size w' (some ⟨w.heap.size, 0, none⟩) n n (fun _ => 0) (fun _ => 0) ∧ Below w.heap.size w w' := by
  obtain ⟨i0, hi, hi0, hi1, hi2⟩ := info_parts info62
  obtain ⟨w', h1, h2, h3⟩ := run_makeSlice_full (P := Try.prog) w w.heap.size 49 62 i0 _ 2 Try.underlying49 hi hi0 hi1 .i64 .i64 n (by omega) (by rw [hi2]; omega) (by unfold maxLen; omega) (Nat.le_refl _)
  rw [made2] at h2
  exact ⟨w', h1, h2, (Below.refl _ w).grown h3 (Nat.le_refl _) (fun j hj => by cases hj)⟩
/-- One slot looked at alone. -/
theorem newest1 {k r c q : Int} {N W : Nat} (h : Par k r c q N W 0) (w : World) (a : Option Addr) (n cp : Nat) (F : Nat → UInt8) (hb : Bec w a n cp F) (ix : Nat) (hx : ix < N) (hn : n = 0 ∨ n = sz N c) (z : Sl) (hz : z = ofK 2 (he 0 N c (ix : Int) n F)) :
    Calls Try.prog 34 #[.agg #[.int .i64 k, .int .i64 r, .int .i64 c, .int .i64 q], .agg #[.slice a n cp, .slice none 0 0], .int .u8 2, .int .i64 (ix : Int)] w fun e w' => ∃ (nn : Nat) (ao : Option Addr) (ca : Nat) (bo : Option Addr) (cb : Nat) (i : Bool), e = .returned (.tuple #[.int .i64 (nn : Int), .agg #[.int .u8 ((z.kd.toNat : Nat) : Int), .int .i64 z.ix, .int .i64 z.ce, .int .i64 z.st, .slice ao z.vn ca, .slice bo z.dn cb], .bool i, .int .i64 0]) ∧ Vec w' ao z.vn ca z.V ∧ Below w.heap.size w w' := by
  have hE : erC 0 N c n 0 (((2 : UInt8).toNat : Nat) : Int) (ix : Int) = 0 := by
    have q0 : erQ 0 N c n = 0 := by unfold erQ; rw [if_pos rfl, if_pos hn]
    have q1 : erQ 0 N c 0 = 0 := by unfold erQ; rw [if_pos rfl, if_pos (Or.inl rfl)]
    have q2 : erT 0 N c n 0 = 0 := by unfold erT; rw [if_pos q0, q1]
    unfold erC
    rw [if_pos q2, if_pos ⟨Or.inr rfl, by omega, by omega⟩]
  have hc := Newest_any h w a n cp F none 0 0 F hb (bec_nil _ _) 2 (ix : Int) 0 hE _ _ rfl rfl
  rw [he_blank, gZ_one, ← hz] at hc
  refine hc.mono ?_
  rintro e w' ⟨ao, ca, bo, cb, he, hg, hw⟩
  exact ⟨_, ao, ca, bo, cb, _, he, hg.has.vec, hw⟩
theorem newest1_bad {k r c q : Int} {N W : Nat} (h : Par k r c q N W 0) (w : World) (a : Option Addr) (n cp : Nat) (F : Nat → UInt8) (hb : Bec w a n cp F) (ix : Nat) (hn : ¬ (n = 0 ∨ n = sz N c)) :
    Calls Try.prog 34 #[.agg #[.int .i64 k, .int .i64 r, .int .i64 c, .int .i64 q], .agg #[.slice a n cp, .slice none 0 0], .int .u8 2, .int .i64 (ix : Int)] w fun e w' => ∃ (nn : Nat) (z : Sl) (ao : Option Addr) (ca : Nat) (bo : Option Addr) (cb : Nat) (i : Bool), e = .returned (.tuple #[.int .i64 (nn : Int), .agg #[.int .u8 ((z.kd.toNat : Nat) : Int), .int .i64 z.ix, .int .i64 z.ce, .int .i64 z.st, .slice ao z.vn ca, .slice bo z.dn cb], .bool i, .int .i64 100]) ∧ Below w.heap.size w w' := by
  have hE : erC 0 N c n 0 (((2 : UInt8).toNat : Nat) : Int) (ix : Int) = 100 := by
    have q0 : erQ 0 N c n = 100 := by unfold erQ; rw [if_pos rfl, if_neg hn]
    have q2 : erT 0 N c n 0 = 100 := by unfold erT; rw [q0, if_neg (by omega)]
    unfold erC
    rw [q2, if_neg (by omega)]
  have hc := Newest_any h w a n cp F none 0 0 F hb (bec_nil _ _) 2 (ix : Int) 100 hE _ _ rfl rfl
  refine hc.mono ?_
  rintro e w' ⟨ao, ca, bo, cb, he, hg, hw⟩
  exact ⟨_, _, ao, ca, bo, cb, _, he, hw⟩
end Go.Proofs.Ytmlnbnbgkpbjeaa
