/- The disk and the document's disk side by side: what either does. -/
import Derived.Test.YtdicogmjjboilaaDsk3
namespace Go.Proofs.Ytdicogmjjboilaa
open Go.RowKit

/-- The disk holds s, the document's t; the blocks P are neither's. -/
def Jt (W w : World) (P : Nat → Prop) (g h : Nat) (k r c : Int) (N Q S : Nat) (s t : St) : Prop :=
  ∃ Y Z, Dk w Y g k r c N Q S s ∧ Rk w Z h k r c N Q S t ∧ (∀ b, Y b → ¬ Z b) ∧ (∀ b, Y b → W.heap.size ≤ b) ∧ (∀ b, Z b → W.heap.size ≤ b) ∧ (∀ b, P b → W.heap.size ≤ b ∧ b < w.heap.size ∧ ¬ Y b ∧ ¬ Z b) ∧ Below W.heap.size W w
/-- What a disk may touch. -/
def Fp (W : World) (P : Nat → Prop) (w w' : World) : Prop := Only (fun b => W.heap.size ≤ b ∧ ¬ P b) w w'
section
variable {W w w' : World} {P V : Nat → Prop} {g h : Nat} {k r c : Int} {N Q S : Nat} {s t : St}
theorem Jt.bel (hj : Jt W w P g h k r c N Q S s t) : Below W.heap.size W w := by
  obtain ⟨Y, Z, h1, h2, h3, h4, h5, h6, h7⟩ := hj
  exact h7
theorem Jt.below (hj : Jt W w P g h k r c N Q S s t) (hb : Below w.heap.size w w') : Jt W w' P g h k r c N Q S s t := by
  obtain ⟨Y, Z, h1, h2, h3, h4, h5, h6, h7⟩ := hj
  have := hb.size
  exact ⟨Y, Z, h1.below hb, h2.below hb, h3, h4, h5, fun b hp => by obtain ⟨a1, a2, a3⟩ := h6 b hp; exact ⟨a1, by omega, a3⟩, below_then h7 hb⟩
theorem Jt.fresh (hj : Jt W w P g h k r c N Q S s t) (hb : Below w.heap.size w w') : Jt W w' (fun b => w.heap.size ≤ b ∧ b < w'.heap.size) g h k r c N Q S s t := by
  obtain ⟨Y, Z, h1, h2, h3, h4, h5, h6, h7⟩ := hj
  have hs := h7.size
  exact ⟨Y, Z, h1.below hb, h2.below hb, h3, h4, h5, fun b hp => ⟨by omega, hp.2, fun hy => by have := h1.lt b hy; omega, fun hz => by have := h2.lt b hz; omega⟩, below_then h7 hb⟩
theorem Jt.touch (hj : Jt W w P g h k r c N Q S s t) (ho : Only P w w') : Jt W w' P g h k r c N Q S s t := by
  obtain ⟨Y, Z, h1, h2, h3, h4, h5, h6, h7⟩ := hj
  have := ho.size
  exact ⟨Y, Z, h1.only ho (fun b hy hp => (h6 b hp).2.2.1 hy), h2.only ho (fun b hz hp => (h6 b hp).2.2.2 hz), h3, h4, h5, fun b hp => by obtain ⟨a1, a2, a3⟩ := h6 b hp; exact ⟨a1, by omega, a3⟩, h7.trans (ho.below (fun b hp => (h6 b hp).1) h7.size)⟩
theorem Jt.any (hj : Jt W w P g h k r c N Q S s t) : Jt W w (fun _ => False) g h k r c N Q S s t := by
  obtain ⟨Y, Z, h1, h2, h3, h4, h5, h6, h7⟩ := hj
  exact ⟨Y, Z, h1, h2, h3, h4, h5, fun b hp => hp.elim, h7⟩
theorem jt_did {Y Z Y' : Nat → Prop} {s' : St} (h1 : Dk w' Y' g k r c N Q S s') (hy : ∀ b, Y' b → Y b ∨ w.heap.size ≤ b) (ho : Only Y w w') (h2 : Rk w Z h k r c N Q S t) (h3 : ∀ b, Y b → ¬ Z b) (h4 : ∀ b, Y b → W.heap.size ≤ b) (h5 : ∀ b, Z b → W.heap.size ≤ b) (h6 : ∀ b, P b → W.heap.size ≤ b ∧ b < w.heap.size ∧ ¬ Y b ∧ ¬ Z b) (h7 : Below W.heap.size W w) : Jt W w' P g h k r c N Q S s' t ∧ Fp W P w w' := by
  have hs := h7.size
  have hz := ho.size
  refine ⟨⟨Y', Z, h1, h2.only ho (fun b hb hc => h3 b hc hb), fun b hb hc => ?_, fun b hb => ?_, h5, fun b hp => ?_, h7.trans (ho.below h4 hs)⟩, ho.mono fun b _ hyb => ⟨h4 b hyb, fun hp => (h6 b hp).2.2.1 hyb⟩⟩
  · rcases hy b hb with h | h
    · exact h3 b h hc
    · have := h2.lt b hc; omega
  · rcases hy b hb with h | h
    · exact h4 b h
    · omega
  · obtain ⟨a1, a2, a3, a4⟩ := h6 b hp
    refine ⟨a1, by omega, fun hc => ?_, a4⟩
    rcases hy b hc with h | h
    · exact a3 h
    · omega
theorem jt_didR {Y Z Z' : Nat → Prop} {t' : St} (h2 : Rk w' Z' h k r c N Q S t') (hy : ∀ b, Z' b → Z b ∨ w.heap.size ≤ b) (ho : Only Z w w') (h1 : Dk w Y g k r c N Q S s) (h3 : ∀ b, Y b → ¬ Z b) (h4 : ∀ b, Y b → W.heap.size ≤ b) (h5 : ∀ b, Z b → W.heap.size ≤ b) (h6 : ∀ b, P b → W.heap.size ≤ b ∧ b < w.heap.size ∧ ¬ Y b ∧ ¬ Z b) (h7 : Below W.heap.size W w) : Jt W w' P g h k r c N Q S s t' ∧ Fp W P w w' := by
  have hs := h7.size
  have hz := ho.size
  refine ⟨⟨Y, Z', h1.only ho (fun b hb hc => h3 b hb hc), h2, fun b hb hc => ?_, h4, fun b hb => ?_, fun b hp => ?_, h7.trans (ho.below h5 hs)⟩, ho.mono fun b _ hyb => ⟨h5 b hyb, fun hp => (h6 b hp).2.2.2 hyb⟩⟩
  · rcases hy b hc with h | h
    · exact h3 b hb h
    · have := h1.lt b hb; omega
  · rcases hy b hb with h | h
    · exact h5 b h
    · omega
  · obtain ⟨a1, a2, a3, a4⟩ := h6 b hp
    refine ⟨a1, by omega, a3, fun hc => ?_⟩
    rcases hy b hc with h | h
    · exact a4 h
    · omega
theorem fp_below (hb : Below w.heap.size w w') : Fp W P w w' := Only.of_below hb
theorem jt_write (hj : Jt W w P g h k r c N Q S s t) (po : Option Addr) (n pc : Nat) (D : Nat → Pt) (B : Nat → Option Addr) (K : Nat → Nat) (hn : n ≤ 9223372036854775807) (hp : Pts w V po n D B K) (hV : ∀ b, V b → b < w.heap.size ∧ (b < W.heap.size ∨ P b)) :
    Calls Try.prog 17 #[.pointer (some ⟨g, 0, none⟩), .slice po n pc] w fun e w' => e = .returned (.int .i64 (wrs N Q S s (pl D 0 n)).1) ∧ Jt W w' P g h k r c N Q S (wrs N Q S s (pl D 0 n)).2 t ∧ Fp W P w w' := by
  obtain ⟨Y, Z, h1, h2, h3, h4, h5, h6, h7⟩ := hj
  refine (Write_any h1 po n pc D B K hn hp (fun b hb => (hV b hb).1) (fun b hy hv => ?_)).mono fun e w' hh => ?_
  · rcases (hV b hv).2 with q | q
    · have := h4 b hy; omega
    · exact (h6 b q).2.2.1 hy
  · obtain ⟨p1, ⟨Y', p2, p3⟩, p4⟩ := hh
    exact ⟨p1, jt_did p2 p3 p4 h2 h3 h4 h5 h6 h7⟩
theorem jt_all (hj : Jt W w P g h k r c N Q S s t) (po : Option Addr) (n pc : Nat) (D : Nat → Pt) (B : Nat → Option Addr) (K : Nat → Nat) (hn : n ≤ 9223372036854775807) (hl : ∀ i, i < n → (D i).b.length ≤ 9223372036854775807) (hp : Pts w V po n D B K) (hV : ∀ b, V b → b < w.heap.size ∧ (b < W.heap.size ∨ P b)) :
    Calls Try.prog 18 #[.pointer (some ⟨h, 0, none⟩), .slice po n pc] w fun e w' => e = .returned (.int .i64 (wrs N Q S t (pl D 0 n)).1) ∧ Jt W w' P g h k r c N Q S s (wrs N Q S t (pl D 0 n)).2 ∧ Fp W P w w' := by
  obtain ⟨Y, Z, h1, h2, h3, h4, h5, h6, h7⟩ := hj
  refine (RAll_any h2 po n pc D B K hn hp hl (fun b hb => (hV b hb).1) (fun b hy hv => ?_)).mono fun e w' hh => ?_
  · rcases (hV b hv).2 with q | q
    · have := h5 b hy; omega
    · exact (h6 b q).2.2.2 hy
  · obtain ⟨p1, ⟨Y', p2, p3⟩, p4⟩ := hh
    exact ⟨p1, jt_didR p2 p3 p4 h1 h3 h4 h5 h6 h7⟩
theorem jt_read (hj : Jt W w P g h k r c N Q S s t) (d o b : Int) : Calls Try.prog 19 #[.pointer (some ⟨g, 0, none⟩), .int .i64 d, .int .i64 o, .int .i64 b] w fun e w' => ∃ ao cap, e = .returned (.tuple #[.slice ao (rdB N Q s d o b).length cap, .int .i64 (rdErr N Q s d o b)]) ∧ OwB w.heap.size w' ao cap (rdB N Q s d o b) ∧ Below w.heap.size w w' := by
  obtain ⟨Y, Z, h1, h2, h3, h4, h5, h6, h7⟩ := hj
  exact Read_any h1 d o b
theorem jt_rread (hj : Jt W w P g h k r c N Q S s t) (d o b : Int) : Calls Try.prog 20 #[.pointer (some ⟨h, 0, none⟩), .int .i64 d, .int .i64 o, .int .i64 b] w fun e w' => ∃ ao cap, e = .returned (.tuple #[.slice ao (rdB N Q t d o b).length cap, .int .i64 (rdErr N Q t d o b)]) ∧ RdB w' ao (rdB N Q t d o b) ∧ Below w.heap.size w w' := by
  obtain ⟨Y, Z, h1, h2, h3, h4, h5, h6, h7⟩ := hj
  exact RRead_any h2 d o b
/-- The error and the state behind a wipe, and behind a cut. -/
def wpE (N : Nat) (d : Int) : Int := if 0 ≤ d ∧ d < (N : Int) then 0 else 80
def wpS (N Q : Nat) (d : Int) (s : St) : St := if 0 ≤ d ∧ d < (N : Int) then wipeSt Q d.toNat s else s
def cuE (n : Int) : Int := if n < 0 then 2 else 0
def cuS (n : Int) (s : St) : St := if n < 0 then s else cutSt n.toNat s
theorem jt_wipe (hj : Jt W w P g h k r c N Q S s t) (d : Int) : Calls Try.prog 21 #[.pointer (some ⟨g, 0, none⟩), .int .i64 d] w fun e w' => e = .returned (.int .i64 (wpE N d)) ∧ Jt W w' P g h k r c N Q S (wpS N Q d s) t ∧ Fp W P w w' := by
  have h0 := hj
  obtain ⟨Y, Z, h1, h2, h3, h4, h5, h6, h7⟩ := hj
  refine (Wipe_any h1 d).mono fun e w' hh => ?_
  unfold wpE wpS
  rcases hh with ⟨p0, p1, p2⟩ | ⟨p0, p1, ⟨Y', p2, p3⟩, p4⟩
  · rw [if_neg p0, if_neg p0]; exact ⟨p1, h0.below p2, fp_below p2⟩
  · rw [if_pos p0, if_pos p0]; exact ⟨p1, (jt_did p2 (fun b hb => .inl (p3 b hb)) p4 h2 h3 h4 h5 h6 h7)⟩
theorem jt_rwipe (hj : Jt W w P g h k r c N Q S s t) (d : Int) : Calls Try.prog 22 #[.pointer (some ⟨h, 0, none⟩), .int .i64 d] w fun e w' => e = .returned (.int .i64 (wpE N d)) ∧ Jt W w' P g h k r c N Q S s (wpS N Q d t) ∧ Fp W P w w' := by
  have h0 := hj
  obtain ⟨Y, Z, h1, h2, h3, h4, h5, h6, h7⟩ := hj
  refine (RWipe_any h2 d).mono fun e w' hh => ?_
  unfold wpE wpS
  rcases hh with ⟨p0, p1, p2⟩ | ⟨p0, p1, p2, p4⟩
  · rw [if_neg p0, if_neg p0]; exact ⟨p1, h0.below p2, fp_below p2⟩
  · rw [if_pos p0, if_pos p0]; exact ⟨p1, (jt_didR p2 (fun b hb => .inl hb) p4 h1 h3 h4 h5 h6 h7)⟩
theorem jt_cut (hj : Jt W w P g h k r c N Q S s t) (n : Int) (hn : n ≤ 9223372036854775807) : Calls Try.prog 23 #[.pointer (some ⟨g, 0, none⟩), .int .i64 n] w fun e w' => e = .returned (.int .i64 (cuE n)) ∧ Jt W w' P g h k r c N Q S (cuS n s) t ∧ Fp W P w w' := by
  have h0 := hj
  obtain ⟨Y, Z, h1, h2, h3, h4, h5, h6, h7⟩ := hj
  refine (Cut_any h1 n hn).mono fun e w' hh => ?_
  unfold cuE cuS
  rcases hh with ⟨p0, p1, p2⟩ | ⟨p0, p1, p2, p4, _⟩
  · rw [if_pos p0, if_pos p0, p2]; exact ⟨p1, h0, Only.refl _ _⟩
  · rw [if_neg (by omega), if_neg (by omega)]; exact ⟨p1, (jt_did p2 (fun b hb => .inl hb) p4 h2 h3 h4 h5 h6 h7)⟩
theorem jt_setcut (hj : Jt W w P g h k r c N Q S s t) (n : Int) (hn : n ≤ 9223372036854775807) : Calls Try.prog 24 #[.pointer (some ⟨h, 0, none⟩), .int .i64 n] w fun e w' => e = .returned (.int .i64 (cuE n)) ∧ Jt W w' P g h k r c N Q S s (cuS n t) ∧ Fp W P w w' := by
  have h0 := hj
  obtain ⟨Y, Z, h1, h2, h3, h4, h5, h6, h7⟩ := hj
  refine (SetCut_any h2 n hn).mono fun e w' hh => ?_
  unfold cuE cuS
  rcases hh with ⟨p0, p1, p2⟩ | ⟨p0, p1, p2, p4⟩
  · rw [if_pos p0, if_pos p0, p2]; exact ⟨p1, h0, Only.refl _ _⟩
  · rw [if_neg (by omega), if_neg (by omega)]; exact ⟨p1, (jt_didR p2 (fun b hb => .inl hb) p4 h1 h3 h4 h5 h6 h7)⟩
theorem jt_on (hj : Jt W w P g h k r c N Q S s t) : Calls Try.prog 25 #[.pointer (some ⟨g, 0, none⟩)] w fun e w' => e = .returned (.int .i64 0) ∧ Jt W w' P g h k r c N Q S (onSt s) t ∧ Fp W P w w' := by
  obtain ⟨Y, Z, h1, h2, h3, h4, h5, h6, h7⟩ := hj
  refine (On_any h1).mono fun e w' hh => ?_
  obtain ⟨p1, p2, p4, _⟩ := hh
  exact ⟨p1, (jt_did p2 (fun b hb => .inl hb) p4 h2 h3 h4 h5 h6 h7)⟩
theorem jt_ron (hj : Jt W w P g h k r c N Q S s t) : Calls Try.prog 26 #[.pointer (some ⟨h, 0, none⟩)] w fun e w' => e = .returned (.tuple #[]) ∧ Jt W w' P g h k r c N Q S s (onSt t) ∧ Fp W P w w' := by
  obtain ⟨Y, Z, h1, h2, h3, h4, h5, h6, h7⟩ := hj
  refine (ROn_any h2).mono fun e w' hh => ?_
  obtain ⟨p1, p2, p4⟩ := hh
  exact ⟨p1, (jt_didR p2 (fun b hb => .inl hb) p4 h1 h3 h4 h5 h6 h7)⟩
theorem jt_whole (hj : Jt W w P g h k r c N Q S s t) : Calls Try.prog 27 #[.pointer (some ⟨g, 0, none⟩)] w fun e w' => e = .returned (.int .i64 0) ∧ Jt W w' P g h k r c N Q S (wholeSt s) t ∧ Fp W P w w' := by
  obtain ⟨Y, Z, h1, h2, h3, h4, h5, h6, h7⟩ := hj
  refine (Whole_any h1).mono fun e w' hh => ?_
  obtain ⟨p1, p2, p4, _⟩ := hh
  exact ⟨p1, (jt_did p2 (fun b hb => .inl hb) p4 h2 h3 h4 h5 h6 h7)⟩
theorem jt_rwhole (hj : Jt W w P g h k r c N Q S s t) : Calls Try.prog 28 #[.pointer (some ⟨h, 0, none⟩)] w fun e w' => e = .returned (.tuple #[]) ∧ Jt W w' P g h k r c N Q S s (wholeSt t) ∧ Fp W P w w' := by
  obtain ⟨Y, Z, h1, h2, h3, h4, h5, h6, h7⟩ := hj
  refine (RWhole_any h2).mono fun e w' hh => ?_
  obtain ⟨p1, ⟨Y', p2, p3⟩, p4⟩ := hh
  exact ⟨p1, (jt_didR p2 p3 p4 h1 h3 h4 h5 h6 h7)⟩
theorem jt_same (hj : Jt W w P g h k r c N Q S s s) (hG : ∀ i, N ≤ i → s.gone i = false) : Calls Try.prog 30 #[.pointer (some ⟨g, 0, none⟩), .pointer (some ⟨h, 0, none⟩)] w fun e w' => e = .returned (.bool true) ∧ Jt W w' P g h k r c N Q S s s := by
  have h0 := hj
  obtain ⟨Y, Z, h1, h2, h3, h4, h5, h6, h7⟩ := hj
  exact (same_any h1 h2 hG).mono fun e w' hh => ⟨hh.1, h0.below hh.2⟩
theorem owb_slot {B : Nat} {v : World} {ao : Option Addr} {cap : Nat} {b : List UInt8} (ho : OwB B v ao cap b) : (ao = none ∧ b.length = 0 ∧ cap = 0) ∨ ∃ g, ao = some ⟨g, 0, none⟩ ∧ (B ≤ g ∧ g < v.heap.size) ∧ ∀ j, j < b.length ∨ j < cap → (v.cell? ⟨g, j, none⟩).isSome = true ∧ v.frozen? ⟨g, j, none⟩ = false := by
  rcases ho.2 with ⟨e, h0⟩ | ⟨g, cap', cur, e, hB, hb, hc, _, hz, _⟩
  · injection e with e1 e2 e3; exact .inl ⟨e1, h0, e3⟩
  · cases e
    refine .inr ⟨g, rfl, ⟨hB, (Array.getElem?_eq_some_iff.1 hb).1⟩, fun j hj => ⟨?_, World.ownsRow.frozenAt ho j⟩⟩
    have : j < cur.size := by omega
    rw [World.cell?, hb]
    simp [this]
/-- The image of a disk may be written over. -/
theorem jt_image (hj : Jt W w P g h k r c N Q S s t) : Calls Try.prog 29 #[.pointer (some ⟨g, 0, none⟩)] w fun e w' => ∃ m A' Ls C', e = .returned (.tuple #[.agg #[.int .i64 k, .int .i64 r, .int .i64 c, .int .i64 (Q : Int), .slice (some ⟨m, 0, none⟩) (N * Q * 2 : Nat) (N * Q * 2 : Nat)], .int .i64 0]) ∧ Spl w' (fun b => w.heap.size ≤ b ∧ b < w'.heap.size) m (N * Q * 2) A' Ls C' ∧ N * Q * 2 ≤ 1000000 ∧ Below w.heap.size w w' := by
  obtain ⟨Y, Z, h1, h2, h3, h4, h5, h6, h7⟩ := hj
  have hbd := h1.pm.bounds
  have hfit : ∀ i, i < N * Q * 2 → (s.F i).length ≤ 1000 := fun i hi => by
    obtain ⟨l, cl, A, C, left, hd⟩ := h1
    rcases hd.fit i hi with e | e
    · omega
    · omega
  refine (Image_any h1).mono fun e w' hh => ?_
  obtain ⟨m, A', C', p1, p2, p3, p4⟩ := hh
  refine ⟨m, A', fun i => (s.F i).length, C', p1, ⟨fun i hi => p2.row.cell hi, fun i hi => ?_, p2.own, fun b hb => hb.2, hfit, fun i hi => ?_⟩, by omega, p4⟩
  · exact p2.row.frozen i
  · rcases owb_slot (p3 i hi) with q | ⟨g', q1, q2, q3⟩
    · exact .inl q
    · exact .inr ⟨g', q1, q2, (p2.at_ i _ hi q1).2, q3⟩
end
/-- No drive beyond the last is wiped. -/
def Gn (N : Nat) (s : St) : Prop := ∀ i, N ≤ i → s.gone i = false
theorem wr1_gone (N Q S : Nat) (s : St) (x : Pt) : (wr1 N Q S s x).2.gone = s.gone := by
  unfold wr1
  split
  · rfl
  · split
    · split <;> rfl
    · rfl
theorem wrs_gone (N Q S : Nat) : ∀ (l : List Pt) (s : St), (wrs N Q S s l).2.gone = s.gone
  | [], _ => rfl
  | x :: l, s => by
    by_cases he : (wr1 N Q S s x).1 = 0
    · rw [wrs_go he, wrs_gone N Q S l, wr1_gone]
    · rw [wrs_stop he, wr1_gone]
theorem gn_wrs {N Q S : Nat} {s : St} (h : Gn N s) (l : List Pt) : Gn N (wrs N Q S s l).2 := fun i hi => by rw [wrs_gone]; exact h i hi
theorem gn_wipe {N Q : Nat} {s : St} (h : Gn N s) (d : Int) : Gn N (wpS N Q d s) := fun i hi => by
  unfold wpS
  split
  · show upd d.toNat true s.gone i = false
    rw [upd_ne _ _ (by omega)]; exact h i hi
  · exact h i hi
theorem gn_cut {N : Nat} {s : St} (h : Gn N s) (n : Int) : Gn N (cuS n s) := fun i hi => by
  unfold cuS
  split
  · exact h i hi
  · exact h i hi
end Go.Proofs.Ytdicogmjjboilaa
