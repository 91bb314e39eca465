/- Two disks side by side: what one does the other does not see; where the power fails. -/
import Derived.Test.YtdicogmjjboilaaDskP
namespace Go.Proofs.Ytdicogmjjboilaa
open Go.RowKit

/-- j more raw writes. -/
def bump (a : Int) : Nat → Int
  | 0 => a
  | j + 1 => bump (wrap64 (a + 1)) j
theorem bump_add : ∀ (j : Nat) (a : Int), 0 ≤ a → a + j ≤ 9223372036854775807 → bump a j = a + j
  | 0, a, _, _ => by simp [bump]
  | j + 1, a, h0, h1 => by
    rw [bump, w64 _ (by omega), bump_add j (a + 1) (by omega) (by omega)]
    omega
theorem cut_math {N Q S : Nat} : ∀ (l : List Pt) (n : Nat) (s : St), s.off = false → s.cut = none →
    (wrs N Q S (cutSt n s) l).2.F = (wrs N Q S s (l.take n)).2.F ∧ (wrs N Q S (cutSt n s) l).2.wr = (wrs N Q S s (l.take n)).2.wr ∧ (wrs N Q S s (l.take n)).2.off = false ∧
    (((wrs N Q S s (l.take n)).1 = 80 ∧ (wrs N Q S (cutSt n s) l).1 = 80 ∧ (wrs N Q S (cutSt n s) l).2.off = false) ∨
     ((wrs N Q S s (l.take n)).1 = 0 ∧ (wrs N Q S s (l.take n)).2.wr = bump s.wr (min n l.length) ∧
       ((l.length ≤ n ∧ (wrs N Q S (cutSt n s) l).1 = 0 ∧ (wrs N Q S (cutSt n s) l).2.off = false) ∨
        (n < l.length ∧ (wrs N Q S (cutSt n s) l).1 = 80 ∧ (wrs N Q S (cutSt n s) l).2.off = false) ∨
        (n < l.length ∧ (wrs N Q S (cutSt n s) l).1 = 9 ∧ (wrs N Q S (cutSt n s) l).2.off = true))))
  | [], n, s, h1, h2 => by
    rw [List.take_nil]
    refine ⟨rfl, rfl, h1, .inr ⟨rfl, ?_, .inl ⟨Nat.zero_le _, rfl, h1⟩⟩⟩
    rw [show min n ([] : List Pt).length = 0 from Nat.min_zero n]; rfl
  | x :: l, 0, s, h1, h2 => by
    rw [List.take_zero]
    by_cases ht : takB N Q S x = true
    · have e : wr1 N Q S (cutSt 0 s) x = (9, { cutSt 0 s with off := true, cut := none }) := by
        unfold wr1
        rw [if_neg (by show ¬ s.off = true; rw [h1]; decide), if_pos ht]; rfl
      rw [wrs_stop (by rw [e]; show ¬ (9 : Int) = 0; decide), e]
      refine ⟨rfl, rfl, h1, .inr ⟨rfl, ?_, .inr (.inr ⟨Nat.zero_lt_succ _, rfl, rfl⟩)⟩⟩
      rw [Nat.zero_min]; rfl
    · have e : wr1 N Q S (cutSt 0 s) x = (80, cutSt 0 s) := by
        unfold wr1
        rw [if_neg (by show ¬ s.off = true; rw [h1]; decide), if_neg ht]
      rw [wrs_stop (by rw [e]; show ¬ (80 : Int) = 0; decide), e]
      refine ⟨rfl, rfl, h1, .inr ⟨rfl, ?_, .inr (.inl ⟨Nat.zero_lt_succ _, rfl, h1⟩)⟩⟩
      rw [Nat.zero_min]; rfl
  | x :: l, n + 1, s, h1, h2 => by
    rw [List.take_succ_cons]
    by_cases ht : takB N Q S x = true
    · obtain ⟨s', hs'⟩ : ∃ s' : St, s' = { s with F := upd (plc Q x.d x.r x.s) x.b s.F, wr := wrap64 (s.wr + 1) } := ⟨_, rfl⟩
      have e1 : wr1 N Q S (cutSt (n + 1) s) x = (0, cutSt n s') := by
        unfold wr1
        rw [if_neg (by show ¬ s.off = true; rw [h1]; decide), if_pos ht, hs']; rfl
      have e2 : wr1 N Q S s x = (0, s') := by
        unfold wr1
        rw [if_neg (by rw [h1]; decide), if_pos ht, hs', h2]
      rw [wrs_go (by rw [e1]), wrs_go (by rw [e2]), e1, e2]
      have ih := cut_math (N := N) (Q := Q) (S := S) l n s' (by rw [hs']; exact h1) (by rw [hs']; exact h2)
      rw [show bump s'.wr (min n l.length) = bump s.wr (min (n + 1) (x :: l).length) by rw [List.length_cons, Nat.succ_min_succ, hs']; rfl] at ih
      simp only [List.length_cons, Nat.succ_le_succ_iff, Nat.succ_lt_succ_iff]
      simpa using ih
    · have e1 : wr1 N Q S (cutSt (n + 1) s) x = (80, cutSt (n + 1) s) := by
        unfold wr1
        rw [if_neg (by show ¬ s.off = true; rw [h1]; decide), if_neg ht]
      have e2 : wr1 N Q S s x = (80, s) := by
        unfold wr1
        rw [if_neg (by rw [h1]; decide), if_neg ht]
      rw [wrs_stop (by rw [e1]; show ¬ (80 : Int) = 0; decide), wrs_stop (by rw [e2]; show ¬ (80 : Int) = 0; decide), e1, e2]
      exact ⟨rfl, rfl, h1, .inl ⟨rfl, rfl, h1⟩⟩
theorem pl_range (D : Nat → Pt) (m : Nat) : pl D 0 m = (List.range m).map D := by
  unfold pl; rw [Nat.sub_zero, List.range_eq_range']
theorem pl_length (D : Nat → Pt) (m : Nat) : (pl D 0 m).length = m := by rw [pl_range]; simp
theorem pl_take (D : Nat → Pt) (m n : Nat) : (pl D 0 m).take n = pl D 0 (min n m) := by
  rw [pl_range, pl_range, ← List.map_take, List.take_range]
section
variable {W w : World} {g1 g2 : Nat} {k r c : Int} {N Q S : Nat} {s1 s2 : St}
theorem Two.symm (h : Two W w g1 g2 k r c N Q S s1 s2) : Two W w g2 g1 k r c N Q S s2 s1 := by
  obtain ⟨Y1, Y2, h1, h2, h3, h4, h5, h6⟩ := h
  exact ⟨Y2, Y1, h2, h1, fun b hb hc => h3 b hc hb, h5, h4, h6⟩
theorem Two.bel (h : Two W w g1 g2 k r c N Q S s1 s2) : Below W.heap.size W w := by
  obtain ⟨Y1, Y2, h1, h2, h3, h4, h5, h6⟩ := h
  exact h6
theorem Two.pm (h : Two W w g1 g2 k r c N Q S s1 s2) : Pm k r c Q N Q S := by
  obtain ⟨Y1, Y2, h1, h2, h3, h4, h5, h6⟩ := h
  exact h1.pm
theorem Two.below {w' : World} (h : Two W w g1 g2 k r c N Q S s1 s2) (hb : Below w.heap.size w w') : Two W w' g1 g2 k r c N Q S s1 s2 := by
  obtain ⟨Y1, Y2, h1, h2, h3, h4, h5, h6⟩ := h
  exact ⟨Y1, Y2, h1.below hb, h2.below hb, h3, h4, h5, below_then h6 hb⟩
theorem Two.mono {V : World} (h : Two W w g1 g2 k r c N Q S s1 s2) (hb : Below V.heap.size V W) : Two V w g1 g2 k r c N Q S s1 s2 := by
  obtain ⟨Y1, Y2, h1, h2, h3, h4, h5, h6⟩ := h
  have := hb.size
  exact ⟨Y1, Y2, h1, h2, h3, fun b hb => Nat.le_trans this (h4 b hb), fun b hb => Nat.le_trans this (h5 b hb), below_then hb h6⟩
/-- The first disk did something. -/
theorem Two.did {w' : World} {s1' : St} {Y1 Y2 Y' : Nat → Prop} (h1 : Dk w' Y' g1 k r c N Q S s1') (hy : ∀ b, Y' b → Y1 b ∨ w.heap.size ≤ b) (ho : Only Y1 w w') (h2 : Dk w Y2 g2 k r c N Q S s2) (h3 : ∀ b, Y1 b → ¬ Y2 b) (h4 : ∀ b, Y1 b → W.heap.size ≤ b) (h5 : ∀ b, Y2 b → W.heap.size ≤ b) (h6 : Below W.heap.size W w) : Two W w' g1 g2 k r c N Q S s1' s2 := by
  have hs := h6.size
  refine ⟨Y', Y2, h1, h2.only ho (fun b hb hc => h3 b hc hb), fun b hb hc => ?_, fun b hb => ?_, h5, h6.trans (ho.below h4 hs)⟩
  · rcases hy b hb with h | h
    · exact h3 b h hc
    · have := h2.lt b hc; omega
  · rcases hy b hb with h | h
    · exact h4 b h
    · omega
theorem two_cut (h : Two W w g1 g2 k r c N Q S s1 s2) (n : Int) (hn : n ≤ 9223372036854775807) : Calls Try.prog 23 #[.pointer (some ⟨g1, 0, none⟩), .int .i64 n] w fun e w' => (n < 0 ∧ e = .returned (.int .i64 2) ∧ w' = w) ∨ (0 ≤ n ∧ e = .returned (.int .i64 0) ∧ Two W w' g1 g2 k r c N Q S (cutSt n.toNat s1) s2) := by
  obtain ⟨Y1, Y2, h1, h2, h3, h4, h5, h6⟩ := h
  refine (Cut_any h1 n hn).mono fun e w' hc => ?_
  rcases hc with hc | ⟨p0, p1, p2, p3, _⟩
  · exact .inl hc
  · exact .inr ⟨p0, p1, Two.did p2 (fun b hb => .inl hb) p3 h2 h3 h4 h5 h6⟩
theorem two_on (h : Two W w g1 g2 k r c N Q S s1 s2) : Calls Try.prog 25 #[.pointer (some ⟨g1, 0, none⟩)] w fun e w' => e = .returned (.int .i64 0) ∧ Two W w' g1 g2 k r c N Q S (onSt s1) s2 := by
  obtain ⟨Y1, Y2, h1, h2, h3, h4, h5, h6⟩ := h
  refine (On_any h1).mono fun e w' hc => ?_
  obtain ⟨p1, p2, p3, _⟩ := hc
  exact ⟨p1, Two.did p2 (fun b hb => .inl hb) p3 h2 h3 h4 h5 h6⟩
theorem two_whole (h : Two W w g1 g2 k r c N Q S s1 s2) : Calls Try.prog 27 #[.pointer (some ⟨g1, 0, none⟩)] w fun e w' => e = .returned (.int .i64 0) ∧ Two W w' g1 g2 k r c N Q S (wholeSt s1) s2 := by
  obtain ⟨Y1, Y2, h1, h2, h3, h4, h5, h6⟩ := h
  refine (Whole_any h1).mono fun e w' hc => ?_
  obtain ⟨p1, p2, p3, _⟩ := hc
  exact ⟨p1, Two.did p2 (fun b hb => .inl hb) p3 h2 h3 h4 h5 h6⟩
theorem two_wipe (h : Two W w g1 g2 k r c N Q S s1 s2) (d : Int) : Calls Try.prog 21 #[.pointer (some ⟨g1, 0, none⟩), .int .i64 d] w fun e w' => (¬ (0 ≤ d ∧ d < (N : Int)) ∧ e = .returned (.int .i64 80) ∧ Two W w' g1 g2 k r c N Q S s1 s2) ∨ ((0 ≤ d ∧ d < (N : Int)) ∧ e = .returned (.int .i64 0) ∧ Two W w' g1 g2 k r c N Q S (wipeSt Q d.toNat s1) s2) := by
  have h0 := h
  obtain ⟨Y1, Y2, h1, h2, h3, h4, h5, h6⟩ := h
  refine (Wipe_any h1 d).mono fun e w' hc => ?_
  rcases hc with ⟨p0, p1, p2⟩ | ⟨p0, p1, ⟨Y', p2, p3⟩, p4⟩
  · exact .inl ⟨p0, p1, h0.below p2⟩
  · exact .inr ⟨p0, p1, Two.did p2 (fun b hb => .inl (p3 b hb)) p4 h2 h3 h4 h5 h6⟩
theorem two_write (h : Two W w g1 g2 k r c N Q S s1 s2) (po : Option Addr) (n pc : Nat) (D : Nat → Pt) (B : Nat → Option Addr) (K : Nat → Nat) (hn : n ≤ 9223372036854775807) (hp : Pts W (fun b => b < W.heap.size) po n D B K) :
    Calls Try.prog 17 #[.pointer (some ⟨g1, 0, none⟩), .slice po n pc] w fun e w' => e = .returned (.int .i64 (wrs N Q S s1 (pl D 0 n)).1) ∧ Two W w' g1 g2 k r c N Q S (wrs N Q S s1 (pl D 0 n)).2 s2 := by
  obtain ⟨Y1, Y2, h1, h2, h3, h4, h5, h6⟩ := h
  have hs := h6.size
  refine (Write_any h1 po n pc D B K hn (hp.below h6) (fun b hb => by omega) (fun b hb hc => by have := h4 b hb; omega)).mono fun e w' hc => ?_
  obtain ⟨p1, ⟨Y', p2, p3⟩, p4⟩ := hc
  exact ⟨p1, Two.did p2 p3 p4 h2 h3 h4 h5 h6⟩
theorem two_off (h : Two W w g1 g2 k r c N Q S s1 s2) : Calls Try.prog 36 #[.pointer (some ⟨g1, 0, none⟩)] w fun e w' => e = .returned (.bool s1.off) ∧ w' = w := by
  obtain ⟨Y1, Y2, h1, h2, h3, h4, h5, h6⟩ := h
  exact Off_any h1
theorem two_writes (h : Two W w g1 g2 k r c N Q S s1 s2) : Calls Try.prog 37 #[.pointer (some ⟨g1, 0, none⟩)] w fun e w' => e = .returned (.int .i64 s1.wr) ∧ w' = w := by
  obtain ⟨Y1, Y2, h1, h2, h3, h4, h5, h6⟩ := h
  exact Writes_any h1
theorem two_read (h : Two W w g1 g2 k r c N Q S s1 s2) (d o s : Int) : Calls Try.prog 19 #[.pointer (some ⟨g1, 0, none⟩), .int .i64 d, .int .i64 o, .int .i64 s] w fun e w' => ∃ ao cap, e = .returned (.tuple #[.slice ao (rdB N Q s1 d o s).length cap, .int .i64 (rdErr N Q s1 d o s)]) ∧ OwB w.heap.size w' ao cap (rdB N Q s1 d o s) ∧ Below w.heap.size w w' := by
  obtain ⟨Y1, Y2, h1, h2, h3, h4, h5, h6⟩ := h
  exact Read_any h1 d o s
theorem two_image (h : Two W w g1 g2 k r c N Q S s1 s2) : Calls Try.prog 29 #[.pointer (some ⟨g1, 0, none⟩)] w fun e w' => ∃ m A' C', e = .returned (.tuple #[.agg #[.int .i64 k, .int .i64 r, .int .i64 c, .int .i64 (Q : Int), .slice (some ⟨m, 0, none⟩) (N * Q * 2 : Nat) (N * Q * 2 : Nat)], .int .i64 0]) ∧ Slots w' (fun b => w.heap.size ≤ b ∧ b < w'.heap.size) m (N * Q * 2) A' C' s1.F ∧ (∀ i, i < N * Q * 2 → OwB w.heap.size w' (A' i) (C' i) (s1.F i)) ∧ Below w.heap.size w w' := by
  obtain ⟨Y1, Y2, h1, h2, h3, h4, h5, h6⟩ := h
  exact Image_any h1
theorem two_wiped (h : Two W w g1 g2 k r c N Q S s1 s2) : Calls Try.prog 38 #[.pointer (some ⟨g1, 0, none⟩)] w fun e w' => ∃ ao cap, e = .returned (.slice ao (gl 16 s1.gone).length cap) ∧ OwI w.heap.size w' ao cap (gl 16 s1.gone) ∧ Below w.heap.size w w' := by
  obtain ⟨Y1, Y2, h1, h2, h3, h4, h5, h6⟩ := h
  exact Wiped_any h1
theorem two_alike (h : Two W w g1 g2 k r c N Q S s1 s2) (hF : s1.F = s2.F) (hw : s1.wr = s2.wr) (ho : s1.off = s2.off) : Calls Try.prog 35 #[.pointer (some ⟨g1, 0, none⟩), .pointer (some ⟨g2, 0, none⟩)] w fun e w' => e = .returned (.bool true) ∧ Below w.heap.size w w' := by
  obtain ⟨Y1, Y2, h1, h2, h3, h4, h5, h6⟩ := h
  exact alike_any w Y1 Y2 g1 g2 k r c N Q S s1 s2 h1 h2 (fun i _ => by rw [hF]) hw ho
end
theorem pts_less {w : World} {Z : Nat → Prop} {po : Option Addr} {n m : Nat} {D : Nat → Pt} {B : Nat → Option Addr} {K : Nat → Nat} (h : Pts w Z po n D B K) (hm : m ≤ n) : Pts w Z po m D B K :=
  ⟨fun h0 => by obtain ⟨b, off, e, hc⟩ := h.at_ (by omega); exact ⟨b, off, e, fun i hi => hc i (by omega)⟩, fun i hi => h.rd i (by omega), fun i hi => h.nil i (by omega), fun a h0 => h.inl a (by omega), fun i a hi => h.inb i a (by omega)⟩
theorem pts_zero {w : World} {Z : Nat → Prop} (po : Option Addr) (D : Nat → Pt) (B : Nat → Option Addr) (K : Nat → Nat) : Pts w Z po 0 D B K :=
  ⟨fun h => absurd h (Nat.lt_irrefl 0), fun i hi => absurd hi (Nat.not_lt_zero i), fun i hi => absurd hi (Nat.not_lt_zero i), fun _ h => absurd h (Nat.lt_irrefl 0), fun i _ hi => absurd hi (Nat.not_lt_zero i)⟩
end Go.Proofs.Ytdicogmjjboilaa
