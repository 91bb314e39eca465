/- Sums of terms; what a cell changed by. -/
import Derived.Test.YtgflgmkaaidfnaaDelB
namespace Go.Proofs.Ytgflgmkaaidfnaa
open Go.RowKit

/-- Terms as they lie in memory. -/
def termsOf (F : Nat → K) (A : Nat → Option Addr) (L C : Nat → Nat) : Nat → List Value
  | 0 => []
  | n + 1 => termsOf F A L C n ++ [.int .u8 ((F n).n : Int), .slice (A n) (L n) (C n)]
theorem termsOf_length (F : Nat → K) (A : Nat → Option Addr) (L C : Nat → Nat) (n : Nat) : (termsOf F A L C n).length = n * 2 := by
  induction n with
  | zero => rfl
  | succ n ih => rw [termsOf, List.length_append, ih, Nat.succ_mul]; rfl
theorem termsOf_get (F : Nat → K) (A : Nat → Option Addr) (L C : Nat → Nat) (n i : Nat) (hi : i < n) : (termsOf F A L C n)[i * 2]? = some (.int .u8 ((F i).n : Int)) ∧ (termsOf F A L C n)[i * 2 + 1]? = some (.slice (A i) (L i) (C i)) := by
  induction n with
  | zero => omega
  | succ n ih =>
    have hl := termsOf_length F A L C n
    rw [termsOf]
    by_cases e : i = n
    · subst e
      rw [List.getElem?_append_right (by omega), List.getElem?_append_right (by omega), hl, Nat.sub_self, show i * 2 + 1 - i * 2 = 1 by omega]
      exact ⟨rfl, rfl⟩
    · rw [List.getElem?_append_left (by omega), List.getElem?_append_left (by omega)]
      exact ih (by omega)
theorem termsOf_one (F : Nat → K) (A : Nat → Option Addr) (L C : Nat → Nat) (n : Nat) : ∀ v ∈ termsOf F A L C n, v.oneCell' = true := by
  induction n with
  | zero => intro v hv; cases hv
  | succ n ih =>
    intro v hv
    rw [termsOf, List.mem_append] at hv
    rcases hv with hv | hv
    · exact ih v hv
    · simp at hv
      rcases hv with rfl | rfl <;> rfl
theorem termsOf_congr {F F' : Nat → K} {A A' : Nat → Option Addr} {L L' C C' : Nat → Nat} {n : Nat} (h1 : ∀ i, i < n → F i = F' i) (h2 : ∀ i, i < n → A i = A' i) (h3 : ∀ i, i < n → L i = L' i) (h4 : ∀ i, i < n → C i = C' i) : termsOf F A L C n = termsOf F' A' L' C' n := by
  induction n with
  | zero => rfl
  | succ n ih => rw [termsOf, termsOf, ih (fun i hi => h1 i (by omega)) (fun i hi => h2 i (by omega)) (fun i hi => h3 i (by omega)) (fun i hi => h4 i (by omega)), h1 n (by omega), h2 n (by omega), h3 n (by omega), h4 n (by omega)]
/-- n terms that begin at ta. -/
structure Trm (w : World) (ta : Option Addr) (n : Nat) (F : Nat → K) (A : Nat → Option Addr) (C L : Nat → Nat) (H : M) : Prop where
  rd : ∀ i, i < n → Rd w (A i) (L i) (H i)
  at_ : 0 < n → ∃ b, ta = some ⟨b, 0, none⟩ ∧ ∀ i, i < n → w.cell? ⟨b, i * 2, none⟩ = some (.int .u8 ((F i).n : Int)) ∧ w.cell? ⟨b, i * 2 + 1, none⟩ = some (.slice (A i) (L i) (C i))
theorem trm_owns {w : World} {B n c : Nat} {ao : Option Addr} {F : Nat → K} {A : Nat → Option Addr} {L C : Nat → Nat} {H : M} (h : w.ownsRow B 45 2 (.slice ao n c) n (termsOf F A L C n)) (hr : ∀ i, i < n → Rd w (A i) (L i) (H i)) : Trm w ao n F A C L H :=
  ⟨hr, fun hp => by
    rcases h.2 with ⟨_, h1⟩ | ⟨g, cap', cur, h1, _⟩
    · omega
    · cases h1
      refine ⟨g, rfl, fun i hi => ?_⟩
      obtain ⟨e1, e2⟩ := termsOf_get F A L C n i hi
      have c1 := h.cells (g := g) rfl _ _ e1
      have c2 := h.cells (g := g) rfl _ _ e2
      rw [Addr.add_lit, Nat.zero_add] at c1 c2
      exact ⟨c1, c2⟩⟩
theorem box_cell (w : World) (x y : Value) (e : TypeId) (o : Obj) : ((w.alloc (.cells #[x, y] e)).alloc o).cell? ⟨w.heap.size, 1, none⟩ = some y := by
  rw [World.cell?_of_block (Below.heap_alloc _ _ _ (by simp)), cell_of_row _ _ _ _ _ _ (heap_alloc_new w _)]
  rfl
theorem news_at {w : World} {g : Nat} (hg : w.heap.size = g) (xs : Array Value) (e : TypeId) : ∀ (j : Nat) u, xs.toList[j]? = some u → (w.alloc (.cells xs e)).cell? ((⟨g, 0, none⟩ : Addr).add j) = some u := by
  subst hg
  exact World.news_of_block (heap_alloc_new w _)
theorem cellsOf_push (m : Nat) (f : Nat → K) : cellsOf (m + 1) f = cellsOf m f ++ [.int .u8 ((f m).n : Int)] := by simp [cellsOf, List.range_succ]
theorem rowsOf_push (m : Nat) (A : Nat → Option Addr) (L C : Nat → Nat) : rowsOf (m + 1) A L C = rowsOf m A L C ++ [.slice (A m) (L m) (C m)] := by simp [rowsOf, List.range_succ]
theorem owns_apart2 {w : World} {b b' n m : Nat} {v u : Value} {xs ys : List Value} (h : w.ownsRow b 5 1 v n xs) (k : w.ownsRow b' 23 1 u m ys) : u.ownBlock = none ∨ u.ownBlock ≠ v.ownBlock := by
  cases e : u.ownBlock with
  | none => exact .inl rfl
  | some g =>
    right
    rcases owns_apart' h k with h1 | h1
    · rw [h1]; intro e'; cases e'
    · intro e'; exact h1 (by rw [e, e'])

set_option maxHeartbeats 2000000 in
set_option maxRecDepth 100000 in
theorem dsum_any (w : World) (ta : Option Addr) (n tc m : Nat) (F : Nat → K) (A : Nat → Option Addr) (C L : Nat → Nat) (H : M) (hn1 : 1 ≤ n) (hn : n ≤ 16) (hm1 : 1 ≤ m) (hm : m ≤ 65536) (ht : Trm w ta n F A C L H) (hL : ∀ i, i < n → L i = m) :
    Calls Try.prog 22 #[.slice ta n tc] w fun e w' => ∃ g, e = .returned (.slice (some ⟨g, 0, none⟩) m m) ∧ w.heap.size ≤ g ∧ Own w' g m m (lin n F H) ∧ Below w.heap.size w w' := by
  obtain ⟨i0, hi0, hz0, hz1, hz2⟩ := info_parts info5'
  obtain ⟨j0, hj, hj0, hj1, hj2⟩ := info_parts info23c
  have HT : Hid (Trm w ta n F A C L H) := ht
  have HLL : Hid (∀ i, i < n → L i = m) := hL
  obtain ⟨b, rfl, _⟩ := ht.at_ (by omega)
  clear ht hL
  go_enter Try.func22, Try.ntmps22
  go_wp2
  go_loopw [3, 4, 11] (fun v u x wr => ∃ i : Nat, i ≤ n ∧ x = .int .i64 i ∧ (∃ fo fc, v = .slice fo i fc) ∧ (∃ lo lc, u = .slice lo i lc) ∧ Hid (wr.ownsRow w.heap.size 5 1 v i (cellsOf i F)) ∧ Hid (wr.ownsRow w.heap.size 23 1 u i (rowsOf i A L C)) ∧ Hid (Below w.heap.size w wr)) (fun _ _ x _ => n - (intOf x).toNat)
  case atStart => exact ⟨0, Nat.zero_le _, rfl, ⟨none, 0, rfl⟩, ⟨none, 0, rfl⟩, World.ownsRow_nil _ _ _ _, World.ownsRow_nil _ _ _ _, Below.refl _ _⟩
  case round =>
    obtain ⟨i, hi, rfl, ⟨fo, fc, rfl⟩, ⟨lo, lc, rfl⟩, hv, hu, hbel⟩ := hrel
    by_cases hlt : i < n
    · obtain ⟨b', e, hc⟩ := HT.out.at_ (by omega)
      cases e
      obtain ⟨c1, c2⟩ := hc i hlt
      replace c1 := held c1 hbel.out
      replace c2 := held c2 hbel.out
      clear hc
      have hws := hbel.out.size
      have i1 : (0 : Int) ≤ (i : Int) := by omega
      have i2 : (i : Int) < (n : Int) := by omega
      obtain ⟨XS, hXS⟩ : ∃ X, X = cellsOf i F := ⟨_, rfl⟩
      have HXS : Hid (cellsOf i F = XS) := hXS.symm
      obtain ⟨YS, hYS⟩ : ∃ X, X = rowsOf i A L C := ⟨_, rfl⟩
      have HYS : Hid (rowsOf i A L C = YS) := hYS.symm
      have HV : Hid (wr.ownsRow w.heap.size 5 1 (.slice fo i fc) i XS) := by rw [hXS]; exact hv.out
      have HU : Hid (wr.ownsRow w.heap.size 23 1 (.slice lo i lc) i YS) := by rw [hYS]; exact hu.out
      clear hXS hYS hv hu
      go_wp2_with (first
        | (at_builtin; refine wpList_append_lies _ (by rfl) (.tmp 15) (.tmp 18) 23 (by rfl) w.heap.size 5 i0 (.int .u8 0) 1 1 Try.underlying23 hi0 hz0 hz1 hz2 (by rfl) (by decide) (.slice fo i fc) i XS (by rfl) ((HV.out.alloc _).alloc _) ⟨wr.heap.size + 1, 0, none⟩ 1 1 [.int .u8 ((F i).n : Int)] (by rfl) (by rfl) (news_at (by simp) #[.int .u8 ((F i).n : Int)] 5) (by simp [Value.oneCell']) (by decide) (by unfold maxLen; omega) (by omega) (by simp; omega) (wr.heap.size + 2) (by simp) ?_; intro g1 cap1 w1 hown1 hgrow1 _ _
           have c3 : w1.cell? ⟨wr.heap.size, 1, none⟩ = some (.slice (A i) (L i) (C i)) := (by
             refine (World.cell?_of_block (hgrow1.block wr.heap.size (by simp; omega) (fun e => ?_))).trans (box_cell wr _ _ _ _)
             have := (HV.out.lt _ e.symm).2
             omega)
           have HV1 : Hid (w1.ownsRow w.heap.size 5 1 (.slice (some ⟨g1, 0, none⟩) (i + 1) cap1) (i + 1) (cellsOf (i + 1) F)) := (by rw [cellsOf_push, HXS.out]; exact hown1)
           have HU1 : Hid (w1.ownsRow w.heap.size 23 1 (.slice lo i lc) i YS) := ((HU.out.alloc _).alloc _).kept hgrow1 (owns_apart2 HV.out HU.out)
           have HB1 : Hid (Below w.heap.size w w1) := ((hbel.out.alloc (by omega) _).alloc (by simp; omega) _).grown hgrow1 (by simp; omega) (fun r hr => (HV.out.lt r hr).1)
           have hs1 := HB1.out.size
           clear hown1 hgrow1)
        | (at_builtin; refine wpList_append_lies _ (by rfl) (.tmp 20) (.tmp 23) 27 (by rfl) w.heap.size 23 j0 (.slice none 0 0) 1 24 Try.underlying27 hj hj0 hj1 hj2 (by rfl) (by decide) (.slice lo i lc) i YS (by rfl) (HU1.out.alloc _) ⟨w1.heap.size, 0, none⟩ 1 1 [.slice (A i) (L i) (C i)] (by rfl) (by rfl) (World.news_of_block (heap_alloc_new w1 _)) (by simp [Value.oneCell']) (by decide) (by unfold maxLen; omega) (by omega) (by simp; omega) (w1.heap.size + 1) (by simp) ?_; intro g2 cap2 w2 hown2 hgrow2 _ _))
      have HU2 : Hid (w2.ownsRow w.heap.size 23 1 (.slice (some ⟨g2, 0, none⟩) (i + 1) cap2) (i + 1) (rowsOf (i + 1) A L C)) := by rw [rowsOf_push, HYS.out]; exact hown2
      have HV2 : Hid (w2.ownsRow w.heap.size 5 1 (.slice (some ⟨g1, 0, none⟩) (i + 1) cap1) (i + 1) (cellsOf (i + 1) F)) := (HV1.out.alloc _).kept hgrow2 (owns_apart' HV1.out HU1.out)
      have HB2 : Hid (Below w.heap.size w w2) := (HB1.out.alloc (by omega) _).grown hgrow2 (by simp; omega) (fun r hr => (HU1.out.lt r hr).1)
      clear hown2 hgrow2
      go_roundw
      case rel => exact ⟨i + 1, by omega, by go_num, ⟨_, _, rfl⟩, ⟨_, _, rfl⟩, HV2, HU2, HB2⟩
      case measure => simp [intOf]; omega
    · obtain rfl : i = n := by omega
      have HD := dot_k wr fo lo i fc lc m F A C L H hn1 hn hm1 hm (owns_rd hv.out) (lst_owns hu.out fun j hj => (HT.out.rd j hj).below hbel.out) HLL.out
      have hws := hbel.out.size
      clear hv hu
      go_wp2_with (go_at_call 34; refine HD.mono ?_; rintro e w' ⟨g, rfl, hg, ho, hb⟩)
      go_ret
      exact ⟨g, rfl, by omega, ho, below_step hbel.out hb hws⟩
end Go.Proofs.Ytgflgmkaaidfnaa
