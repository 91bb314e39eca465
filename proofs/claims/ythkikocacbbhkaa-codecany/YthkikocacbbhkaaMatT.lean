/- A matrix in new memory; and answers that are written over. -/
import Derived.Test.YthkikocacbbhkaaMatS
namespace Go.Proofs.Ythkikocacbbhkaa
open Go.RowKit

theorem rd_news {w : World} {ad : Addr} {n : Nat} {f : Nat → K} (h : Rd w (some ad) n f) : ∀ j u, (cellsOf n f)[j]? = some u → w.cell? (ad.add j) = some u := by
  intro j u hu
  have hj : j < n := list_lt (cellsOf_length n f) hu
  rw [cellsOf_get _ _ _ hj] at hu
  obtain ⟨b, off, e, hc⟩ := h (by omega)
  cases e
  rw [Addr.add_lit, hc j hj]; exact hu
/-- Bytes appended to nothing: a row of their own. -/
theorem wpList_append_start {w : World} {ops : Array Oper} {rest : List Oper} {o : Oper} {a : Act} {Q : Exit → Act → World → Prop} (hgd : o.guard = none) (s x : Operand)
    (ho : o.op = .call { callee := .builtin .append, args := #[s, x], argTypes := #[23, 23] }) (hs : a.eval s = .slice none 0 0) (ao : Option Addr) (n ca : Nat) (f : Nat → K) (hx : a.eval x = .slice ao n ca)
    (hnil : ao = none → n = 0 ∧ ca = 0) (ha : Rd w ao n f) (hn : n ≤ 1000000)
    (h : ∀ v' w', w'.ownsRow w.heap.size 5 1 v' n (cellsOf n f) → w.grownBy w' none → wpList Try.prog ops Q rest (a.put o.dst v') w') : wpList Try.prog ops Q (o :: rest) a w := by
  obtain ⟨i0, hi, hz0, hz1, hz2⟩ := info_parts info5
  cases ao with
  | none =>
    obtain ⟨rfl, rfl⟩ := hnil rfl
    refine wpList_append_own_none hgd s x 23 ho w.heap.size 5 i0 1 Try.underlying23 hi (.slice none 0 0) 0 [] hs (World.ownsRow_nil _ _ _ _) hx ?_
    exact h _ _ (World.ownsRow_nil _ _ _ _) ⟨rfl, rfl, rfl, Nat.le_refl _, fun _ _ _ => rfl⟩
  | some ad =>
    refine wpList_append_own w hgd s x 23 ho w.heap.size 5 i0 (.int .u8 0) 1 1 Try.underlying23 hi hz0 hz1 hz2 rfl (by decide) (.slice none 0 0) 0 [] hs (World.ownsRow_nil _ _ _ _) ad n ca (cellsOf n f) hx (by rw [cellsOf_length]; omega) (rd_news ha) (cellsOf_one n f) (by unfold maxLen; omega) (by omega) (Nat.le_refl _) ?_
    intro v' w' h1 h2 _
    rw [Nat.zero_add, List.nil_append] at h1
    exact h v' w' h1 h2

theorem owns_base {w : World} {base base' e size n : Nat} {v : Value} {xs : List Value} (h : w.ownsRow base e size v n xs) (hb : base' ≤ base) : w.ownsRow base' e size v n xs := by
  refine ⟨h.1, ?_⟩
  rcases h.2 with h1 | ⟨g, cap, cur, h1, h2, h3⟩
  · exact .inl h1
  · exact .inr ⟨g, cap, cur, h1, by omega, h3⟩
theorem owns_apart' {w : World} {b b' n m : Nat} {v u : Value} {xs ys : List Value} (h : w.ownsRow b 5 1 v n xs) (k : w.ownsRow b' 23 1 u m ys) : v.ownBlock = none ∨ v.ownBlock ≠ u.ownBlock := by
  rcases h.2 with ⟨rfl, _⟩ | ⟨g, cap, cur, rfl, _, h1, _⟩
  · exact .inl rfl
  · right
    rcases k.2 with ⟨rfl, _⟩ | ⟨g', cap', cur', rfl, _, k1, _⟩
    · intro e; cases e
    · intro e
      have e' : g = g' := Option.some.inj e
      rw [e', k1] at h1
      cases h1
theorem owns_rd {w : World} {base : Nat} {ao : Option Addr} {n cap : Nat} {f : Nat → K} (h : w.ownsRow base 5 1 (.slice ao n cap) n (cellsOf n f)) : Rd w ao n f := by
  intro hp
  rcases h.2 with ⟨_, h1⟩ | ⟨g, cap', cur, h1, _⟩
  · omega
  · cases h1
    refine ⟨g, 0, rfl, fun i hi => ?_⟩
    have := h.cells (g := g) rfl i _ (cellsOf_get n f i hi)
    rwa [Addr.add_lit] at this
theorem owns_own {w : World} {base g n cap : Nat} {f : Nat → K} (h : w.ownsRow base 5 1 (.slice (some ⟨g, 0, none⟩) n cap) n (cellsOf n f)) : Own w g n cap f := by
  rcases h.2 with ⟨h1, _⟩ | ⟨g', cap', cur, h1, _, h3, h4, h5, h6, h7⟩
  · cases h1
  · cases h1
    refine ⟨h4, h5, fun i => cur.getD i (.int .u8 0), ⟨cur, h3, by rw [h6, Nat.mul_one], fun i hi => ?_⟩, fun i hi => ?_⟩
    · have : i < cur.size := by omega
      simp [this]
    · have e := cellsOf_get n f i hi
      rw [← h7, Nat.mul_one, List.getElem?_take_of_lt hi, Array.getElem?_toList] at e
      have hc : i < cur.size := by omega
      rw [Array.getElem?_eq_getElem hc] at e
      simp only [Array.getD, hc, dif_pos]
      exact Option.some.inj e
theorem own_owns {w : World} {g n u : Nat} {f : Nat → K} (h : Own w g n u f) : w.ownsRow g 5 1 (.slice (some ⟨g, 0, none⟩) n u) n (cellsOf n f) := by
  obtain ⟨h1, h2, c, ⟨cur, hb, hs, hc⟩, hh⟩ := h
  refine ⟨by rw [cellsOf_length, Nat.mul_one], .inr ⟨g, u, cur, rfl, Nat.le_refl _, hb, h1, h2, by rw [hs, Nat.mul_one], ?_⟩⟩
  rw [Nat.mul_one]
  apply List.ext_getElem?
  intro i
  by_cases hi : i < n
  · rw [List.getElem?_take_of_lt hi, cellsOf_get _ _ _ hi, Array.getElem?_toList, hc i (by omega), hh i hi]
  · rw [List.getElem?_eq_none (by simp; omega), List.getElem?_eq_none (by rw [cellsOf_length]; omega)]

theorem put_self {α : Type} (k i : Nat) (f : Nat → α) : put k (f k) f i = f i := by
  by_cases e : i = k
  · rw [e, put_at]
  · rw [put_ne _ _ e]
/-- What has been copied: k slices, each in a row of its own. -/
structure Copied (w : World) (B k : Nat) (v : Value) (T : Nat → Option Addr) (L U : Nat → Nat) (H : M) : Prop where
  out : w.ownsRow B 23 1 v k (rowsOf k T L U)
  row : ∀ i, i < k → w.ownsRow B 5 1 (.slice (T i) (L i) (U i)) (L i) (cellsOf (L i) (H i))
  apart : ∀ i j a b, i < k → j < k → i ≠ j → T i = some a → T j = some b → a.block ≠ b.block
theorem Copied.step {w w1 w2 : World} {B k : Nat} {v v' : Value} {T : Nat → Option Addr} {L U : Nat → Nat} {H : M} {ao : Option Addr} {l c : Nat} {o : Obj} {f : Nat → K} (h : Copied w B k v T L U H)
    (hg1 : w.grownBy w1 none) (h1 : w1.ownsRow w.heap.size 5 1 (.slice ao l c) l (cellsOf l f)) (hB : B ≤ w.heap.size) (hg2 : (w1.alloc o).grownBy w2 v.ownBlock) (h2 : w2.ownsRow B 23 1 v' (k + 1) (rowsOf k T L U ++ [.slice ao l c])) :
    Copied w2 B (k + 1) v' (put k ao T) (put k l L) (put k c U) (put k f H) := by
  have nn : ∀ u : Value, u.ownBlock = none ∨ u.ownBlock ≠ none := fun u => by cases u.ownBlock <;> simp
  have ov : w1.ownsRow B 23 1 v k (rowsOf k T L U) := h.out.kept hg1 (nn v)
  have old : ∀ i a, i < k → T i = some a → a.block < w.heap.size := fun i a hi e => ((h.row i hi).lt a.block (by rw [e]; rfl)).2
  have new : ∀ a, ao = some a → w.heap.size ≤ a.block := fun a e => (h1.lt a.block (by rw [e]; rfl)).1
  refine ⟨by rw [rowsOf_put]; exact h2, fun i hi => ?_, fun i j a b hi hj hne ea eb => ?_⟩
  · by_cases e : i = k
    · subst e
      rw [put_at, put_at, put_at, put_at]
      exact ((owns_base h1 hB).alloc o).kept hg2 (owns_apart' h1 ov)
    · rw [put_ne _ _ e, put_ne _ _ e, put_ne _ _ e, put_ne _ _ e]
      have r := (h.row i (by omega)).kept hg1 (nn _)
      exact (r.alloc o).kept hg2 (owns_apart' r ov)
  · by_cases e : i = k
    · subst e
      rw [put_at] at ea
      rw [put_ne _ _ (Ne.symm hne)] at eb
      have := old j b (by omega) eb
      have := new a ea
      omega
    · rw [put_ne _ _ e] at ea
      by_cases e' : j = k
      · subst e'
        rw [put_at] at eb
        have := old i a (by omega) ea
        have := new b eb
        omega
      · rw [put_ne _ _ e'] at eb
        exact h.apart i j a b (by omega) (by omega) hne ea eb
theorem Copied.lst {w : World} {B ll cap : Nat} {to : Option Addr} {T : Nat → Option Addr} {L U : Nat → Nat} {H : M} (h : Copied w B ll (.slice to ll cap) T L U H) : Lst w to ll T U L H := by
  refine ⟨fun i hi => owns_rd (h.row i hi), fun hp => ?_⟩
  rcases h.out.2 with ⟨_, h1⟩ | ⟨g, cap', cur, h1, _⟩
  · omega
  · cases h1
    refine ⟨g, 0, rfl, fun i hi => ?_⟩
    have := h.out.cells (g := g) rfl i _ (rowsOf_get ll T L U i hi)
    rwa [Addr.add_lit] at this
/-- Rows of one length that is not 0: a matrix that may be written. -/
theorem Copied.mat {w : World} {B ll cols cap : Nat} {to : Option Addr} {T : Nat → Option Addr} {L U : Nat → Nat} {H : M} (h : Copied w B ll (.slice to ll cap) T L U H) (hL : ∀ i, i < ll → L i = cols) (hc : 0 < cols) (hl : 0 < ll) :
    ∃ l G, to = some ⟨l, 0, none⟩ ∧ Mat w B w.heap.size l cap ll cols G U H := by
  rcases h.out.2 with ⟨_, h1⟩ | ⟨g, cap', cur, h1, h2, h3, h4, h5, h6, h7⟩
  · omega
  · cases h1
    have hT : ∀ i, i < ll → T i = some ⟨((T i).getD ⟨0, 0, none⟩).block, 0, none⟩ := fun i hi => by
      rcases (h.row i hi).2 with ⟨_, q⟩ | ⟨g', c', cur', q, _⟩
      · rw [hL i hi] at q; omega
      · cases hTi : T i with
        | none => rw [hTi] at q; cases q
        | some a => rw [hTi] at q; cases q; rfl
    have hR : ∀ i, i < ll → w.ownsRow B 5 1 (.slice (some ⟨((T i).getD ⟨0, 0, none⟩).block, 0, none⟩) cols (U i)) cols (cellsOf cols (H i)) := fun i hi => by
      have := h.row i hi
      rw [hL i hi, hT i hi] at this
      exact this
    have hlt := (h.out.lt g rfl).2
    refine ⟨g, fun i => ((T i).getD ⟨0, 0, none⟩).block, rfl, ⟨fun i => cur.getD i (.slice none 0 0), ⟨cur, h3, by rw [h6, Nat.mul_one], fun i hi => ?_⟩, fun i hi => ?_⟩, h4, fun i hi => owns_own (hR i hi), h2, hlt, fun i hi => ((hR i hi).lt _ rfl).1, fun i hi => ((hR i hi).lt _ rfl).2, fun i j hi hj hne => h.apart i j ⟨((T i).getD ⟨0, 0, none⟩).block, 0, none⟩ ⟨((T j).getD ⟨0, 0, none⟩).block, 0, none⟩ hi hj hne (hT i hi) (hT j hj)⟩
    · have : i < cur.size := by omega
      simp [this]
    · have e := rowsOf_get ll T L U i hi
      rw [← h7, Nat.mul_one, List.getElem?_take_of_lt hi, Array.getElem?_toList] at e
      have hcs : i < cur.size := by omega
      rw [Array.getElem?_eq_getElem hcs] at e
      simp only [Array.getD, hcs, dif_pos]
      refine (Option.some.inj e).trans ?_
      rw [hL i hi, ← hT i hi]
theorem Copied.congr {w : World} {B k : Nat} {v : Value} {T T' : Nat → Option Addr} {L L' U U' : Nat → Nat} {H H' : M} (h : Copied w B k v T L U H) (e1 : ∀ i, i < k → T i = T' i) (e2 : ∀ i, i < k → L i = L' i) (e3 : ∀ i, i < k → U i = U' i) (e4 : ∀ i, i < k → H i = H' i) : Copied w B k v T' L' U' H' := by
  have er : rowsOf k T L U = rowsOf k T' L' U' := List.map_congr_left fun i hi => by
    have := List.mem_range.1 hi
    rw [e1 i this, e2 i this, e3 i this]
  refine ⟨by rw [← er]; exact h.out, fun i hi => by rw [← e1 i hi, ← e2 i hi, ← e3 i hi, ← e4 i hi]; exact h.row i hi, fun i j a b hi hj hne ea eb => h.apart i j a b hi hj hne (by rw [e1 i hi]; exact ea) (by rw [e1 j hj]; exact eb)⟩

set_option maxHeartbeats 1000000 in
set_option maxRecDepth 100000 in
theorem twin_any (w : World) (lo : Option Addr) (ll cl : Nat) (A : Nat → Option Addr) (C L : Nat → Nat) (H : M) (hll : ll ≤ 1000) (hl : Lst w lo ll A C L H) (hn : ∀ i, i < ll → A i = none → L i = 0 ∧ C i = 0) (hL : ∀ i, i < ll → L i ≤ 1000000) :
    Calls Try.prog 13 #[.slice lo ll cl] w fun e w' => ∃ to tc T U, e = .returned (.slice to ll tc) ∧ Copied w' w.heap.size ll (.slice to ll tc) T L U H ∧ Below w.heap.size w w' := by
  obtain ⟨j0, hj, hj0, hj1, hj2⟩ := info_parts info34
  have HL : Hid (Lst w lo ll A C L H) := hl
  have HN : Hid (∀ i, i < ll → A i = none → L i = 0 ∧ C i = 0) := hn
  have HM : Hid (∀ i, i < ll → L i ≤ 1000000) := hL
  clear hl hn hL
  go_enter Try.func13, Try.ntmps13
  go_wp2
  go_loopw [3, 4] (fun v i wr => ∃ k : Nat, k ≤ ll ∧ i = .int .i64 k ∧ (∃ to tc, v = .slice to k tc) ∧ Hid (∃ T U, Copied wr w.heap.size k v T L U H) ∧ Hid (Below w.heap.size w wr)) (fun _ i _ => ll - (intOf i).toNat)
  case atStart => exact ⟨0, Nat.zero_le _, rfl, ⟨none, 0, rfl⟩, ⟨fun _ => none, fun _ => 0, World.ownsRow_nil _ _ _ _, fun i hi => absurd hi (Nat.not_lt_zero i), fun i _ _ _ hi => absurd hi (Nat.not_lt_zero i)⟩, Below.refl _ _⟩
  case round =>
    obtain ⟨k, hk, rfl, ⟨to, tc, rfl⟩, hcop, hbel⟩ := hrel
    by_cases hlt : k < ll
    · obtain ⟨b, off, rfl, hcl⟩ := (HL.out.below hbel.out).at_ (by omega)
      have ck := hcl k hlt
      clear hcl
      obtain ⟨T, U, hcp⟩ := hcop.out
      have HCP : Hid (Copied wr w.heap.size k (.slice to k tc) T L U H) := hcp
      have HR : Hid (Rd wr (A k) (L k) (H k)) := (HL.out.below hbel.out).rd k hlt
      have hs1 : w.heap.size ≤ wr.heap.size := hbel.out.size
      have hLk := HM.out k hlt
      obtain ⟨XS, hXS⟩ : ∃ X, X = rowsOf k T L U := ⟨_, rfl⟩
      have HXS : Hid (rowsOf k T L U = XS) := hXS.symm
      clear hcop hcp hXS
      go_wp2_with (first
        | (at_builtin; refine wpList_append_start (by rfl) (.tmp 13) (.tmp 17) (by rfl) (by rfl) (A k) (L k) (C k) (H k) (by rfl) (HN.out k hlt) HR.out (by omega) ?_; intro v1 w1 hown1 hgrow1; obtain ⟨ao1, cap1, rfl⟩ := owns_form hown1; have HO1 : Hid (w1.ownsRow wr.heap.size 5 1 (.slice ao1 (L k) cap1) (L k) (cellsOf (L k) (H k))) := hown1; have HG1 : Hid (wr.grownBy w1 none) := hgrow1; have HOV : Hid (w1.ownsRow w.heap.size 23 1 (.slice to k tc) k XS) := (by rw [← HXS.out]; exact HCP.out.out.kept hgrow1 (by cases (Value.slice to k tc).ownBlock <;> simp)); have hs2 : wr.heap.size ≤ w1.heap.size := hgrow1.size; clear hown1 hgrow1)
        | (at_builtin; refine wpList_append_lies _ (by rfl) (.tmp 12) (.tmp 19) 24 (by rfl) w.heap.size 23 j0 (.slice none 0 0) 1 24 Try.underlying24 hj hj0 hj1 hj2 (by rfl) (by decide) (.slice to k tc) k XS (by rfl) (HOV.out.alloc _) ⟨w1.heap.size, 0, none⟩ 1 1 [.slice ao1 (L k) cap1] (by rfl) (by rfl) (World.news_of_block (heap_alloc_new w1 _)) (by simp [Value.oneCell']) (by decide) (by unfold maxLen; omega) (by omega) (by simp; omega) (w1.heap.size + 1) (by simp) ?_; intro g cap w2 hown2 hgrow2 _ _))
      have hb1 : Below w.heap.size w w1 := hbel.out.grown HG1.out hs1 (fun r hr => by cases hr)
      have hb2 : Hid (Below w.heap.size w w2) := (hb1.alloc (by omega) _).grown hgrow2 (by simp; omega) (fun r hr => (HOV.out.lt r hr).1)
      have hcop2 : Hid (∃ T U, Copied w2 w.heap.size (k + 1) (.slice (some ⟨g, 0, none⟩) (k + 1) cap) T L U H) := by
        have st := HCP.out.step HG1.out HO1.out hs1 hgrow2 (by rw [HXS.out]; exact hown2)
        exact ⟨_, _, st.congr (fun _ _ => rfl) (fun i _ => put_self k i L) (fun _ _ => rfl) (fun i _ => put_self k i H)⟩
      clear hown2 hgrow2 hb1
      go_roundw
      case rel => exact ⟨k + 1, by omega, by go_num, ⟨_, _, rfl⟩, hcop2, hb2⟩
      case measure => simp [intOf]; omega
    · obtain rfl : k = ll := by omega
      obtain ⟨T, U, hcp⟩ := hcop.out
      have HQ : Hid (Copied wr w.heap.size k (.slice to k tc) T L U H) := hcp
      clear hcop hcp
      go_wp2
      go_ret
      exact ⟨to, tc, T, U, rfl, HQ.out, hbel.out⟩

theorem info5' : (Try.prog.info? 5).map (fun i => (i.zero, i.size, i.bytes)) = some (some (.int .u8 0), 1, 1) := by kernel_rfl
/-- The rows from k on may still be written. -/
structure Rest (w : World) (B T l cl rows cols k : Nat) (G U : Nat → Nat) (H : M) : Prop where
  lst : ∃ h : Nat → Value, w.rowIs l 23 cl h ∧ ∀ i, i < rows → h i = .slice (some ⟨G i, 0, none⟩) cols (U i)
  row : ∀ i, k ≤ i → i < rows → Own w (G i) cols (U i) (H i)
theorem Keeps.setNew {B T g : Nat} {a w : World} (h : Keeps B T a w) (h1 : (B ≤ g ∧ g < T) ∨ a.heap.size ≤ g) (i : Nat) (u : Value) : Keeps B T a (w.setCell ⟨g, i, none⟩ u) := by
  refine ⟨h.os, h.tape, h.output, by rw [size_set]; exact h.size, fun k hk hb => ?_⟩
  rw [Below.heap_setCell _ _ _ _ (by simp; omega)]
  exact h.block k hk hb
theorem owns_first {w : World} {base g n cap : Nat} {xs : List Value} (h : w.ownsRow base 5 1 (.slice (some ⟨g, 0, none⟩) n cap) n xs) (hn : 0 < n) : ∃ v, w.cell? ⟨g, 0, none⟩ = some v ∧ w.frozen? ⟨g, 0, none⟩ = false := by
  rcases h.2 with ⟨h1, _⟩ | ⟨g', cap', cur, h1, _, h3, h4, _, h6, _⟩
  · cases h1
  · cases h1
    have hr : w.rowIs g 5 cap (fun i => cur.getD i (.int .u8 0)) := ⟨cur, h3, by rw [h6, Nat.mul_one], fun i hi => by
      have : i < cur.size := by omega
      simp [this]⟩
    exact ⟨_, hr.cell (i := 0) (by omega), hr.frozen 0⟩
def eight : List Value := [.int .u8 1, .int .u8 2, .int .u8 3, .int .u8 4, .int .u8 5, .int .u8 6, .int .u8 7, .int .u8 8]

set_option maxHeartbeats 2000000 in
set_option maxRecDepth 100000 in
/-- An answer is written over: all else stays. -/
theorem spoil_mat (w : World) (B T l cl rows cols : Nat) (G U : Nat → Nat) (H : M) (hr : rows ≤ 1000) (hc : cols ≤ 100000) (hm : Mat w B T l cl rows cols G U H) :
    Calls Try.prog 20 #[.slice (some ⟨l, 0, none⟩) rows cl] w fun e w' => e = .returned (.tuple #[]) ∧ Keeps B T w w' := by
  obtain ⟨i0, hi, hz0, hz1, hz2⟩ := info_parts info5'
  have HM : Hid (Mat w B T l cl rows cols G U H) := hm
  have HG : Hid ((∀ i, i < rows → B ≤ G i ∧ G i < T ∧ G i ≠ l) ∧ ∀ i j, i < rows → j < rows → i ≠ j → G i ≠ G j) := ⟨fun i hi => ⟨hm.los i hi, hm.his i hi, hm.ne_l hi⟩, hm.apart⟩
  have hlT : l < T := hm.hi
  have hroom : rows ≤ cl := hm.room
  clear hm
  go_enter Try.func20, Try.ntmps20
  go_wp2
  go_loopw [2] (fun i wr => ∃ k : Nat, k ≤ rows ∧ i = .int .i64 k ∧ Hid (Rest wr B T l cl rows cols k G U H) ∧ Hid (Keeps B T w wr)) (fun i _ => rows - (intOf i).toNat)
  case atStart => exact ⟨0, Nat.zero_le _, rfl, ⟨HM.out.lst, fun i _ hi => HM.out.row i hi⟩, Keeps.refl _ _ _⟩
  case round =>
    obtain ⟨k, hk, rfl, hrest, hkeep⟩ := hrel
    by_cases hlt : k < rows
    · obtain ⟨c, hrow, hc'⟩ := hrest.out.lst
      have c1 := hrow.cell (i := k) (by omega)
      rw [hc' k hlt] at c1
      have HO : Hid (Own wr (G k) cols (U k) (H k)) := hrest.out.row k (Nat.le_refl _) hlt
      have hg1 := (HG.out.1 k hlt).1
      have hg2 := (HG.out.1 k hlt).2.1
      have hg3 := (HG.out.1 k hlt).2.2
      clear hrow hc'
      have i1 : (0 : Int) ≤ (k : Int) := by omega
      have i2 : (k : Int) < (rows : Int) := by omega
      obtain ⟨wm, rfl⟩ : ∃ x, x = wr := ⟨wr, rfl⟩
      go_wp2
      go_loopw [3] (fun i wx => ∃ j : Nat, j ≤ cols ∧ i = .int .i64 j ∧ Hid (Own wx (G k) cols (U k) (upto j (fun y => (K.add (H k y) (K.of 85))) (H k))) ∧ Hid (Keeps (G k) (G k + 1) wm wx)) (fun i _ => cols - (intOf i).toNat)
      case atStart => exact ⟨0, Nat.zero_le _, rfl, by rw [upto_zero]; exact HO.out, Keeps.refl _ _ _⟩
      case round =>
        obtain ⟨j, hj, rfl, hown, hk2⟩ := hrel
        have d1 : wr.cell? ⟨l, k, none⟩ = some (.slice (some ⟨G k, 0, none⟩) cols (U k)) := hk2.out.cell c1 (by simp only; omega)
        by_cases hjc : j < cols
        · have d2 : wr.cell? ⟨G k, j, none⟩ = some (.int .u8 ((H k j).n : Int)) := by have := hown.out.cell hjc; rwa [upto_at] at this
          have z2 := hown.out.frozen j
          have HX : Hid (bits .xor .u8 ((H k j).n : Int) 85 = ((((K.add (H k j) (K.of 85))).n : Nat) : Int)) := xor_k (H k j) (K.of 85)
          have i3 : (0 : Int) ≤ (j : Int) := by omega
          have i4 : (j : Int) < (cols : Int) := by omega
          go_wp2
          refine wp_region_still_tail 14 (by kernel_rfl) (by kernel_rfl) ?_
          simp only [List.take_succ_cons, List.take_zero, List.drop_succ_cons, List.drop_zero]
          repeat still_step
          refine wpStill_nil ?_
          go_wp2
          go_roundw
          case rel => exact ⟨j + 1, by omega, by go_num, by rw [HX.out]; exact (hown.out.store (f := fun y => (K.add (H k y) (K.of 85)))).below (below_drew _ _), (hk2.out.setCell (Nat.le_refl _) (by omega) j _).drew⟩
          case measure => simp [intOf]; omega
        · obtain rfl : j = cols := by omega
          obtain ⟨f, hf⟩ : ∃ f : Nat → K, f = fun y => (K.add (H k y) (K.of 85)) := ⟨_, rfl⟩
          have HOF : Hid (Own wr (G k) j (U k) f) := by rw [hf]; exact hown.out.all
          have HKW : Hid (Keeps B T w wr) := hkeep.out.trans (hk2.out.mono hg1 hg2)
          have hws := HKW.out.size
          have HRS : Hid (Rest wr B T l cl rows j (k + 1) G U H) := by
            obtain ⟨c, hrow, hc'⟩ := hrest.out.lst
            refine ⟨⟨c, hrow.of_block (hk2.out.block l hrow.lt (by omega)), hc'⟩, fun i h1 h2 => ?_⟩
            have := HG.out.2 i k h2 hlt (by omega)
            exact (hrest.out.row i (by omega) h2).keeps hk2.out (by omega)
          obtain ⟨XS, hXS⟩ : ∃ XS, XS = cellsOf j f := ⟨_, rfl⟩
          have HXS : Hid (XS = cellsOf j f) := hXS
          have HOW : Hid (∀ o, (wr.alloc o).ownsRow (G k) 5 1 (.slice (some ⟨G k, 0, none⟩) j (U k)) j XS) := fun o => by rw [hXS]; exact (own_owns HOF.out).alloc o
          have hgl : G k < wr.heap.size := HOF.out.lt
          clear hf hXS hown hk2
          go_wp2_with (at_builtin; refine wpList_append_lies _ (by rfl) (.tmp 37) (.tmp 38) 23 (by rfl) (G k) 5 i0 (.int .u8 0) 1 1 Try.underlying23 hi hz0 hz1 hz2 (by rfl) (by decide) (.slice (some ⟨G k, 0, none⟩) j (U k)) j XS (by rfl) (HOW.out _) ⟨wr.heap.size, 0, none⟩ 8 8 eight (by rfl) (by rfl) (World.news_of_block (heap_alloc_new wr _)) (by simp [eight, Value.oneCell']) (by decide) (by unfold maxLen; omega) (by omega) (by simp; omega) (wr.heap.size + 1) (by simp) ?_; intro g5 cap5 w5 hown5 hgrow5 hwh5 hlt5
                       obtain ⟨v5, c5, z5⟩ := owns_first hown5 (by omega)
                       have HG5 : Hid ((wr.alloc (.cells #[.int .u8 1, .int .u8 2, .int .u8 3, .int .u8 4, .int .u8 5, .int .u8 6, .int .u8 7, .int .u8 8] 5)).grownBy w5 (some (G k))) := hgrow5
                       have HW5 : Hid (g5 = G k ∨ g5 = wr.heap.size + 1) := (by rcases hwh5 with e | e; exact .inl (Option.some.inj e).symm; exact .inr e)
                       clear hown5 hgrow5 hwh5)
          have HK6 : Hid (Keeps B T w (w5.setCell ⟨g5, 0, none⟩ (.int .u8 9))) := by
            refine Keeps.setNew ⟨HG5.out.os.trans HKW.out.os, HG5.out.tape.trans HKW.out.tape, HG5.out.output.trans HKW.out.output, Nat.le_trans hws (Nat.le_trans (by simp) HG5.out.size), fun x hx hb => ?_⟩ (by have := HW5.out; omega) 0 _
            rw [HG5.out.block x (by simp; omega) (fun e => by have := Option.some.inj e; omega), Below.heap_alloc _ _ _ (by omega)]
            exact HKW.out.block x hx hb
          have HR6 : Hid (Rest (w5.setCell ⟨g5, 0, none⟩ (.int .u8 9)) B T l cl rows j (k + 1) G U H) := by
            have bl : ∀ x, x < wr.heap.size → x ≠ G k → (w5.setCell ⟨g5, 0, none⟩ (.int .u8 9)).heap[x]? = wr.heap[x]? := fun x hx hne => by
              have := HW5.out
              rw [Below.heap_setCell _ _ _ _ (by simp; omega), HG5.out.block x (by simp; omega) (fun e => hne (Option.some.inj e)), Below.heap_alloc _ _ _ hx]
            obtain ⟨c, hrow, hc'⟩ := HRS.out.lst
            refine ⟨⟨c, hrow.of_block (bl l hrow.lt (Ne.symm hg3)), hc'⟩, fun i h1 h2 => ?_⟩
            have hr := HRS.out.row i h1 h2
            exact hr.of_block (bl (G i) hr.lt (HG.out.2 i k h2 hlt (by omega)))
          go_wp2_with fail
          go_roundw
          case rel => exact ⟨k + 1, by omega, by go_num, HR6.out, HK6.out⟩
          case measure => simp [intOf]; omega
    · go_wp2
      go_end0
      exact ⟨rfl, hkeep.out⟩

/-- An answer: nothing, or a matrix between B and T. -/
def Sol (w : World) (B T : Nat) (ao : Option Addr) (n cap cols : Nat) (H : M) : Prop := (ao = none ∧ n = 0 ∧ cap = 0) ∨ ∃ l G U, ao = some ⟨l, 0, none⟩ ∧ Mat w B T l cap n cols G U H
theorem Sol.below {w w' : World} {B T : Nat} {ao : Option Addr} {n cap cols : Nat} {H : M} (h : Sol w B T ao n cap cols H) (hb : Below w.heap.size w w') : Sol w' B T ao n cap cols H := by
  rcases h with h | ⟨l, G, U, e, hm⟩
  · exact .inl h
  · exact .inr ⟨l, G, U, e, hm.below hb⟩
theorem Sol.keeps {w w' : World} {B T B' T' : Nat} {ao : Option Addr} {n cap cols : Nat} {H : M} (h : Sol w B T ao n cap cols H) (hb : Keeps B' T' w w') (ho : T ≤ B' ∨ T' ≤ B) : Sol w' B T ao n cap cols H := by
  rcases h with h | ⟨l, G, U, e, hm⟩
  · exact .inl h
  · exact .inr ⟨l, G, U, e, hm.keeps hb ho⟩
theorem Sol.lst {w : World} {B T : Nat} {ao : Option Addr} {n cap cols : Nat} {H : M} (h : Sol w B T ao n cap cols H) : ∃ A C, Lst w ao n A C (fun _ => cols) H := by
  rcases h with ⟨rfl, rfl, rfl⟩ | ⟨l, G, U, rfl, hm⟩
  · exact ⟨fun _ => none, fun _ => 0, fun i hi => absurd hi (Nat.not_lt_zero i), fun hp => absurd hp (Nat.lt_irrefl 0)⟩
  · exact ⟨_, _, hm.lst_⟩
set_option maxHeartbeats 400000 in
set_option maxRecDepth 100000 in
theorem spoil_sol (w : World) (B T : Nat) (ao : Option Addr) (n cap cols : Nat) (H : M) (hn : n ≤ 1000) (hc : 0 < n → cols ≤ 100000) (h : Sol w B T ao n cap cols H) :
    Calls Try.prog 20 #[.slice ao n cap] w fun e w' => e = .returned (.tuple #[]) ∧ Keeps B T w w' := by
  by_cases h0 : n = 0
  · subst h0
    clear h hc
    go_enter Try.func20, Try.ntmps20
    go_wp2
    go_loop [2] (fun i => i = .int .i64 0) (fun i => 0)
    case atStart => rfl
    case round =>
      obtain rfl := hrel
      go_wp2
      go_end0
      exact ⟨rfl, Keeps.refl _ _ _⟩
  · rcases h with ⟨_, h1, _⟩ | ⟨l, G, U, rfl, hm⟩
    · exact absurd h1 h0
    · exact spoil_mat w B T l cap n cols G U H hn (hc (by omega)) hm
theorem lenB_le (b : Bool) (n m : Nat) (h : b = true → n ≤ m) : lenB b n ≤ m := by
  cases b
  · exact Nat.zero_le _
  · exact h rfl
end Go.Proofs.Ythkikocacbbhkaa
