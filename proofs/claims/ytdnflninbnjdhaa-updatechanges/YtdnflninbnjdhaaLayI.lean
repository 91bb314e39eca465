/- The parts of a range, as the program keeps them: the closure, the loop that cuts, Spans. -/
import Derived.Test.YtdnflninbnjdhaaLayB
import Derived.Deep.AppendLies
import Derived.Deep.OwnRows
namespace Go.Proofs.Ytdnflninbnjdhaa
open Go.RowKit

/-- Spans as they lie in memory. -/
def spOf (S C F T : Nat → Nat) : Nat → List Value
  | 0 => []
  | n + 1 => spOf S C F T n ++ [.int .i64 (S n : Int), .int .i64 (C n : Int), .int .i64 (F n : Int), .int .i64 (T n : Int)]
theorem spOf_length (S C F T : Nat → Nat) (n : Nat) : (spOf S C F T n).length = n * 4 := by
  induction n with
  | zero => rfl
  | succ n ih => rw [spOf, List.length_append, ih, Nat.succ_mul]; rfl
theorem spOf_get (S C F T : Nat → Nat) (n i : Nat) (hi : i < n) : (spOf S C F T n)[i * 4]? = some (.int .i64 (S i : Int)) ∧ (spOf S C F T n)[i * 4 + 1]? = some (.int .i64 (C i : Int)) ∧ (spOf S C F T n)[i * 4 + 2]? = some (.int .i64 (F i : Int)) ∧ (spOf S C F T n)[i * 4 + 3]? = some (.int .i64 (T i : Int)) := by
  induction n with
  | zero => omega
  | succ n ih =>
    have hl := spOf_length S C F T n
    rw [spOf]
    by_cases e : i = n
    · subst e
      rw [List.getElem?_append_right (by omega), List.getElem?_append_right (by omega), List.getElem?_append_right (by omega), List.getElem?_append_right (by omega), hl, Nat.sub_self, show i * 4 + 1 - i * 4 = 1 by omega, show i * 4 + 2 - i * 4 = 2 by omega, show i * 4 + 3 - i * 4 = 3 by omega]
      exact ⟨rfl, rfl, rfl, rfl⟩
    · rw [List.getElem?_append_left (by omega), List.getElem?_append_left (by omega), List.getElem?_append_left (by omega), List.getElem?_append_left (by omega)]
      exact ih (by omega)
theorem spOf_congr {S C F T T' : Nat → Nat} {n : Nat} (h : ∀ i, i < n → T i = T' i) : spOf S C F T n = spOf S C F T' n := by
  induction n with
  | zero => rfl
  | succ n ih => rw [spOf, spOf, ih (fun i hi => h i (by omega)), h n (by omega)]
theorem owns_drew {w : World} {base e size n : Nat} {v : Value} {xs : List Value} (h : w.ownsRow base e size v n xs) : w.drew.ownsRow base e size v n xs := h
theorem news_at {w : World} {g : Nat} (hg : w.heap.size = g) (xs : Array Value) (e : TypeId) : ∀ (j : Nat) u, xs.toList[j]? = some u → (w.alloc (.cells xs e)).cell? ((⟨g, 0, none⟩ : Addr).add j) = some u := by
  subst hg
  exact World.news_of_block (heap_alloc_new w _)
theorem news_drew (w : World) (xs : Array Value) (e : TypeId) : ∀ (j : Nat) u, xs.toList[j]? = some u → (w.alloc (.cells xs e)).drew.cell? ((⟨w.heap.size, 0, none⟩ : Addr).add j) = some u := fun j u h => news_at rfl xs e j u h
theorem info36 : (Try.prog.info? 42).map (fun i => (i.zero, i.size, i.bytes)) = some (some (.agg #[.int .i64 0, .int .i64 0, .int .i64 0, .int .i64 0]), 4, 32) := by kernel_rfl
theorem info_parts {P : Program} {e : TypeId} {z : Option Value} {s b : Nat} (h : (P.info? e).map (fun i => (i.zero, i.size, i.bytes)) = some (z, s, b)) : ∃ i, P.info? e = some i ∧ i.zero = z ∧ i.size = s ∧ i.bytes = b := by
  cases hi : P.info? e with
  | none => rw [hi] at h; cases h
  | some i => rw [hi] at h; simp at h; exact ⟨i, rfl, h.1, h.2.1, h.2.2⟩
theorem setCell_at {w : World} {g i : Nat} {u : Value} (h : w.cell? ⟨g, i, none⟩ = some u) (v : Value) : (w.setCell ⟨g, i, none⟩ v).cell? ⟨g, i, none⟩ = some v := World.cell?_setCell_same _ _ _ h
theorem frozen_set (w : World) (a b : Addr) (v : Value) : (w.setCell a v).frozen? b = w.frozen? b := by simp
/-- Below B nothing but block g is another one. -/
structure Touch (B g : Nat) (w w' : World) : Prop where
  os : w'.os = w.os
  tape : w'.tape = w.tape
  output : w'.output = w.output
  size : w.heap.size ≤ w'.heap.size
  block : ∀ k, k < B → k ≠ g → w'.heap[k]? = w.heap[k]?
theorem Touch.refl (B g : Nat) (w : World) : Touch B g w w := ⟨rfl, rfl, rfl, Nat.le_refl _, fun _ _ _ => rfl⟩
theorem Touch.trans {B g : Nat} {a b c : World} (h : Touch B g a b) (k : Touch B g b c) : Touch B g a c :=
  ⟨k.os.trans h.os, k.tape.trans h.tape, k.output.trans h.output, Nat.le_trans h.size k.size, fun i hi hg => (k.block i hi hg).trans (h.block i hi hg)⟩
theorem Touch.of_below {B g : Nat} {w w' : World} (h : Below B w w') : Touch B g w w' := ⟨h.os, h.tape, h.output, h.size, fun k hk _ => h.block k hk⟩
theorem Touch.set {B g i : Nat} {a w : World} (h : Touch B g a w) (v : Value) : Touch B g a (w.setCell ⟨g, i, none⟩ v) :=
  h.trans ⟨rfl, rfl, rfl, by simp [World.setCell], fun k _ hk => Below.heap_setCell _ _ _ _ hk⟩
theorem Touch.cell {B g : Nat} {w w' : World} (h : Touch B g w w') {b i : Nat} (hb : b < B) (hg : b ≠ g) {v : Value} (hc : w.cell? ⟨b, i, none⟩ = some v) : w'.cell? ⟨b, i, none⟩ = some v := (World.cell?_of_block (h.block b hb hg)).trans hc
set_option maxHeartbeats 2000000 in
set_option maxRecDepth 100000 in
theorem keep_any (w : World) (bs bm bp B n from' many W c : Nat) (ao : Option Addr) (cap : Nat) (S C F T : Nat → Nat)
    (hs : w.cell? ⟨bs, 0, none⟩ = some (.slice ao n cap)) (hf : w.frozen? ⟨bs, 0, none⟩ = false) (hm : w.cell? ⟨bm, 1, none⟩ = some (.int .i64 (W : Int))) (hp : w.cell? ⟨bp, 2, none⟩ = some (.int .i64 (c : Int)))
    (hown : w.ownsRow B 42 4 (.slice ao n cap) n (spOf S C F T n)) (hB : B ≤ w.heap.size) (h1 : bs < B) (h2 : bm < B) (h3 : bp < B) (n1 : bm ≠ bs) (n2 : bp ≠ bs)
    (hS : S n = from' / W) (hC : C n = from' % W / c) (hF : F n = from' % c) (hT : T n = from' % c + many) (hW : 1 ≤ W) (hc : 1 ≤ c) (hW2 : W ≤ 768) (hc2 : c ≤ 64) (hfr : from' ≤ 32768) (hma : many ≤ 64) (hn : n ≤ 32768) :
    Calls Try.prog 23 #[.int .i64 (from' : Int), .int .i64 (many : Int), .pointer (some ⟨bs, 0, none⟩), .pointer (some ⟨bm, 0, none⟩), .pointer (some ⟨bp, 0, none⟩)] w fun e w' => ∃ g cap', e = .returned (.tuple #[]) ∧ w'.cell? ⟨bs, 0, none⟩ = some (.slice (some ⟨g, 0, none⟩) (n + 1) cap') ∧ w'.frozen? ⟨bs, 0, none⟩ = false ∧ w'.ownsRow B 42 4 (.slice (some ⟨g, 0, none⟩) (n + 1) cap') (n + 1) (spOf S C F T (n + 1)) ∧ Touch B bs w w' := by
  obtain ⟨j0, hj, hj0, hj1, hj2⟩ := info_parts info36
  have HO : Hid (w.ownsRow B 42 4 (.slice ao n cap) n (spOf S C F T n)) := hown
  clear hown
  obtain ⟨sv, hsv⟩ : ∃ u, u = S n := ⟨_, rfl⟩
  obtain ⟨cv, hcv⟩ : ∃ u, u = C n := ⟨_, rfl⟩
  obtain ⟨fv, hfv⟩ : ∃ u, u = F n := ⟨_, rfl⟩
  obtain ⟨tv, htv⟩ : ∃ u, u = T n := ⟨_, rfl⟩
  obtain ⟨fw, hfw⟩ : ∃ u, u = from' % W := ⟨_, rfl⟩
  rw [← hsv] at hS
  rw [← hcv, ← hfw] at hC
  rw [← hfv] at hF
  rw [← htv, ← hF] at hT
  have l1 : fw < W := by rw [hfw]; exact Nat.mod_lt _ hW
  have l2 : fv < c := by rw [hF]; exact Nat.mod_lt _ hc
  have l3 : sv ≤ from' := by rw [hS]; exact Nat.div_le_self _ _
  have l4 : cv ≤ fw := by rw [hC]; exact Nat.div_le_self _ _
  have e1 : IntKind.i64.wrap ((from' : Int) / (W : Int)) = (sv : Int) := by rw [show (from' : Int) / (W : Int) = ((from' / W : Nat) : Int) from rfl, ← hS, IntKind.wrap_i64]; omega
  have e2 : (from' : Int).tmod (W : Int) = (fw : Int) := by rw [show (from' : Int).tmod (W : Int) = ((from' % W : Nat) : Int) from rfl, ← hfw]
  have e3 : IntKind.i64.wrap ((fw : Int) / (c : Int)) = (cv : Int) := by rw [show (fw : Int) / (c : Int) = ((fw / c : Nat) : Int) from rfl, ← hC, IntKind.wrap_i64]; omega
  have e4 : (from' : Int).tmod (c : Int) = (fv : Int) := by rw [show (from' : Int).tmod (c : Int) = ((from' % c : Nat) : Int) from rfl, ← hF]
  have e5 : IntKind.i64.wrap ((fv : Int) + (many : Int)) = (tv : Int) := by rw [IntKind.wrap_i64]; omega
  have HX : Hid (spOf S C F T (n + 1) = spOf S C F T n ++ [.int .i64 (sv : Int), .int .i64 (cv : Int), .int .i64 (fv : Int), .int .i64 (tv : Int)]) := by rw [hsv, hcv, hfv, htv]; rfl
  have z1 : ¬ W = 0 := by omega
  have z2 : ¬ c = 0 := by omega
  have z3 : ¬ (W : Int) = 0 := by omega
  have z4 : ¬ (c : Int) = 0 := by omega
  clear hS hC hF hT hsv hcv hfv htv hfw
  obtain ⟨XS, hXS⟩ : ∃ X, X = spOf S C F T n := ⟨_, rfl⟩
  rw [← hXS] at HO HX
  clear hXS
  go_enter Try.func23, Try.ntmps23
  go_wp2_with fail
  have k0 : ∀ o, (w.alloc o).cell? ⟨bs, 0, none⟩ = some (.slice ao n cap) := fun o => held hs (below_alloc w o)
  refine wp_region_held_drew (S := fun w' => w'.cell? ⟨bm, 1, none⟩ = some (.int .i64 (W : Int)) ∧ w'.cell? ⟨bp, 2, none⟩ = some (.int .i64 (c : Int))) (by kernel_rfl) ⟨hm, hp⟩ (fun hHeld => ?_)
  refine wpAnyH_take (i := 1) (oi := _) (v := .int .i64 (from' : Int)) rfl (by kernel_rfl) (by kernel_rfl) (by kernel_rfl) (fun _ _ _ h => h) (Or.inl ⟨by rfl, ?_⟩) (by assumption) ?_
  · intro w' hSw
    try dsimp only at hSw
    go_simp <;> first | with_reducible rfl | assumption
  simp only [Act.put]
  refine wpAnyH_take (i := 2) (oi := _) (v := .pointer (some ⟨bm, 1, none⟩)) rfl (by kernel_rfl) (by kernel_rfl) (by kernel_rfl) (fun _ _ _ h => h) (Or.inl ⟨by rfl, ?_⟩) (by assumption) ?_
  · intro w' hSw
    try dsimp only at hSw
    go_simp <;> first | with_reducible rfl | assumption
  simp only [Act.put]
  refine wpAnyH_take (i := 3) (oi := _) (v := .int .i64 (W : Int)) rfl (by kernel_rfl) (by kernel_rfl) (by kernel_rfl) (fun _ _ _ h => h) (Or.inl ⟨by rfl, ?_⟩) (by assumption) ?_
  · intro w' hSw
    try dsimp only at hSw
    go_simp <;> first | with_reducible rfl | assumption
  simp only [Act.put]
  refine wpAnyH_take (i := 4) (oi := _) (v := .int .i64 (sv : Int)) rfl (by kernel_rfl) (by kernel_rfl) (by kernel_rfl) (fun _ _ _ h => h) (Or.inl ⟨by rfl, ?_⟩) (by assumption) ?_
  · intro w' hSw
    try dsimp only at hSw
    go_simp <;> first | with_reducible rfl | assumption
  simp only [Act.put]
  refine wpAnyH_take (i := 5) (oi := _) (v := .int .i64 (from' : Int)) rfl (by kernel_rfl) (by kernel_rfl) (by kernel_rfl) (fun _ _ _ h => h) (Or.inl ⟨by rfl, ?_⟩) (by assumption) ?_
  · intro w' hSw
    try dsimp only at hSw
    go_simp <;> first | with_reducible rfl | assumption
  simp only [Act.put]
  refine wpAnyH_take (i := 6) (oi := _) (v := .pointer (some ⟨bm, 1, none⟩)) rfl (by kernel_rfl) (by kernel_rfl) (by kernel_rfl) (fun _ _ _ h => h) (Or.inl ⟨by rfl, ?_⟩) (by assumption) ?_
  · intro w' hSw
    try dsimp only at hSw
    go_simp <;> first | with_reducible rfl | assumption
  simp only [Act.put]
  refine wpAnyH_take (i := 7) (oi := _) (v := .int .i64 (W : Int)) rfl (by kernel_rfl) (by kernel_rfl) (by kernel_rfl) (fun _ _ _ h => h) (Or.inl ⟨by rfl, ?_⟩) (by assumption) ?_
  · intro w' hSw
    try dsimp only at hSw
    go_simp <;> first | with_reducible rfl | assumption
  simp only [Act.put]
  refine wpAnyH_take (i := 8) (oi := _) (v := .int .i64 (fw : Int)) rfl (by kernel_rfl) (by kernel_rfl) (by kernel_rfl) (fun _ _ _ h => h) (Or.inl ⟨by rfl, ?_⟩) (by assumption) ?_
  · intro w' hSw
    try dsimp only at hSw
    go_simp <;> first | with_reducible rfl | assumption
  simp only [Act.put]
  refine wpAnyH_take (i := 9) (oi := _) (v := .pointer (some ⟨bp, 2, none⟩)) rfl (by kernel_rfl) (by kernel_rfl) (by kernel_rfl) (fun _ _ _ h => h) (Or.inl ⟨by rfl, ?_⟩) (by assumption) ?_
  · intro w' hSw
    try dsimp only at hSw
    go_simp <;> first | with_reducible rfl | assumption
  simp only [Act.put]
  refine wpAnyH_take (i := 10) (oi := _) (v := .int .i64 (c : Int)) rfl (by kernel_rfl) (by kernel_rfl) (by kernel_rfl) (fun _ _ _ h => h) (Or.inl ⟨by rfl, ?_⟩) (by assumption) ?_
  · intro w' hSw
    try dsimp only at hSw
    go_simp <;> first | with_reducible rfl | assumption
  simp only [Act.put]
  refine wpAnyH_take (i := 11) (oi := _) (v := .int .i64 (cv : Int)) rfl (by kernel_rfl) (by kernel_rfl) (by kernel_rfl) (fun _ _ _ h => h) (Or.inl ⟨by rfl, ?_⟩) (by assumption) ?_
  · intro w' hSw
    try dsimp only at hSw
    go_simp <;> first | with_reducible rfl | assumption
  simp only [Act.put]
  refine wpAnyH_take (i := 12) (oi := _) (v := .int .i64 (from' : Int)) rfl (by kernel_rfl) (by kernel_rfl) (by kernel_rfl) (fun _ _ _ h => h) (Or.inl ⟨by rfl, ?_⟩) (by assumption) ?_
  · intro w' hSw
    try dsimp only at hSw
    go_simp <;> first | with_reducible rfl | assumption
  simp only [Act.put]
  refine wpAnyH_take (i := 13) (oi := _) (v := .pointer (some ⟨bp, 2, none⟩)) rfl (by kernel_rfl) (by kernel_rfl) (by kernel_rfl) (fun _ _ _ h => h) (Or.inl ⟨by rfl, ?_⟩) (by assumption) ?_
  · intro w' hSw
    try dsimp only at hSw
    go_simp <;> first | with_reducible rfl | assumption
  simp only [Act.put]
  refine wpAnyH_take (i := 14) (oi := _) (v := .int .i64 (c : Int)) rfl (by kernel_rfl) (by kernel_rfl) (by kernel_rfl) (fun _ _ _ h => h) (Or.inl ⟨by rfl, ?_⟩) (by assumption) ?_
  · intro w' hSw
    try dsimp only at hSw
    go_simp <;> first | with_reducible rfl | assumption
  simp only [Act.put]
  refine wpAnyH_take (i := 15) (oi := _) (v := .int .i64 (fv : Int)) rfl (by kernel_rfl) (by kernel_rfl) (by kernel_rfl) (fun _ _ _ h => h) (Or.inl ⟨by rfl, ?_⟩) (by assumption) ?_
  · intro w' hSw
    try dsimp only at hSw
    go_simp <;> first | with_reducible rfl | assumption
  simp only [Act.put]
  refine wpAnyH_take (i := 16) (oi := _) (v := .int .i64 (from' : Int)) rfl (by kernel_rfl) (by kernel_rfl) (by kernel_rfl) (fun _ _ _ h => h) (Or.inl ⟨by rfl, ?_⟩) (by assumption) ?_
  · intro w' hSw
    try dsimp only at hSw
    go_simp <;> first | with_reducible rfl | assumption
  simp only [Act.put]
  refine wpAnyH_take (i := 17) (oi := _) (v := .pointer (some ⟨bp, 2, none⟩)) rfl (by kernel_rfl) (by kernel_rfl) (by kernel_rfl) (fun _ _ _ h => h) (Or.inl ⟨by rfl, ?_⟩) (by assumption) ?_
  · intro w' hSw
    try dsimp only at hSw
    go_simp <;> first | with_reducible rfl | assumption
  simp only [Act.put]
  refine wpAnyH_take (i := 18) (oi := _) (v := .int .i64 (c : Int)) rfl (by kernel_rfl) (by kernel_rfl) (by kernel_rfl) (fun _ _ _ h => h) (Or.inl ⟨by rfl, ?_⟩) (by assumption) ?_
  · intro w' hSw
    try dsimp only at hSw
    go_simp <;> first | with_reducible rfl | assumption
  simp only [Act.put]
  refine wpAnyH_take (i := 19) (oi := _) (v := .int .i64 (fv : Int)) rfl (by kernel_rfl) (by kernel_rfl) (by kernel_rfl) (fun _ _ _ h => h) (Or.inl ⟨by rfl, ?_⟩) (by assumption) ?_
  · intro w' hSw
    try dsimp only at hSw
    go_simp <;> first | with_reducible rfl | assumption
  simp only [Act.put]
  refine wpAnyH_take (i := 20) (oi := _) (v := .int .i64 (many : Int)) rfl (by kernel_rfl) (by kernel_rfl) (by kernel_rfl) (fun _ _ _ h => h) (Or.inl ⟨by rfl, ?_⟩) (by assumption) ?_
  · intro w' hSw
    try dsimp only at hSw
    go_simp <;> first | with_reducible rfl | assumption
  simp only [Act.put]
  refine wpAnyH_take (i := 21) (oi := _) (v := .int .i64 (tv : Int)) rfl (by kernel_rfl) (by kernel_rfl) (by kernel_rfl) (fun _ _ _ h => h) (Or.inl ⟨by rfl, ?_⟩) (by assumption) ?_
  · intro w' hSw
    try dsimp only at hSw
    go_simp <;> first | with_reducible rfl | assumption
  simp only [Act.put]
  refine wpAnyH_take (i := 22) (oi := _) (v := .agg #[.int .i64 (sv : Int), .int .i64 (cv : Int), .int .i64 (fv : Int), .int .i64 (tv : Int)]) rfl (by kernel_rfl) (by kernel_rfl) (by kernel_rfl) (fun _ _ _ h => h) (Or.inl ⟨by rfl, ?_⟩) (by assumption) ?_
  · intro w' hSw
    try dsimp only at hSw
    go_simp <;> first | with_reducible rfl | assumption
  simp only [Act.put]
  refine wpAnyH_ready (rs := [0, 23]) (by kernel_rfl) (by simp) ?_
  refine AllReadyH.cons (o := _) rfl (fun K hK => ?_) (AllReadyH.cons (o := _) rfl (fun K hK => ?_) AllReadyH.nil)
  · go_simp
    refine hK.out _ _ ⟨hm, hp⟩ (fun hHeld => ?_)
    clear hK K
    try simp only [Act.put]
    refine wpAnyH_ready (rs := [23]) (by kernel_rfl) (by simp) ?_
    refine AllReadyH.cons (o := _) rfl (fun K hK => ?_) AllReadyH.nil
    go_simp
    refine hK.out _ _ ⟨held hm (below_alloc w _).drew, held hp (below_alloc w _).drew⟩ (fun hHeld => ?_)
    clear hK K
    try simp only [Act.put]
    refine wpAnyH_ready (rs := [24]) (by kernel_rfl) (by simp) ?_
    refine AllReadyH.cons (o := _) rfl (fun K hK => ?_) AllReadyH.nil
    refine Go.step_append_lies _ (by rfl) (.tmp 7) (.tmp 30) 38 (by rfl) B 42 j0 (.agg #[.int .i64 0, .int .i64 0, .int .i64 0, .int .i64 0]) 4 32 Try.underlying38 hj hj0 hj1 hj2 (by rfl) (by decide) (.slice ao n cap) n XS (by simp [Act.eval]) (owns_drew (HO.out.alloc _)) ⟨w.heap.size, 0, none⟩ 1 1 [.int .i64 (sv : Int), .int .i64 (cv : Int), .int .i64 (fv : Int), .int .i64 (tv : Int)] (by simp [Act.eval]) (by rfl) (news_drew w #[.int .i64 (sv : Int), .int .i64 (cv : Int), .int .i64 (fv : Int), .int .i64 (tv : Int)] 42) (by simp [Value.oneCell']) (by decide) (by unfold maxLen; omega) (by omega) (by show _ ≤ (w.alloc _).heap.size; simp; omega) (w.heap.size + 1) (by show (w.alloc _).heap.size = _; simp) ?_
    intro g2 cap2 w2 hown2 hgrow2 _ _
    have HB2 : Hid (Below B w w2) := (((Below.refl B w).alloc hB _).drew).grown hgrow2 (by show _ ≤ (w.alloc _).heap.size; simp; omega) (fun r hr => (HO.out.lt r hr).1)
    have q0 : w2.cell? ⟨bs, 0, none⟩ = some (.slice ao n cap) := (HB2.out.cell h1).trans hs
    have q1 : w2.frozen? ⟨bs, 0, none⟩ = false := (HB2.out.frozen h1).trans hf
    have q2 : w2.cell? ⟨bm, 1, none⟩ = some (.int .i64 (W : Int)) := (HB2.out.cell h2).trans hm
    have q3 : w2.cell? ⟨bp, 2, none⟩ = some (.int .i64 (c : Int)) := (HB2.out.cell h3).trans hp
    have q4 : ∀ v, (w2.setCell ⟨bs, 0, none⟩ v).cell? ⟨bm, 1, none⟩ = some (.int .i64 (W : Int)) := fun v => (World.cell?_of_block (Below.heap_setCell _ _ _ _ n1)).trans q2
    have q5 : ∀ v, (w2.setCell ⟨bs, 0, none⟩ v).cell? ⟨bp, 2, none⟩ = some (.int .i64 (c : Int)) := fun v => (World.cell?_of_block (Below.heap_setCell _ _ _ _ n2)).trans q3
    refine hK.out _ _ ⟨q2, q3⟩ (fun hHeld => ?_)
    clear hK K
    try simp only [Act.put]
    refine wpAnyH_ready (rs := [25]) (by kernel_rfl) (by simp) ?_
    refine AllReadyH.cons (o := _) rfl (fun K hK => ?_) AllReadyH.nil
    go_simp
    refine hK.out _ _ ⟨q4 _, q5 _⟩ (fun hHeld => ?_)
    clear hK K
    try simp only [Act.put]
    refine wpAnyH_done (by kernel_rfl) ?_ _
    go_wp2
    refine bodyPost_end (results_none rfl _ _ _) rfl ?_
    exact ⟨g2, cap2, rfl, setCell_at q0 _, (frozen_set _ _ _ _).trans q1, by rw [HX.out]; exact ownsRow_setCell_below hown2 h1 _, (Touch.of_below HB2.out).set _⟩
  · go_simp
    refine hK.out _ _ ⟨held hm (below_alloc w _).drew, held hp (below_alloc w _).drew⟩ (fun hHeld => ?_)
    clear hK K
    try simp only [Act.put]
    refine wpAnyH_ready (rs := [0]) (by kernel_rfl) (by simp) ?_
    refine AllReadyH.cons (o := _) rfl (fun K hK => ?_) AllReadyH.nil
    go_simp
    refine hK.out _ _ ⟨held hm (below_alloc w _).drew, held hp (below_alloc w _).drew⟩ (fun hHeld => ?_)
    clear hK K
    try simp only [Act.put]
    refine wpAnyH_ready (rs := [24]) (by kernel_rfl) (by simp) ?_
    refine AllReadyH.cons (o := _) rfl (fun K hK => ?_) AllReadyH.nil
    refine Go.step_append_lies _ (by rfl) (.tmp 7) (.tmp 30) 38 (by rfl) B 42 j0 (.agg #[.int .i64 0, .int .i64 0, .int .i64 0, .int .i64 0]) 4 32 Try.underlying38 hj hj0 hj1 hj2 (by rfl) (by decide) (.slice ao n cap) n XS (by simp [Act.eval]) (owns_drew (HO.out.alloc _)) ⟨w.heap.size, 0, none⟩ 1 1 [.int .i64 (sv : Int), .int .i64 (cv : Int), .int .i64 (fv : Int), .int .i64 (tv : Int)] (by simp [Act.eval]) (by rfl) (news_drew w #[.int .i64 (sv : Int), .int .i64 (cv : Int), .int .i64 (fv : Int), .int .i64 (tv : Int)] 42) (by simp [Value.oneCell']) (by decide) (by unfold maxLen; omega) (by omega) (by show _ ≤ (w.alloc _).heap.size; simp; omega) (w.heap.size + 1) (by show (w.alloc _).heap.size = _; simp) ?_
    intro g2 cap2 w2 hown2 hgrow2 _ _
    have HB2 : Hid (Below B w w2) := (((Below.refl B w).alloc hB _).drew).grown hgrow2 (by show _ ≤ (w.alloc _).heap.size; simp; omega) (fun r hr => (HO.out.lt r hr).1)
    have q0 : w2.cell? ⟨bs, 0, none⟩ = some (.slice ao n cap) := (HB2.out.cell h1).trans hs
    have q1 : w2.frozen? ⟨bs, 0, none⟩ = false := (HB2.out.frozen h1).trans hf
    have q2 : w2.cell? ⟨bm, 1, none⟩ = some (.int .i64 (W : Int)) := (HB2.out.cell h2).trans hm
    have q3 : w2.cell? ⟨bp, 2, none⟩ = some (.int .i64 (c : Int)) := (HB2.out.cell h3).trans hp
    have q4 : ∀ v, (w2.setCell ⟨bs, 0, none⟩ v).cell? ⟨bm, 1, none⟩ = some (.int .i64 (W : Int)) := fun v => (World.cell?_of_block (Below.heap_setCell _ _ _ _ n1)).trans q2
    have q5 : ∀ v, (w2.setCell ⟨bs, 0, none⟩ v).cell? ⟨bp, 2, none⟩ = some (.int .i64 (c : Int)) := fun v => (World.cell?_of_block (Below.heap_setCell _ _ _ _ n2)).trans q3
    refine hK.out _ _ ⟨q2, q3⟩ (fun hHeld => ?_)
    clear hK K
    try simp only [Act.put]
    refine wpAnyH_ready (rs := [25]) (by kernel_rfl) (by simp) ?_
    refine AllReadyH.cons (o := _) rfl (fun K hK => ?_) AllReadyH.nil
    go_simp
    refine hK.out _ _ ⟨q4 _, q5 _⟩ (fun hHeld => ?_)
    clear hK K
    try simp only [Act.put]
    refine wpAnyH_done (by kernel_rfl) ?_ _
    go_wp2
    refine bodyPost_end (results_none rfl _ _ _) rfl ?_
    exact ⟨g2, cap2, rfl, setCell_at q0 _, (frozen_set _ _ _ _).trans q1, by rw [HX.out]; exact ownsRow_setCell_below hown2 h1 _, (Touch.of_below HB2.out).set _⟩
end Go.Proofs.Ytdnflninbnjdhaa
