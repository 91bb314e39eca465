/- Two lists of tallies that are the same; tallies that are written over. -/
import Derived.Test.YtmlnbnbgkpbjeaaCrE
import Derived.Test.YtmlnbnbgkpbjeaaDoG
namespace Go.Proofs.Ytmlnbnbgkpbjeaa
open Go.RowKit Go.Maps Go.ChangeShapes

set_option maxHeartbeats 4000000 in
set_option maxRecDepth 100000 in
theorem RSame_any (w : World) {B1 B2 : Nat} {a1 a2 : Option Addr} {k1 k2 : Nat} {ts us : List Tly} {f : Int → List Int} (h1 : Tal B1 w a1 k1 ts f) (h2 : Tal B2 w a2 k2 us f) (hm : ts.map (fun t => t.1) = us.map (fun t => t.1)) (tl : Nat) (hl1 : tl = ts.length) (hn : tl ≤ 100) (hf : ∀ x, (f x).length ≤ 1000) :
    Calls Try.prog 18 #[.slice a1 tl k1, .slice a2 tl k2] w fun e w' => e = .returned (.bool true) ∧ Below w.heap.size w w' := by
  have HA : Hid (Tal B1 w a1 k1 ts f) := h1
  have HB : Hid (Tal B2 w a2 k2 us f) := h2
  have HM : Hid (ts.map (fun t => t.1) = us.map (fun t => t.1)) := hm
  have hul : us.length = tl := by rw [hl1, ← List.length_map (f := fun t : Tly => t.1), ← hm, List.length_map]
  have HL : Hid (ts.length = tl ∧ us.length = tl) := ⟨hl1.symm, hul⟩
  have HF : Hid (∀ x, (f x).length ≤ 1000) := hf
  clear h1 h2 hm hl1 hul hf
  go_enter Try.func18, Try.ntmps18
  go_wp2_with fail
  go_loopw [5] (fun y wr => ∃ i : Nat, i ≤ tl ∧ y = .int .i64 (i : Int) ∧ Hid (Below w.heap.size w wr)) (fun y _ => tl - (intOf y).toNat)
  case atStart => exact ⟨0, Nat.zero_le _, rfl, Below.refl _ _⟩
  case round =>
    obtain ⟨i, hi, rfl, hbw⟩ := hrel
    by_cases hlt : i < tl
    · obtain ⟨g, rfl, _, _⟩ := HA.out.at_ (by have := HL.out; omega)
      obtain ⟨g', rfl, _, _⟩ := HB.out.at_ (by have := HL.out; omega)
      obtain ⟨t, htt⟩ : ∃ t, ts[i]? = some t := ⟨_, List.getElem?_eq_getElem (by rw [HL.out.1]; exact hlt)⟩
      obtain ⟨u, huu⟩ : ∃ u, us[i]? = some u := ⟨_, List.getElem?_eq_getElem (by rw [HL.out.2]; exact hlt)⟩
      have htu : t.1 = u.1 := by
        have e := congrArg (fun l => l[i]?) HM.out
        simp only [List.getElem?_map, htt, huu] at e
        simpa using e
      have c0 : wr.cell? ⟨g, i * 2, none⟩ = some (.int .i64 t.1) := held (HA.out.c0 htt) hbw.out
      have c1 : wr.cell? ⟨g, i * 2 + 1, none⟩ = some (.slice t.2.1 t.2.2.1 t.2.2.2) := held (HA.out.c1 htt) hbw.out
      have d0 : wr.cell? ⟨g', i * 2, none⟩ = some (.int .i64 u.1) := held (HB.out.c0 huu) hbw.out
      have d1 : wr.cell? ⟨g', i * 2 + 1, none⟩ = some (.slice u.2.1 u.2.2.1 u.2.2.2) := held (HB.out.c1 huu) hbw.out
      have l1 := HA.out.len htt
      have l2 := HB.out.len huu
      have q1 := HA.out.cel t (List.mem_of_getElem? htt)
      have q2 := HB.out.cel u (List.mem_of_getElem? huu)
      have fl := HF.out t.1
      have HC : Hid (∀ v, Below wr.heap.size wr v → Calls Try.prog 19 #[.slice t.2.1 t.2.2.1 t.2.2.2, .slice u.2.1 u.2.2.1 u.2.2.2] v fun e w' => e = .returned (.bool true) ∧ Below v.heap.size v w') := fun v hv => by
        have r1 := ints_rd (ownsInts_below (ownsInts_below q1 hbw.out) hv)
        have r2 := ints_rd (ownsInts_below (ownsInts_below q2 hbw.out) hv)
        rw [show u.2.2.1 = t.2.2.1 by rw [l1, l2, htu]] at r2 ⊢
        exact SameInts_any v _ _ _ _ _ _ _ r1 r2 (by rw [l1]; exact fl) (fun j _ => by rw [htu])
      obtain ⟨t0, ta, tn, tc⟩ := t
      obtain ⟨u0, ua, un, uc⟩ := u
      simp only at c0 c1 d0 d1 htu HC
      have CH : Hid (∀ v, Below wr.heap.size wr v → v.cell? ⟨g, i * 2, none⟩ = some (.int .i64 t0) ∧ v.cell? ⟨g, i * 2 + 1, none⟩ = some (.slice ta tn tc) ∧ v.cell? ⟨g', i * 2, none⟩ = some (.int .i64 u0) ∧ v.cell? ⟨g', i * 2 + 1, none⟩ = some (.slice ua un uc)) := fun v hv => ⟨held c0 hv, held c1 hv, held d0 hv, held d1 hv⟩
      have ne : (t0 != u0) = false := by rw [htu]; simp
      have i1 : (0 : Int) ≤ (i : Int) := by omega
      have i2 : (i : Int) < (tl : Int) := by omega
      clear l1 l2 q1 q2 fl htt huu htu
      go_wp2_with fail
      go_region_held3 (fun v => v.cell? ⟨g, i * 2, none⟩ = some (.int .i64 t0) ∧ v.cell? ⟨g, i * 2 + 1, none⟩ = some (.slice ta tn tc) ∧ v.cell? ⟨g', i * 2, none⟩ = some (.int .i64 u0) ∧ v.cell? ⟨g', i * 2 + 1, none⟩ = some (.slice ua un uc)) (go_keep) ((go_at_call 19; refine (HC.out _ (by first | exact below_drew _ _ | exact Below.refl _ _)).mono ?_; rintro e wf ⟨rfl, hf⟩; have HF2 : Hid (Below wr.heap.size wr wf) := (by first | exact of_drew' hf | exact hf); obtain ⟨f0, f1, f2, f3⟩ := CH.out wf HF2.out; clear hf))
      all_goals (
        go_wp2_with fail
        go_roundw
        case rel => exact ⟨i + 1, by omega, by go_num, below_then hbw.out HF2.out⟩
        case measure => simp [intOf]; omega)
    · have i2 : ¬ (i : Int) < (tl : Int) := by omega
      go_wp2_with fail
      go_ret
      exact ⟨rfl, hbw.out⟩
end Go.Proofs.Ytmlnbnbgkpbjeaa
namespace Go.Proofs.Ytmlnbnbgkpbjeaa
open Go.RowKit Go.Maps Go.ChangeShapes

theorem row_stay {w w' : World} {B : Nat} {e : TypeId} {sz n : Nat} {v : Value} {xs : List Value} (h : w.ownsRow B e sz v n xs) (hb : ∀ g, B ≤ g → g < w.heap.size → w'.heap[g]? = w.heap[g]?) : w'.ownsRow B e sz v n xs := by
  rcases h with ⟨h1, h2 | ⟨g, cp, cur, h2, h3, h4, h5⟩⟩
  · exact ⟨h1, .inl h2⟩
  · exact ⟨h1, .inr ⟨g, cp, cur, h2, h3, (hb g h3 (Array.getElem?_eq_some_iff.1 h4).1).trans h4, h5⟩⟩
theorem Tal.stay {B : Nat} {w w' : World} {a : Option Addr} {cap : Nat} {ts : List Tly} {f : Int → List Int} (h : Tal B w a cap ts f) (hb : ∀ g, B ≤ g → g < w.heap.size → w'.heap[g]? = w.heap[g]?) : Tal B w' a cap ts f :=
  ⟨row_stay h.row hb, fun t ht => ⟨row_stay (h.cel t ht).1 hb, (h.cel t ht).2⟩, h.far⟩
/-- Tallies of which those from i on are not yet written over. -/
structure Spo (B T i tl : Nat) (w wr : World) (g cap : Nat) (ts : List Tly) : Prop where
  row : ∃ vs, wr.ownsRow B 40 2 (.slice (some ⟨g, 0, none⟩) tl cap) tl vs ∧ ∀ j, i ≤ j → j < tl → vs[j * 2 + 1]? = (tF ts)[j * 2 + 1]?
  cel : ∀ j t, i ≤ j → ts[j]? = some t → (∃ ys, wr.ownsRow B 3 1 (sv t.2) t.2.2.1 ys) ∧ ∀ b, (sv t.2).ownBlock = some b → b < T
  far : ts.Pairwise (fun s t => (sv s.2).ownBlock ≠ (sv t.2).ownBlock)
  onl : Only (fun b => B ≤ b ∧ b < T) w wr
  gT : g < T
theorem far_at {ts : List Tly} (h : ts.Pairwise (fun s t => (sv s.2).ownBlock ≠ (sv t.2).ownBlock)) {i j : Nat} {s t : Tly} (hi : ts[i]? = some s) (hj : ts[j]? = some t) (hij : i < j) : (sv s.2).ownBlock ≠ (sv t.2).ownBlock := by
  obtain ⟨a, rfl⟩ := List.getElem?_eq_some_iff.1 hi
  obtain ⟨b, rfl⟩ := List.getElem?_eq_some_iff.1 hj
  exact List.pairwise_iff_getElem.1 h i j a b hij
theorem spo_0 {B tl : Nat} {w1 w : World} {g cap : Nat} {ts : List Tly} {f : Int → List Int} (h : Tal B w1 (some ⟨g, 0, none⟩) cap ts f) (hb : Below w1.heap.size w1 w) (hl : ts.length = tl) : Spo B w1.heap.size 0 tl w w g cap ts := by
  have h2 := h.below hb
  refine ⟨⟨tF ts, by rw [← hl]; exact h2.row, fun j _ _ => rfl⟩, fun j t _ ht => ⟨?_, fun b hb => ((h.cel t (List.mem_of_getElem? ht)).1.lt b hb).2⟩, h.far, Only.refl _ _, (h.row.lt g rfl).2⟩
  have q := (h2.cel t (List.mem_of_getElem? ht)).1
  rw [← h.len ht] at q
  exact ⟨_, q⟩
theorem Spo.c1 {B T i tl : Nat} {w wr : World} {g cap : Nat} {ts : List Tly} (h : Spo B T i tl w wr g cap ts) {t : Tly} (ht : ts[i]? = some t) (hi : i < tl) : wr.cell? ⟨g, i * 2 + 1, none⟩ = some (.slice t.2.1 t.2.2.1 t.2.2.2) := by
  obtain ⟨vs, r1, r2⟩ := h.row
  rw [World.ownsRow.cellAt r1 (i * 2 + 1) (by omega), r2 i (Nat.le_refl _) hi, tF_1 ht]
theorem Spo.inner {B T i tl : Nat} {w wr : World} {g cap : Nat} {ts : List Tly} (h : Spo B T i tl w wr g cap ts) {t : Tly} (ht : ts[i]? = some t) (hn : 0 < t.2.2.1) : ∃ gi, t.2.1 = some ⟨gi, 0, none⟩ := by
  obtain ⟨⟨ys, q1⟩, _⟩ := h.cel i t (Nat.le_refl _) ht
  rcases q1.2 with ⟨_, h2⟩ | ⟨g1, c1, k1, e, _⟩
  · omega
  · unfold sv at e
    simp only [Value.slice.injEq] at e
    exact ⟨g1, e.1⟩
theorem Spo.rd {B T i tl : Nat} {w wr : World} {g cap : Nat} {ts : List Tly} (h : Spo B T i tl w wr g cap ts) {t : Tly} (ht : ts[i]? = some t) {gi u : Nat} (hg : t.2.1 = some ⟨gi, 0, none⟩) (hu : u < t.2.2.1) : (∃ x, wr.cell? ⟨gi, u, none⟩ = some x) ∧ wr.frozen? ⟨gi, u, none⟩ = false := by
  obtain ⟨⟨ys, q1⟩, _⟩ := h.cel i t (Nat.le_refl _) ht
  unfold sv at q1
  rw [hg] at q1
  have hl := q1.1
  refine ⟨⟨ys[u]'(by omega), ?_⟩, World.ownsRow.frozenAt q1 u⟩
  rw [World.ownsRow.cellAt q1 u (by omega), List.getElem?_eq_getElem (by omega)]
theorem Spo.put {B T i tl : Nat} {w wr : World} {g cap : Nat} {ts : List Tly} (h : Spo B T i tl w wr g cap ts) {t : Tly} (ht : ts[i]? = some t) {gi u : Nat} (hg : t.2.1 = some ⟨gi, 0, none⟩) (v : Value) : Spo B T i tl w (wr.setCell ⟨gi, u, none⟩ v) g cap ts := by
  obtain ⟨vs, r1, r2⟩ := h.row
  obtain ⟨⟨ys, q1⟩, q2⟩ := h.cel i t (Nat.le_refl _) ht
  have hob : (sv t.2).ownBlock = some gi := by unfold sv; rw [hg]; rfl
  have q3 := q1
  unfold sv at q3
  rw [hg] at q3
  obtain ⟨s1, s2⟩ := World.ownsRow.stored q3 u v
  have hlt := q1.lt gi hob
  refine ⟨⟨vs, r1.kept s2 ?_, r2⟩, fun j t' hj ht' => ?_, h.far, h.onl.setCell ⟨hlt.1, q2 gi hob⟩ _, h.gT⟩
  · right
    rcases rows_apart r1 q1 with e | e
    · rw [hob] at e; cases e
    · rw [hob] at e; exact fun e2 => e e2.symm
  · by_cases e : j = i
    · subst e
      rw [ht] at ht'
      cases ht'
      refine ⟨⟨ys.set u v, ?_⟩, q2⟩
      unfold sv
      rw [hg]
      exact s1
    · obtain ⟨⟨ys', p1⟩, p2⟩ := h.cel j t' hj ht'
      exact ⟨⟨ys', p1.kept s2 (.inr (by rw [← hob]; exact (far_at h.far ht ht' (by omega)).symm))⟩, p2⟩
theorem Spo.next {B T i tl : Nat} {w wr w2 : World} {g cap : Nat} {ts : List Tly} (h : Spo B T i tl w wr g cap ts) {t : Tly} (ht : ts[i]? = some t) (hi : i < tl) {o : Obj} (hg : (wr.alloc o).grownBy w2 (sv t.2).ownBlock) :
    (∃ x, w2.cell? ⟨g, i * 2 + 1, none⟩ = some x) ∧ w2.frozen? ⟨g, i * 2 + 1, none⟩ = false ∧ ∀ v, Spo B T (i + 1) tl w (w2.setCell ⟨g, i * 2 + 1, none⟩ v) g cap ts := by
  obtain ⟨vs, r1, r2⟩ := h.row
  obtain ⟨⟨ys, q1⟩, q2⟩ := h.cel i t (Nat.le_refl _) ht
  have r3 : w2.ownsRow B 40 2 (.slice (some ⟨g, 0, none⟩) tl cap) tl vs := (r1.alloc o).kept hg (by
    right
    rcases rows_apart r1 q1 with e | e
    · rw [e]; simp [Value.ownBlock]
    · exact fun e2 => e e2.symm)
  have hl := r3.1
  refine ⟨⟨vs[i * 2 + 1]'(by omega), ?_⟩, World.ownsRow.frozenAt r3 _, fun v => ?_⟩
  · rw [World.ownsRow.cellAt r3 (i * 2 + 1) (by omega), List.getElem?_eq_getElem (by omega)]
  · obtain ⟨s1, s2⟩ := World.ownsRow.stored r3 (i * 2 + 1) v
    have ho : Only (fun b => B ≤ b ∧ b < T) wr w2 := by
      refine ⟨hg.os, hg.tape, hg.output, ?_, fun b hb hx => ?_⟩
      · have := hg.size; simp at this; omega
      · rw [hg.block b (by simp; omega) (fun e => hx ⟨(q1.lt b e.symm).1, q2 b e.symm⟩), Below.heap_alloc _ _ _ hb]
    refine ⟨⟨_, s1, fun j hj hj2 => ?_⟩, fun j t' hj ht' => ?_, h.far, (h.onl.trans ho).setCell ⟨(r1.lt g rfl).1, h.gT⟩ _, h.gT⟩
    · rw [List.getElem?_set_ne (by omega)]; exact r2 j (by omega) hj2
    · obtain ⟨⟨ys', p1⟩, p2⟩ := h.cel j t' (by omega) ht'
      refine ⟨⟨ys', World.ownsRow.kept (World.ownsRow.kept (p1.alloc o) hg (.inr (far_at h.far ht ht' (by omega)).symm)) s2 ?_⟩, p2⟩
      rcases rows_apart r1 p1 with e | e
      · exact .inl e
      · exact .inr e
end Go.Proofs.Ytmlnbnbgkpbjeaa
