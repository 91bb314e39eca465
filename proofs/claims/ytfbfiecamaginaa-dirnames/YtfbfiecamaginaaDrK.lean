/- Remove, by both. -/
import Derived.Test.YtfbfiecamaginaaDrJ
namespace Go.Proofs.Ytfbfiecamaginaa
open Go.RowKit Go.Sort

/-- What Remove answers: asked for, with the error. -/
theorem erR_no {E : Int} {l : List En} {s : Nm} (h : E ≠ 0) : erR E l s = E := by unfold erR; rw [if_neg h]
theorem erR_none {l : List En} {s : Nm} (h : isE l s = false) : erR 0 l s = 8 := by unfold erR; rw [if_pos rfl, h]; rfl
theorem erR_yes {l : List En} {s : Nm} (h : isE l s = true) : erR 0 l s = 0 := by unfold erR; rw [if_pos rfl, h]; rfl
/-- The end of a list, from a place on. -/
theorem Ren.from {w : World} {b off : Nat} {l : List En} {cap : Nat} (h : Ren w (some ⟨b, off, none⟩) l cap) {p : Nat} (hp : p ≤ l.length) : Ren w (if cap = p then some ⟨b, off, none⟩ else some ⟨b, off + p * 2, none⟩) (l.drop p) (cap - p) := by
  have hroom := Rev.room h
  by_cases e : cap = p
  · rw [if_pos e]
    have : l.drop p = [] := List.drop_eq_nil_iff.2 (by omega)
    rw [this]
    exact ⟨fun h => absurd h (Nat.lt_irrefl 0), (fun e => by cases e), Nat.zero_le _⟩
  · rw [if_neg e]
    have := h.part (lo := p) (hi := l.length) hp (Nat.le_refl _) (cap' := cap - p) (by omega)
    rw [List.take_length] at this
    exact this
theorem Ren.upto {w : World} {b off : Nat} {l : List En} {cap : Nat} (h : Ren w (some ⟨b, off, none⟩) l cap) {p : Nat} (hp : p ≤ l.length) : Ren w (some ⟨b, off, none⟩) (l.take p) cap := by
  have hroom := Rev.room h
  have := h.part (lo := 0) (hi := p) (Nat.zero_le _) hp (cap' := cap) (by omega)
  simpa using this
set_option maxHeartbeats 400000 in
theorem concat2 (w w1 : World) (a0 a1 : Option Addr) (l0 l1 : List En) (c0 c1 : Nat) (hw : w1 = (w.alloc (.cells #[.slice a0 l0.length c0, .slice a1 l1.length c1] 26)).drew) (h0 : Ren w a0 l0 c0) (h1 : Ren w a1 l1 c1) (hlen : l0.length + l1.length ≤ 3000000) :
    Calls Try.prog 35 #[.slice (some ⟨w.heap.size, 0, none⟩) 2 2] w1 fun e w' => ∃ ro rc L, L = l0 ++ l1 ∧ e = .returned (.slice ro L.length rc) ∧ OwE w1.heap.size w' ro L rc ∧ RowKit.Below w1.heap.size w1 w' := by
  obtain ⟨wa, hwa⟩ : ∃ wa, wa = w.alloc (.cells #[.slice a0 l0.length c0, .slice a1 l1.length c1] 26) := ⟨_, rfl⟩
  have hb : RowKit.Below wa.heap.size wa w1 := by rw [hw, ← hwa]; exact below_drew _ _
  have hb2 : RowKit.Below w.heap.size w w1 := below_then (by rw [hwa]; exact below_alloc _ _) hb
  have := concat_any w1 w.heap.size 2 (by decide) (fun i => if i = 0 then a0 else a1) (fun i => if i = 0 then l0 else l1) (fun i => if i = 0 then c0 else c1) (fun i hi => by
    rcases (show i = 0 ∨ i = 1 by omega) with rfl | rfl
    · exact ⟨blk_held hwa hb 0 rfl, h0.below hb2⟩
    · exact ⟨blk_held hwa hb 1 rfl, h1.below hb2⟩) (by simp [cat]; exact hlen)
  refine this.mono ?_
  rintro e w' ⟨ro, rc, L, h1, h2⟩
  exact ⟨ro, rc, L, by rw [h1]; simp [cat], h2⟩
set_option maxHeartbeats 400000 in
theorem concat3 (w w1 : World) (a0 a1 a2 : Option Addr) (l0 l1 l2 : List En) (c0 c1 c2 : Nat) (hw : w1 = (w.alloc (.cells #[.slice a0 l0.length c0, .slice a1 l1.length c1, .slice a2 l2.length c2] 26)).drew) (h0 : Ren w a0 l0 c0) (h1 : Ren w a1 l1 c1) (h2 : Ren w a2 l2 c2) (hlen : l0.length + l1.length + l2.length ≤ 3000000) :
    Calls Try.prog 35 #[.slice (some ⟨w.heap.size, 0, none⟩) 3 3] w1 fun e w' => ∃ ro rc L, L = l0 ++ (l1 ++ l2) ∧ e = .returned (.slice ro L.length rc) ∧ OwE w1.heap.size w' ro L rc ∧ RowKit.Below w1.heap.size w1 w' := by
  obtain ⟨wa, hwa⟩ : ∃ wa, wa = w.alloc (.cells #[.slice a0 l0.length c0, .slice a1 l1.length c1, .slice a2 l2.length c2] 26) := ⟨_, rfl⟩
  have hb : RowKit.Below wa.heap.size wa w1 := by rw [hw, ← hwa]; exact below_drew _ _
  have hb2 : RowKit.Below w.heap.size w w1 := below_then (by rw [hwa]; exact below_alloc _ _) hb
  have := concat_any w1 w.heap.size 3 (by decide) (fun i => if i = 0 then a0 else if i = 1 then a1 else a2) (fun i => if i = 0 then l0 else if i = 1 then l1 else l2) (fun i => if i = 0 then c0 else if i = 1 then c1 else c2) (fun i hi => by
    rcases (show i = 0 ∨ i = 1 ∨ i = 2 by omega) with rfl | rfl | rfl
    · exact ⟨blk_held hwa hb 0 rfl, h0.below hb2⟩
    · exact ⟨blk_held hwa hb 1 rfl, h1.below hb2⟩
    · exact ⟨blk_held hwa hb 2 rfl, h2.below hb2⟩) (by simp [cat]; omega)
  refine this.mono ?_
  rintro e w' ⟨ro, rc, L, h1, h2⟩
  exact ⟨ro, rc, L, by rw [h1]; simp [cat], h2⟩
set_option maxHeartbeats 2000000 in
set_option maxRecDepth 100000 in
theorem Remove_any {k r c q : Int} {M : Nat} {e : Int} (hp : PP k r c q M e) (w : World) (ao : Option Addr) (l : List En) (ca : Nat) (hv : Ren w ao l ca) (hf : Few l) (s : Nm) :
    Calls Try.prog 14 #[.agg #[.int .i64 k, .int .i64 r, .int .i64 c, .int .i64 q], .slice ao l.length ca, .string ⟨s.toArray⟩] w fun e' w' =>
      ∃ E bo cb L, E = erR (erN (erC e M q l) s) l s ∧ L = (if E = 0 then remE l s else []) ∧ e' = .returned (.tuple #[.slice bo L.length cb, .int .i64 E]) ∧ OwE w.heap.size w' bo L cb ∧ RowKit.Below w.heap.size w w' := by
  obtain ⟨w0, hw0⟩ : ∃ w0, w0 = w.alloc (.cells #[.int .i64 k, .int .i64 r, .int .i64 c, .int .i64 q] 24) := ⟨_, rfl⟩
  have b0 : RowKit.Below w.heap.size w w0 := by rw [hw0]; exact below_alloc _ _
  have HB0 : Hid (RowKit.Below w.heap.size w w0) := b0
  have HC := asked_any hp w0 ao l ca (hv.below b0) hf s
  obtain ⟨x0, x1, x2, x3⟩ := par_held hw0 (Below.refl _ _)
  have HV : Hid (Ren w0 ao l ca) := hv.below b0
  have HF : Hid (Few l) := hf
  clear hv hf b0 hp
  go_enter Try.func14, Try.ntmps14
  go_wp2_with fail
  rw [← hw0]
  clear hw0
  refine HC.mono ?_
  rintro _ w1 ⟨E, hE, rfl, h1⟩
  have HE : Hid (E = erN (erC e M q l) s) := hE
  have HB1 : Hid (RowKit.Below w0.heap.size w0 w1) := h1
  clear hE h1 HC x0 x1 x2 x3
  by_cases h0 : E = 0
  · subst h0
    cases hi : asI 0 l s
    · have HI : Hid (isE l s = false) := by show _ = _; unfold asI at hi; simpa using hi
      go_wp2
      go_ret2
      exact ⟨8, none, 0, [], by rw [← HE.out, erR_none HI.out], by rw [if_neg (by decide)], rfl, owe_nil _ _, below_then HB0.out HB1.out⟩
    · obtain ⟨_, hi2, h3⟩ := asI_lt hi
      have HI : Hid (isE l s = true) := hi2
      have HRM : Hid (remE l s = l.take (posE l s) ++ l.drop (posE l s + 1)) := remE_eq l s
      have HAP : Hid (asP 0 l s = posE l s) := rfl
      obtain ⟨b, off, rfl, _⟩ := (HV.out.below HB1.out).at_ (by omega)
      rw [HAP.out]
      obtain ⟨p, hp⟩ : ∃ p, p = posE l s := ⟨_, rfl⟩
      rw [← hp] at h3 HRM ⊢
      have hln := HF.out.1
      have hroom := HV.out.room
      have i1 : (0 : Int) ≤ (p : Int) := by omega
      have i2 : (p : Int) < (l.length : Int) := by omega
      have i3 : (p : Int) + 1 ≤ (l.length : Int) := by omega
      have i4 : (0 : Int) ≤ (p : Int) + 1 := by omega
      have i5 : IntKind.i64.wrap ((p : Int) + 1) = (p : Int) + 1 := by rw [IntKind.wrap_i64]; omega
      have i6 : (l.length : Int) ≤ (ca : Int) := by omega
      have i7 : (p : Int) ≤ (ca : Int) := by omega
      have hr1 := HV.out.below HB1.out
      obtain ⟨sa, hsa⟩ : ∃ sa, (if ca = p + 1 then some (⟨b, off, none⟩ : Addr) else some ⟨b, off + (p + 1) * 2, none⟩) = sa := ⟨_, rfl⟩
      have hr2 := hr1.from (p := p + 1) (by omega)
      rw [hsa] at hr2
      obtain ⟨w2, hw2⟩ : ∃ w2, w2 = (w1.alloc (.cells #[.slice (some ⟨b, off, none⟩) p ca, .slice sa (l.length - (p + 1)) (ca - (p + 1))] 26)).drew := ⟨_, rfl⟩
      have hl1 : (l.take p).length = p := by rw [List.length_take]; omega
      have hl2 : (l.drop (p + 1)).length = l.length - (p + 1) := by rw [List.length_drop]
      have HCC := concat2 w1 w2 _ _ (l.take p) (l.drop (p + 1)) _ _ (by rw [hl1, hl2]; exact hw2) (hr1.upto (p := p) (by omega)) hr2 (by omega)
      have HB2 : Hid (RowKit.Below w1.heap.size w1 w2) := by show RowKit.Below _ _ _; rw [hw2]; exact (below_alloc _ _).trans (below_drew _ _)
      clear hp hi hi2 HAP hr1 hl1 hl2 hr2
      go_wp2_with fail
      refine wp_region_still_tail 7 (by kernel_rfl) (by kernel_rfl) ?_
      simp only [List.take_succ_cons, List.take_zero, List.drop_succ_cons, List.drop_zero]
      repeat (refine wpStill_step (fun K hK => ?_); go_simp; refine hK _ ?_; clear hK K)
      refine wpStill_nil ?_
      go_wp2_with fail
      rw [← hw2]
      refine HCC.mono ?_
      rintro _ w3 ⟨ro, rc, L, hL, rfl, ho, hb⟩
      have HL : Hid (L = l.take p ++ l.drop (p + 1)) := hL
      clear hL
      go_wp2
      go_ret2
      have HB3 := below_then HB1.out HB2.out
      have HB4 := below_then HB0.out HB3
      exact ⟨0, ro, rc, L, by rw [← HE.out, erR_yes HI.out], by rw [if_pos rfl, HRM.out, HL.out], rfl, ho.mono HB4.size, below_then HB4 hb⟩
  · have hz : (E != 0) = true := by simpa using h0
    have H0 : Hid (E ≠ 0) := h0
    clear h0
    go_wp2
    go_ret2
    exact ⟨E, none, 0, [], by rw [← HE.out, erR_no H0.out], by rw [if_neg H0.out], rfl, owe_nil _ _, below_then HB0.out HB1.out⟩
end Go.Proofs.Ytfbfiecamaginaa
