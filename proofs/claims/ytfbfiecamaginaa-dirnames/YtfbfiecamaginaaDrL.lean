/- Remove by the document; Add, by both. -/
import Derived.Test.YtfbfiecamaginaaDrK
namespace Go.Proofs.Ytfbfiecamaginaa
open Go.RowKit Go.Sort

set_option maxHeartbeats 2000000 in
set_option maxRecDepth 100000 in
theorem RRemove_any {k r c q : Int} {M : Nat} {e : Int} (hp : PP k r c q M e) (w : World) (ao : Option Addr) (l : List En) (ca : Nat) (hv : Ren w ao l ca) (hf : Few l) (s : Nm) :
    Calls Try.prog 22 #[.agg #[.int .i64 k, .int .i64 r, .int .i64 c, .int .i64 q], .slice ao l.length ca, .string ⟨s.toArray⟩] w fun e' w' =>
      ∃ E bo cb L, E = erR (erN (erC e M q l) s) l s ∧ L = (if E = 0 then remE l s else []) ∧ e' = .returned (.tuple #[.slice bo L.length cb, .int .i64 E]) ∧ OwE w.heap.size w' bo L cb ∧ RowKit.Below w.heap.size w w' := by
  obtain ⟨w0, hw0⟩ : ∃ w0, w0 = w.alloc (.cells #[.int .i64 k, .int .i64 r, .int .i64 c, .int .i64 q] 24) := ⟨_, rfl⟩
  have b0 : RowKit.Below w.heap.size w w0 := by rw [hw0]; exact below_alloc _ _
  have HB0 : Hid (RowKit.Below w.heap.size w w0) := b0
  have HC := named_any hp w0 ao l ca (hv.below b0) hf s
  obtain ⟨x0, x1, x2, x3⟩ := par_held hw0 (Below.refl _ _)
  have HV : Hid (Ren w0 ao l ca) := hv.below b0
  have HA : Hid (∀ u, RowKit.Below w0.heap.size w0 u → Calls Try.prog 44 #[.slice ao l.length ca, .string ⟨s.toArray⟩] u fun e w' => e = .returned (.tuple #[.int .i64 (posE l s : Int), .bool (isE l s)]) ∧ RowKit.Below u.heap.size u w') := fun u hu => at_any u ao l ca (HV.out.below hu) hf s
  have HF : Hid (Few l) := hf
  obtain ⟨E, hE⟩ : ∃ E, E = erN (erC e M q l) s := ⟨_, rfl⟩
  rw [← hE] at HC
  have HE : Hid (E = erN (erC e M q l) s) := hE
  clear hv hf b0 hp hE
  by_cases h0 : E = 0
  · subst h0
    go_enter Try.func22, Try.ntmps22
    go_wp2_with fail
    rw [← hw0]
    clear hw0
    refine HC.mono ?_
    rintro _ w1 ⟨rfl, h1⟩
    have HB1 : Hid (RowKit.Below w0.heap.size w0 w1) := h1
    have hA := HA.out w1 h1
    clear h1 HC x0 x1 x2 x3
    cases hi : isE l s
    · rw [hi] at hA
      have HI : Hid (isE l s = false) := hi
      clear hi
      go_wp2_with fail
      refine hA.mono ?_
      rintro _ w2 ⟨rfl, h2⟩
      go_wp2
      go_ret2
      exact ⟨8, none, 0, [], by rw [← HE.out, erR_none HI.out], by rw [if_neg (by decide)], rfl, owe_nil _ _, below_then HB0.out (below_then HB1.out h2)⟩
    · have hi2 : asI 0 l s = true := by unfold asI; rw [hi]; rfl
      obtain ⟨_, _, h3⟩ := asI_lt hi2
      rw [hi] at hA
      have HI : Hid (isE l s = true) := hi
      have HRM : Hid (remE l s = l.take (posE l s) ++ l.drop (posE l s + 1)) := remE_eq l s
      obtain ⟨b, off, rfl, _⟩ := (HV.out.below HB1.out).at_ (by omega)
      obtain ⟨p, hp⟩ : ∃ p, p = posE l s := ⟨_, rfl⟩
      rw [← hp] at h3 HRM hA
      have hln := HF.out.1
      have hroom := HV.out.room
      have i1 : (0 : Int) ≤ (p : Int) := by omega
      have i2 : (p : Int) < (l.length : Int) := by omega
      have i3 : (p : Int) + 1 ≤ (l.length : Int) := by omega
      have i4 : (0 : Int) ≤ (p : Int) + 1 := by omega
      have i6 : (l.length : Int) ≤ (ca : Int) := by omega
      have i7 : (p : Int) ≤ (ca : Int) := by omega
      obtain ⟨sa, hsa⟩ : ∃ sa, (if ca = p + 1 then some (⟨b, off, none⟩ : Addr) else some ⟨b, off + (p + 1) * 2, none⟩) = sa := ⟨_, rfl⟩
      have HR1 : Hid (∀ u, RowKit.Below w0.heap.size w0 u → Ren u (some ⟨b, off, none⟩) (l.take p) ca) := fun u hu => (HV.out.below hu).upto (p := p) (by omega)
      have HR2 : Hid (∀ u, RowKit.Below w0.heap.size w0 u → Ren u sa (l.drop (p + 1)) (ca - (p + 1))) := fun u hu => by rw [← hsa]; exact (HV.out.below hu).from (p := p + 1) (by omega)
      have hl1 : (l.take p).length = p := by rw [List.length_take]; omega
      have hl2 : (l.drop (p + 1)).length = l.length - (p + 1) := by rw [List.length_drop]
      obtain ⟨A, hA1⟩ : ∃ A, A = l.take p := ⟨_, rfl⟩
      obtain ⟨D, hD1⟩ : ∃ D, D = l.drop (p + 1) := ⟨_, rfl⟩
      rw [← hA1] at HR1 hl1 HRM
      rw [← hD1] at HR2 hl2 HRM
      clear hp hi hi2 hA1 hD1
      go_wp2_with fail
      refine hA.mono ?_
      rintro _ w2 ⟨rfl, h2⟩
      have HB2 : Hid (RowKit.Below w0.heap.size w0 w2) := below_then HB1.out h2
      have hr1 := HR1.out w2 HB2.out
      have HS2 : Hid (w.heap.size ≤ w2.heap.size) := (below_then HB0.out HB2.out).size
      clear h2 hA
      go_wp2_with (first
        | (at_builtin; refine append_ents (by rfl) (.tmp 27) (.tmp 30) (by rfl) w2.heap.size 0 ca none (some ⟨b, off, none⟩) [] A (by rfl) (by rw [hl1]; rfl) (owe_nil _ _) hr1 (by simp; omega) (Nat.le_refl _) ?_; intro bo2 cb2 w3 L2 hL2 ho2 hg2; have HL2 : Hid (L2 = A) := hL2; have HB3 : Hid (RowKit.Below w2.heap.size w2 w3) := (Below.refl _ _).grown hg2 (Nat.le_refl _) (fun k e => by cases e); have HO2 : Hid (OwE w2.heap.size w3 bo2 L2 cb2) := ho2; have hk2 : L2.length = p := (by rw [hL2]; exact hl1); have hr2 := HR2.out w3 (below_then HB2.out HB3.out); have hsz3 := HB3.out.size; have hb2 : L2.length + D.length ≤ 10000000 := (by omega); clear hL2 ho2 hg2 hr1 hk2)
        | (at_builtin; refine append_ents (by rfl) (.tmp 32) (.tmp 36) (by rfl) w2.heap.size cb2 (ca - (p + 1)) bo2 sa L2 D (by rfl) (by rw [hl2]; rfl) HO2.out hr2 hb2 hsz3 ?_; intro bo4 cb4 w4 L4 hL4 ho4 hg4; have HL4 : Hid (L4 = L2 ++ D) := hL4; clear hL4))
      go_ret2
      have HB4 := HB3.out.grown hg4 hsz3 HO2.out.ge
      exact ⟨0, bo4, cb4, L4, by rw [← HE.out, erR_yes HI.out], by rw [if_pos rfl, HRM.out, HL4.out, HL2.out], rfl, ho4.mono HS2.out, below_then (below_then HB0.out HB2.out) HB4⟩
  · have hz : (E != 0) = true := by simpa using h0
    have H0 : Hid (E ≠ 0) := h0
    clear h0
    go_enter Try.func22, Try.ntmps22
    go_wp2_with fail
    rw [← hw0]
    clear hw0
    refine HC.mono ?_
    rintro _ w1 ⟨rfl, h1⟩
    go_wp2
    go_ret2
    exact ⟨E, none, 0, [], by rw [← HE.out, erR_no H0.out], by rw [if_neg H0.out], rfl, owe_nil _ _, below_then HB0.out h1⟩
theorem may_one (q : Int) (x : En) : mayE q [x] = oneE q x := by
  unfold mayE
  simp [List.range_succ, okI, gN, gR]
theorem erA_no {E : Int} {M : Nat} {q : Int} {l : List En} {x : En} (h : E ≠ 0) : erA E M q l x = E := by unfold erA; rw [if_neg h]
theorem erA_one {M : Nat} {q : Int} {l : List En} {x : En} (h : oneE q x = false) : erA 0 M q l x = 220 := by unfold erA; rw [if_pos rfl, h]; rfl
theorem erA_is {M : Nat} {q : Int} {l : List En} {x : En} (h : oneE q x = true) (g : isE l x.1 = true) : erA 0 M q l x = 7 := by unfold erA; rw [if_pos rfl, h, if_pos rfl, if_pos g]
theorem erA_sz {M : Nat} {q : Int} {l : List En} {x : En} (h : oneE q x = true) (g : isE l x.1 = false) : erA 0 M q l x = if M < szE (insE l x) then 3 else 0 := by unfold erA; rw [if_pos rfl, h, if_pos rfl, g]; rfl
end Go.Proofs.Ytfbfiecamaginaa
