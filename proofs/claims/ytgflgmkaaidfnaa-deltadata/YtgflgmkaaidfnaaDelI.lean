/- The walk of the statement that parity brought up to date by what changed is the parity of the new data. -/
import Derived.Test.YtgflgmkaaidfnaaDelH
namespace Go.Proofs.Ytgflgmkaaidfnaa
open Go.RowKit

/-- A slice of n truth values that begins at ao reads as V 0, V 1, .. -/
def RdB (w : World) (ao : Option Addr) (n : Nat) (V : Nat → Bool) : Prop :=
  0 < n → ∃ b off, ao = some ⟨b, off, none⟩ ∧ ∀ i, i < n → w.cell? ⟨b, off + i, none⟩ = some (.bool (V i))
theorem RdB.below {w w' : World} {ao : Option Addr} {n : Nat} {V : Nat → Bool} (h : RdB w ao n V) (ho : Below w.heap.size w w') : RdB w' ao n V := by
  intro hn
  obtain ⟨b, off, rfl, hc⟩ := h hn
  exact ⟨b, off, rfl, fun i hi => held (hc i hi) ho⟩
theorem RdB.past {w0 w w' : World} {B T : Nat} {ao : Option Addr} {n : Nat} {V : Nat → Bool} (h0 : RdB w0 ao n V) (h : RdB w ao n V) (hk : Keeps B T w w') (hB : w0.heap.size ≤ B) : RdB w' ao n V := by
  intro hn
  obtain ⟨b, off, rfl, hc⟩ := h hn
  obtain ⟨b', off', e, hc'⟩ := h0 hn
  cases e
  exact ⟨b, off, rfl, fun i hi => hk.cell (hc i hi) (.inl (Nat.lt_of_lt_of_le (World.block_lt_of_cell? w0 _ (hc' i hi)) hB))⟩
/-- Rows of other elements are other rows. -/
theorem owns_kinds {w : World} {b b' e e' n m : Nat} {v u : Value} {xs ys : List Value} (h : w.ownsRow b e 1 v n xs) (k : w.ownsRow b' e' 1 u m ys) (he : e ≠ e') : v.ownBlock = none ∨ v.ownBlock ≠ u.ownBlock := by
  rcases h.2 with ⟨rfl, _⟩ | ⟨g, cap, cur, rfl, _, h1, _⟩
  · exact .inl rfl
  · right
    rcases k.2 with ⟨rfl, _⟩ | ⟨g', cap', cur', rfl, _, k1, _⟩
    · intro e; cases e
    · intro e
      have e' : g = g' := Option.some.inj e
      rw [e', k1] at h1
      cases h1
      exact he rfl
theorem Copied.kept3 {w w' : World} {B b' k m : Nat} {v u : Value} {T : Nat → Option Addr} {L U : Nat → Nat} {H : M} {ys : List Value} {o : Obj} (h : Copied w B k v T L U H) (hu : w.ownsRow b' 3 1 u m ys) (hg : (w.alloc o).grownBy w' u.ownBlock) : Copied w' B k v T L U H :=
  ⟨(h.out.alloc o).kept hg (owns_kinds h.out hu (by decide)), fun i hi => ((h.row i hi).alloc o).kept hg (owns_kinds (h.row i hi) hu (by decide)), h.apart⟩
theorem owns_len {w : World} {b e n c : Nat} {ao : Option Addr} {xs : List Value} (h : w.ownsRow b e 1 (.slice ao n c) n xs) : n ≤ c := by
  rcases h.2 with ⟨e, _⟩ | ⟨g, cap, cur, e, _, _, h4, _⟩
  · cases e; exact Nat.le_refl _
  · cases e; exact h4
theorem owns_none {w : World} {b e n c : Nat} {ao : Option Addr} {xs : List Value} (h : w.ownsRow b e 1 (.slice ao n c) n xs) : ao = none → n = 0 ∧ c = 0 := by
  rintro rfl
  rcases h.2 with ⟨e, _⟩ | ⟨g, cap, cur, e, _⟩
  · cases e; exact ⟨rfl, rfl⟩
  · cases e
/-- The list of data cells, some of them exchanged: block g. -/
theorem rows_start {w : World} {base g N m cs : Nat} {A : Nat → Option Addr} {C : Nat → Nat} (h : w.ownsRow base 23 1 (.slice (some ⟨g, 0, none⟩) N cs) N (rowsOf N A (fun _ => m) C)) : N ≤ cs ∧ ∃ f : Nat → Value, w.rowIs g 23 cs f ∧ ∀ j, j < N → f j = .slice (A j) m (C j) := by
  rcases h.2 with ⟨e, _⟩ | ⟨g', cap, cur, e, _, h3, h4, _, h6, h7⟩
  · cases e
  · cases e
    refine ⟨h4, fun i => cur.getD i (.slice none 0 0), ⟨cur, h3, by rw [h6, Nat.mul_one], fun i hi => ?_⟩, fun i hi => ?_⟩
    · have : i < cur.size := by omega
      simp [this]
    · have e := rowsOf_get N A (fun _ => m) C i hi
      rw [← h7, Nat.mul_one, List.getElem?_take_of_lt hi, Array.getElem?_toList] at e
      have hcs : i < cur.size := by omega
      rw [Array.getElem?_eq_getElem hcs] at e
      simp only [Array.getD, hcs, dif_pos]
      exact Option.some.inj e

/-- i data cells have been looked at, t of them have changed. -/
structure Chg (w2 w : World) (B ga ca k m i t : Nat) (v u : Value) (H X D : M) (R : Nat → Nat) (XA : Nat → Option Addr) (XC : Nat → Nat) (T : Nat → Option Addr) (U : Nat → Nat) : Prop where
  cells : w.ownsRow B 3 1 v t (intsOf t R)
  deltas : Copied w B t u T (fun _ => m) U D
  all : ∃ f : Nat → Value, w.rowIs ga 23 ca f ∧ ∀ j, j < k → f j = .slice (XA j) m (XC j)
  rd : ∀ j, j < k → Rd w2 (XA j) m (X j)
  rest : ∀ j, i ≤ j → X j = H j
  few : t ≤ i
  lt : ∀ s, s < t → R s < i
  rise : ∀ s s', s < s' → s' < t → R s < R s'
  sum : ∀ p b, par k X p b = upd k t (fun s => (R s : Int)) D (par k H) p b
theorem Chg.skip {w2 w : World} {B ga ca k m i t : Nat} {v u : Value} {H X D : M} {R : Nat → Nat} {XA : Nat → Option Addr} {XC : Nat → Nat} {T : Nat → Option Addr} {U : Nat → Nat} (h : Chg w2 w B ga ca k m i t v u H X D R XA XC T U) : Chg w2 w B ga ca k m (i + 1) t v u H X D R XA XC T U :=
  ⟨h.cells, h.deltas, h.all, h.rd, fun j hj => h.rest j (by omega), by have := h.few; omega, fun s hs => by have := h.lt s hs; omega, h.rise, h.sum⟩
theorem put_cast (t i : Nat) (R : Nat → Nat) : (fun s => ((put t i R s : Nat) : Int)) = put t (i : Int) (fun s => (R s : Int)) := by
  funext s
  by_cases e : s = t
  · subst e; rw [put_at, put_at]
  · rw [put_ne _ _ e, put_ne _ _ e]
theorem Chg.step {w2 wr w4 w5 w6 : World} {B ga ca k m i t gd cd : Nat} {v u v' u' : Value} {H X D : M} {R : Nat → Nat} {XA : Nat → Option Addr} {XC : Nat → Nat} {T : Nat → Option Addr} {U : Nat → Nat} {o5 o6 : Obj} {na : Option Addr} {nc : Nat} {f : Nat → K}
    (h : Chg w2 wr B ga ca k m i t v u H X D R XA XC T U) (hi : i < k) (hga : ga < B) (hBw : B ≤ wr.heap.size) (hb : Below wr.heap.size wr w4) (hd : Own w4 gd m cd (addF (H i) f)) (hgd : wr.heap.size ≤ gd)
    (hg5 : (w4.alloc o5).grownBy w5 v.ownBlock) (h5 : w5.ownsRow B 3 1 v' (t + 1) (intsOf t R ++ [.int .i64 (i : Int)])) (hg6 : (w5.alloc o6).grownBy w6 u.ownBlock) (h6 : w6.ownsRow B 23 1 u' (t + 1) (rowsOf t T (fun _ => m) U ++ [.slice (some ⟨gd, 0, none⟩) m cd])) (hn : Rd w2 na m f) :
    Chg w2 (w6.setCell ⟨ga, i, none⟩ (.slice na m nc)) B ga ca k m (i + 1) (t + 1) v' u' H (put i f X) (put t (addF (H i) f) D) (put t i R) (put i na XA) (put i nc XC) (put t (some ⟨gd, 0, none⟩) T) (put t cd U) := by
  have ks : Keeps ga (ga + 1) w6 (w6.setCell ⟨ga, i, none⟩ (.slice na m nc)) := (Keeps.refl _ _ _).setCell (Nat.le_refl _) (by omega) i _
  have cv4 : w4.ownsRow B 3 1 v t (intsOf t R) := owns_stay h.cells (Stay.of_below hb)
  have cp5 : Copied w5 B t u T (fun _ => m) U D := (h.deltas.stay (Stay.of_below hb)).kept3 cv4 hg5
  have hs45 : w4.heap.size + 1 ≤ w5.heap.size := by have := hg5.size; simp at this; omega
  have own5 : w5.ownsRow B 5 1 (.slice (some ⟨gd, 0, none⟩) m cd) m (cellsOf m (addF (H i) f)) := by
    have a1 : w4.ownsRow B 5 1 (.slice (some ⟨gd, 0, none⟩) m cd) m (cellsOf m (addF (H i) f)) := owns_base (own_owns hd) (by omega)
    exact (a1.alloc o5).kept hg5 (owns_kinds a1 cv4 (by decide))
  refine ⟨?_, ?_, ?_, fun j hj => ?_, fun j hj => ?_, by have := h.few; omega, fun s hs => ?_, fun s s' h1 h2 => ?_, fun p b => ?_⟩
  · rw [intsOf_put]
    exact owns_keeps ((h5.alloc o6).kept hg6 (owns_kinds h5 cp5.out (by decide))) ks (by omega)
  · have hp := cp5.push own5 (fun j a b hj ea eb => by
      have := h.deltas.old hj ea
      cases eb
      show a.block ≠ gd
      omega) hg6 h6
    have hq : Copied w6 B (t + 1) u' (put t (some ⟨gd, 0, none⟩) T) (fun _ => m) (put t cd U) (put t (addF (H i) f) D) := hp.congr (fun _ _ => rfl) (fun j _ => put_self t j (fun _ => m)) (fun _ _ => rfl) (fun _ _ => rfl)
    exact hq.later ks (by omega)
  · obtain ⟨F, hr, hF⟩ := h.all
    have e4 : w4.heap[ga]? = wr.heap[ga]? := hb.block ga (by omega)
    have e5 : w5.heap[ga]? = w4.heap[ga]? := (hg5.block ga (by have := hb.size; simp; omega) (fun e => by have := (h.cells.lt ga e.symm).1; omega)).trans (Below.heap_alloc _ _ _ (by have := hb.size; omega))
    have e6 : w6.heap[ga]? = w5.heap[ga]? := (hg6.block ga (by have := hb.size; simp; omega) (fun e => by have := (h.deltas.out.lt ga e.symm).1; omega)).trans (Below.heap_alloc _ _ _ (by have := hb.size; omega))
    refine ⟨_, (hr.of_block (e6.trans (e5.trans e4))).set i _, fun j hj => ?_⟩
    by_cases e : j = i
    · subst e; rw [put_at, put_at]; simp
    · rw [put_ne _ _ e, put_ne _ _ e]; simp only [e, if_false]; exact hF j hj
  · by_cases e : j = i
    · subst e; rw [put_at, put_at]; exact hn
    · rw [put_ne _ _ e, put_ne _ _ e]; exact h.rd j hj
  · rw [put_ne _ _ (by omega)]; exact h.rest j (by omega)
  · by_cases e : s = t
    · subst e; rw [put_at]; omega
    · rw [put_ne _ _ e]; have := h.lt s (by omega); omega
  · rw [put_ne _ _ (by omega)]
    by_cases e : s' = t
    · subst e; rw [put_at]; exact h.lt s h1
    · rw [put_ne _ _ e]; exact h.rise s s' h1 (by omega)
  · rw [put_cast]
    exact par_step (x := H i) hi (fun b => by rw [h.rest i (Nat.le_refl _)]) h.sum p b
theorem Chg.all6 {w2 wr w4 w5 w6 : World} {B ga ca k m i t : Nat} {v u : Value} {H X D : M} {R : Nat → Nat} {XA : Nat → Option Addr} {XC : Nat → Nat} {T : Nat → Option Addr} {U : Nat → Nat} {o5 o6 : Obj} {xs ys : List Value}
    (h : Chg w2 wr B ga ca k m i t v u H X D R XA XC T U) (hga : ga < B) (hBw : B ≤ wr.heap.size) (hb : Below wr.heap.size wr w4) (hg5 : (w4.alloc o5).grownBy w5 v.ownBlock) (h5 : w4.ownsRow B 3 1 v t xs) (hg6 : (w5.alloc o6).grownBy w6 u.ownBlock) (h6 : w5.ownsRow B 23 1 u t ys) :
    ∃ f : Nat → Value, w6.rowIs ga 23 ca f := by
  obtain ⟨F, hr, hF⟩ := h.all
  have hs45 : w4.heap.size + 1 ≤ w5.heap.size := by have := hg5.size; simp at this; omega
  have e4 : w4.heap[ga]? = wr.heap[ga]? := hb.block ga (by omega)
  have e5 : w5.heap[ga]? = w4.heap[ga]? := (hg5.block ga (by have := hb.size; simp; omega) (fun e => by have := (h5.lt ga e.symm).1; omega)).trans (Below.heap_alloc _ _ _ (by have := hb.size; omega))
  have e6 : w6.heap[ga]? = w5.heap[ga]? := (hg6.block ga (by have := hb.size; simp; omega) (fun e => by have := (h6.lt ga e.symm).1; omega)).trans (Below.heap_alloc _ _ _ (by have := hb.size; omega))
  exact ⟨F, hr.of_block (e6.trans (e5.trans e4))⟩
theorem Chg.lst {w2 w3 w : World} {B ga ca k m i t : Nat} {v u : Value} {H X D : M} {R : Nat → Nat} {XA : Nat → Option Addr} {XC : Nat → Nat} {T : Nat → Option Addr} {U : Nat → Nat} (h : Chg w2 w B ga ca k m i t v u H X D R XA XC T U) (h3 : Below w2.heap.size w2 w3) (hk : Keeps ga (ga + 1) w3 w) (hga : w2.heap.size ≤ ga) (hca : k ≤ ca) : Lst w (some ⟨ga, 0, none⟩) k XA XC (fun _ => m) X :=
  ⟨fun j hj => ((h.rd j hj).below h3).keeps hk fun a hn ha => .inl (Nat.lt_of_lt_of_le ((h.rd j hj).lt hn a ha) hga), fun _ => by
    obtain ⟨f, hr, hf⟩ := h.all
    exact ⟨ga, 0, rfl, fun j hj => by rw [Nat.zero_add, hr.cell (by omega), hf j hj]⟩⟩
theorem once_of {k t : Nat} {R : Nat → Nat} (ht : t ≤ k) (h1 : ∀ s, s < t → R s < k) (h2 : ∀ s s', s < s' → s' < t → R s < R s') : onceB (k : Int) t (fun s => (R s : Int)) = true :=
  decide_eq_true ⟨by omega, fun i hi => ⟨⟨by show (0 : Int) ≤ (R i : Int); omega, by show (R i : Int) < (k : Int); have := h1 i hi; omega⟩, fun j hj => by show (R j : Int) ≠ (R i : Int); have := h2 j i hj hi; omega⟩⟩
theorem alike_const {m : Nat} (h1 : 1 ≤ m) (h2 : m ≤ 65536) (n : Nat) : alikeB n (fun _ => m) = true := decide_eq_true fun _ _ => ⟨h1, h2, rfl⟩
theorem cat_const {α : Type} (p : Nat) (a : α) : cat p (fun _ => a) (fun _ => a) = fun _ => a := by funext i; unfold cat; split <;> rfl
theorem okEnc_const {k r m : Nat} (hk1 : 1 ≤ k) (hk : k ≤ 12) (hr : r ≤ 4) (h1 : 1 ≤ m) (h2 : m ≤ 65536) : okEnc k (fun _ => m) (k : Int) (r : Int) = true := by
  unfold okEnc okC
  rw [show mayB (k : Int) (r : Int) = true from decide_eq_true (by omega), okT_const (by omega) h2, cnt_const (by omega)]
  simp

set_option maxHeartbeats 8000000 in
set_option maxRecDepth 100000 in
theorem data_walk (w : World) (k r : Int) (lo : Option Addr) (ll cl : Nat) (A : Nat → Option Addr) (C L : Nat → Nat) (H : M) (no : Option Addr) (nl nc : Nat) (NA : Nat → Option Addr) (NC NL : Nat → Nat) (NH : M) (bo : Option Addr) (np bc : Nat) (V : Nat → Bool)
    (hl : Lst w lo ll A C L H) (hn : Lst w no nl NA NC NL NH) (hv : RdB w bo np V) :
    Calls Try.prog 6 #[.int .i64 k, .int .i64 r, .slice lo ll cl, .slice no nl nc, .slice bo np bc] w fun e w' => e = .returned (.bool true) ∧ Below w.heap.size w w' := by
  have HL : Hid (Lst w lo ll A C L H) := hl
  have HN : Hid (Lst w no nl NA NC NL NH) := hn
  have HV : Hid (RdB w bo np V) := hv
  clear hl hn hv
  go_enter Try.func6, Try.ntmps6
  go_wp2_with fail
  refine (alive_any w).mono ?_
  rintro e w1 ⟨rfl, b1⟩
  replace HL : Hid (Lst w1 lo ll A C L H) := HL.out.below b1
  replace HN : Hid (Lst w1 no nl NA NC NL NH) := HN.out.below b1
  replace HV : Hid (RdB w1 bo np V) := HV.out.below b1
  go_wp2_with fail
  refine (much_any w1 lo ll cl A C L H HL.out).mono ?_
  rintro e w' ⟨rfl, hw'⟩
  obtain rfl := hw'.symm
  cases hf1 : fewB ll L
  · go_wp2_with fail
    go_ret
    exact ⟨rfl, b1⟩
  go_wp2_with fail
  refine (much_any w1 no nl nc NA NC NL NH HN.out).mono ?_
  rintro e w' ⟨rfl, hw'⟩
  obtain rfl := hw'.symm
  cases hf2 : fewB nl NL
  · go_wp2_with fail
    go_ret
    exact ⟨rfl, b1⟩
  clear hf1 hf2
  go_wp2_with fail
  refine (Encode_any w1 k r lo ll cl A C L H HL.out).mono ?_
  cases hok : okEnc ll L k r
  · obtain ⟨err, herr⟩ : ∃ err, err = errE (mayB k r) false := ⟨_, rfl⟩
    have hne : (err != 0) = true := by rw [herr]; exact bne_iff_ne.2 (errE_no _)
    rw [← herr]
    clear herr hok
    rintro e w2 ⟨ao, cap, T, U, rfl, _, b2⟩
    replace b1 := below_step b1 b2 b1.size
    have e1 : lenB false r.toNat = 0 := rfl
    clear b2
    go_wp2_with fail
    go_ret
    exact ⟨rfl, b1⟩
  rw [← hok]
  intro e w2 h2
  obtain ⟨k, r, m, po, pc, PT, PU, rfl, rfl, hk1, hk, hr, rfl, hm1, hm2, hLm, rfl, hcop, b2⟩ := encode_good hok h2
  replace HL : Hid (Lst w2 lo ll A C (fun _ => m) H) := (HL.out.below b2).len' hLm
  replace HN : Hid (Lst w2 no nl NA NC NL NH) := HN.out.below b2
  replace HV : Hid (RdB w2 bo np V) := HV.out.below b2
  have HP : Hid (Lst w2 po r PT PU (fun _ => m) (par ll H)) := hcop.lst
  have HPN : Hid (po = none → r = 0 ∧ pc = 0) := owns_none hcop.out
  replace b1 := below_step b1 b2 b1.size
  clear h2 hok hcop b2 hLm
  by_cases hnk : nl = ll
  rotate_left
  · have hbq : ((nl : Int) != (ll : Int)) = true := bne_yes (by omega)
    go_wp2_with fail
    go_ret
    exact ⟨rfl, b1⟩
  subst hnk
  have hbq := bne_no (nl : Int)
  obtain ⟨bl, ol, rfl, _⟩ := HL.out.at_ (by omega)
  go_wp2_with (at_builtin; refine wpList_append_list (by rfl) (.tmp 47) (.tmp 48) (by rfl) w2.heap.size 0 nl 0 cl none (some ⟨bl, ol, none⟩) [] A (fun _ => m) C H (by rfl) (by rfl) (World.ownsRow_nil _ _ _ _) (fun e => by cases e) HL.out (by omega) (by omega) (Nat.le_refl _) ?_; intro a3 c3 w3 hown3 hgrow3)
  have B3 : Hid (Below w2.heap.size w2 w3) := (Below.refl _ _).grown hgrow3 (Nat.le_refl _) (fun r hr => by cases hr)
  rw [Nat.zero_add, List.nil_append] at hown3
  obtain ⟨ga, rfl, hga⟩ : ∃ ga, a3 = some ⟨ga, 0, none⟩ ∧ w2.heap.size ≤ ga ∧ ga < w3.heap.size := by
    rcases hown3.2 with ⟨_, h0⟩ | ⟨g, cap, cur, e, hg, _⟩
    · omega
    · cases e; exact ⟨g, rfl, hg, (hown3.lt g rfl).2⟩
  obtain ⟨hca, hall⟩ := rows_start hown3
  have HC0 : Hid (Chg w2 w3 w3.heap.size ga c3 nl m 0 0 (.slice none 0 0) (.slice none 0 0) H H H (fun _ => 0) A C (fun _ => none) (fun _ => 0)) :=
    ⟨World.ownsRow_nil _ _ _ _, Copied.start _ _ _ _ _ _, hall, fun j hj => HL.out.rd j hj, fun _ _ => rfl, Nat.le_refl _, fun s hs => absurd hs (Nat.not_lt_zero s), fun s s' _ hs => absurd hs (Nat.not_lt_zero s'), fun p b => (upd_zero _ _ _ _ _ _).symm⟩
  obtain ⟨hga1, hga2⟩ := hga
  obtain ⟨i0, hi0, hz0, hz1, hz2⟩ := info_parts info3
  obtain ⟨j0, hj, hj0, hj1, hj2⟩ := info_parts info23c
  clear hown3 hgrow3 hall
  have e1 : errB true 40 = 0 := rfl
  have e2 : lenB true m = m := rfl
  have e3 : errB false 40 = 40 := rfl
  have e4 : lenB false m = 0 := rfl
  have e5 : ∀ err, errB true err = 0 := fun _ => rfl
  have e6 : lenB true r = r := rfl
  go_loopw [15, 16, 17] (fun v u x wr => ∃ i t : Nat, i ≤ nl ∧ x = .int .i64 i ∧ (∃ vo vc, v = .slice vo t vc) ∧ (∃ uo uc, u = .slice uo t uc) ∧ Hid (∃ X D R XA XC T U, Chg w2 wr w3.heap.size ga c3 nl m i t v u H X D R XA XC T U) ∧ Hid (Keeps ga (ga + 1) w3 wr)) (fun _ _ x _ => nl - (intOf x).toNat)
  case atStart => exact ⟨0, 0, Nat.zero_le _, rfl, ⟨none, 0, rfl⟩, ⟨none, 0, rfl⟩, ⟨_, _, _, _, _, _, _, HC0.out⟩, Keeps.refl _ _ _⟩
  case round =>
    obtain ⟨i, t, hi, rfl, ⟨vo, vc, rfl⟩, ⟨uo, uc, rfl⟩, hchg, hkeep⟩ := hrel
    by_cases hin : i < nl ∧ i < np
    · obtain ⟨hik, hip⟩ := hin
      obtain ⟨X, D, R, XA, XC, T, U, hc⟩ := hchg.out
      have HCH : Hid (Chg w2 wr w3.heap.size ga c3 nl m i t (.slice vo t vc) (.slice uo t uc) H X D R XA XC T U) := hc
      have HLr : Lst wr (some ⟨bl, ol, none⟩) nl A C (fun _ => m) H := HL.out.past (HL.out.below B3.out) hkeep.out hga1
      have HNr : Lst wr no nl NA NC NL NH := HN.out.past (HN.out.below B3.out) hkeep.out hga1
      obtain ⟨bv, ov, rfl, hcv⟩ := HV.out.past (HV.out.below B3.out) hkeep.out hga1 (by omega)
      have cb := hcv i hip
      have i1 : (0 : Int) ≤ (i : Int) := by omega
      have i2 : (i : Int) < (nl : Int) := by omega
      have i3 : (i : Int) < (np : Int) := by omega
      clear hchg hc hcv
      cases hVi : V i
      · rw [hVi] at cb
        have HSK : Hid (∃ X D R XA XC T U, Chg w2 wr w3.heap.size ga c3 nl m (i + 1) t (.slice vo t vc) (.slice uo t uc) H X D R XA XC T U) := ⟨_, _, _, _, _, _, _, HCH.out.skip⟩
        clear HLr HNr hVi
        go_wp2
        go_roundw
        case rel => exact ⟨i + 1, t, by omega, by go_num, ⟨_, _, rfl⟩, ⟨_, _, rfl⟩, HSK, hkeep⟩
        case measure => simp [intOf]; omega
      · rw [hVi] at cb
        obtain ⟨bl', ol', el, hcl⟩ := HLr.at_ (by omega)
        cases el
        obtain ⟨bn, on, rfl, hcn⟩ := HNr.at_ (by omega)
        have d1 := hcl i hik
        have d2 := hcn i hik
        have HNC : Hid (∀ i, i < nl → w2.cell? ⟨bn, on + i, none⟩ = some (.slice (NA i) (NL i) (NC i))) := (by
          obtain ⟨b', o', e', hc'⟩ := HN.out.at_ (by omega)
          cases e'
          exact hc')
        have hs23 := B3.out.size
        have HOF := Of_any wr.drew (A i) (NA i) m (C i) (NL i) (NC i) (H i) (NH i) ((HLr.rd i hik).below (below_drew _ wr)) ((HNr.rd i hik).below (below_drew _ wr))
        have hw3 := hkeep.out.size
        have hti := HCH.out.few
        cases hof : okOf m (NL i)
        · have hne : NL i ≠ m := fun e => by rw [okOf_of hm1 hm2 e] at hof; cases hof
          rw [hof] at HOF
          have HOO : Hid (Calls Try.prog 9 #[.slice (A i) m (C i), .slice (NA i) (NL i) (NC i)] wr.drew (OneAns wr.drew false 40 m (addF (H i) (NH i)))) := HOF
          have hbn : ((NL i : Int) != (m : Int)) = true := bne_yes (by omega)
          have B1 : Hid (Below w.heap.size w wr) := below_step b1 (B3.out.trans (hkeep.out.below B3.out.size hga1)) b1.size
          clear HOF HLr HNr hcl hcn hVi hof
          go_wp2
          go_region_held3 (fun w' => w'.cell? ⟨bl, ol + i, none⟩ = some (.slice (A i) m (C i)) ∧ w'.cell? ⟨bn, on + i, none⟩ = some (.slice (NA i) (NL i) (NC i))) (go_keep)
            ((go_at_call 9; refine HOO.out.mono ?_; rintro e w4 ⟨da, dc, rfl, hrs, b4⟩; have s1 : w4.cell? ⟨bl, ol + i, none⟩ = some (.slice (A i) m (C i)) := held (w := wr.drew) d1 b4; have s2 : w4.cell? ⟨bn, on + i, none⟩ = some (.slice (NA i) (NL i) (NC i)) := held (w := wr.drew) d2 b4))
          have B4 : Hid (Below w.heap.size w w4) := below_step (below_step B1.out (below_drew _ wr) B1.out.size) b4 B1.out.size
          clear hrs b4 d1 d2 HOO
          go_wp2
          go_quiet (fail)
          go_wp2
          go_ret
          exact ⟨rfl, ⟨B4.out.os, B4.out.tape, B4.out.output, B4.out.size, B4.out.block⟩⟩
        · obtain ⟨_, _, hNm⟩ := okOf_true hof
          rw [hof] at HOF
          rw [hNm] at HOF d2
          have HRN : Hid (Rd w2 (NA i) m (NH i)) := by have := HN.out.rd i hik; rwa [hNm] at this
          have HOO : Hid (Calls Try.prog 9 #[.slice (A i) m (C i), .slice (NA i) m (NC i)] wr.drew (OneAns wr.drew true 40 m (addF (H i) (NH i)))) := HOF
          clear HOF HLr HNr hcl hcn hVi hof
          go_wp2
          go_region_held3 (fun w' => w'.cell? ⟨bl, ol + i, none⟩ = some (.slice (A i) m (C i)) ∧ w'.cell? ⟨bn, on + i, none⟩ = some (.slice (NA i) m (NC i))) (go_keep)
            ((go_at_call 9; refine HOO.out.mono ?_; rintro e w4 ⟨da, dc, rfl, hrs, b4⟩; have s1 : w4.cell? ⟨bl, ol + i, none⟩ = some (.slice (A i) m (C i)) := held (w := wr.drew) d1 b4; have s2 : w4.cell? ⟨bn, on + i, none⟩ = some (.slice (NA i) m (NC i)) := held (w := wr.drew) d2 b4))
          obtain ⟨gd, rfl, hgd, _, hod⟩ : ∃ g, da = some ⟨g, 0, none⟩ ∧ wr.heap.size ≤ g ∧ g < w4.heap.size ∧ Own w4 g m dc (addF (H i) (NH i)) := by
            rcases hrs with ⟨_, h0, _⟩ | ⟨g, e, hg, hg', ho⟩
            · exact absurd (show m = 0 from h0) (by omega)
            · exact ⟨g, e, hg, hg', ho⟩
          have HOD : Hid (Own w4 gd m dc (addF (H i) (NH i))) := hod
          have B4 : Hid (Below wr.heap.size wr w4) := below_step (below_drew _ wr) b4 (Nat.le_refl _)
          have hs4 := B4.out.size
          obtain ⟨XS, hXS⟩ : ∃ X, X = intsOf t R := ⟨_, rfl⟩
          have HXS : Hid (intsOf t R = XS) := hXS.symm
          obtain ⟨YS, hYS⟩ : ∃ X, X = rowsOf t T (fun _ => m) U := ⟨_, rfl⟩
          have HYS : Hid (rowsOf t T (fun _ => m) U = YS) := hYS.symm
          have HCV : Hid (w4.ownsRow w3.heap.size 3 1 (.slice vo t vc) t XS) := by rw [hXS]; exact owns_stay HCH.out.cells (Stay.of_below B4.out)
          have HCU : Hid (w4.ownsRow w3.heap.size 23 1 (.slice uo t uc) t YS) := by rw [hYS]; exact owns_stay HCH.out.deltas.out (Stay.of_below B4.out)
          clear hrs b4 d1 d2 HOO s1 hod hXS hYS
          go_wp2_with (first
            | (at_builtin; refine wpList_append_lies _ (by rfl) (.tmp 91) (.tmp 93) 31 (by rfl) w3.heap.size 3 i0 (.int .i64 0) 1 8 Try.underlying31 hi0 hz0 hz1 hz2 (by rfl) (by decide) (.slice vo t vc) t XS (by rfl) (HCV.out.alloc _) ⟨w4.heap.size, 0, none⟩ 1 1 [.int .i64 (i : Int)] (by rfl) (by rfl) (World.news_of_block (heap_alloc_new w4 _)) (by simp [Value.oneCell']) (by decide) (by unfold maxLen; omega) (by omega) (by simp; omega) (w4.heap.size + 1) (by simp) ?_; intro g5 cap5 w5 hown5 hgrow5 _ _
               have HG5 : Hid ((w4.alloc (.cells #[.int .i64 (i : Int)] 3)).grownBy w5 (Value.slice vo t vc).ownBlock) := hgrow5
               have HO5 : Hid (w5.ownsRow w3.heap.size 3 1 (.slice (some ⟨g5, 0, none⟩) (t + 1) cap5) (t + 1) (XS ++ [.int .i64 (i : Int)])) := hown5
               have HU5 : Hid (w5.ownsRow w3.heap.size 23 1 (.slice uo t uc) t YS) := (HCU.out.alloc _).kept hgrow5 (owns_kinds HCU.out HCV.out (by decide))
               have hs5 : w4.heap.size + 1 ≤ w5.heap.size := (by have := hgrow5.size; simp at this; omega)
               have k5 : w5.cell? ⟨bn, on + i, none⟩ = some (.slice (NA i) m (NC i)) := (by
                 refine (World.cell?_of_block ?_).trans s2
                 have hlt := World.block_lt_of_cell? w4 _ s2
                 simp only at hlt
                 refine (hgrow5.block bn (by simp; omega) (fun e => ?_)).trans (Below.heap_alloc _ _ _ hlt)
                 have hbn := World.block_lt_of_cell? w2 _ (HNC.out i hik)
                 simp only at hbn
                 have := (HCV.out.lt bn e.symm).1
                 omega)
               clear hown5 hgrow5)
            | (at_builtin; refine wpList_append_lies _ (by rfl) (.tmp 95) (.tmp 97) 27 (by rfl) w3.heap.size 23 j0 (.slice none 0 0) 1 24 Try.underlying27 hj hj0 hj1 hj2 (by rfl) (by decide) (.slice uo t uc) t YS (by rfl) (HU5.out.alloc _) ⟨w5.heap.size, 0, none⟩ 1 1 [.slice (some ⟨gd, 0, none⟩) m dc] (by rfl) (by rfl) (World.news_of_block (heap_alloc_new w5 _)) (by simp [Value.oneCell']) (by decide) (by unfold maxLen; omega) (by omega) (by simp; omega) (w5.heap.size + 1) (by simp) ?_; intro g6 cap6 w6 hown6 hgrow6 _ _
               have HG6 : Hid ((w5.alloc (.cells #[.slice (some ⟨gd, 0, none⟩) m dc] 23)).grownBy w6 (Value.slice uo t uc).ownBlock) := hgrow6
               have HO6 : Hid (w6.ownsRow w3.heap.size 23 1 (.slice (some ⟨g6, 0, none⟩) (t + 1) cap6) (t + 1) (YS ++ [.slice (some ⟨gd, 0, none⟩) m dc])) := hown6
               have k6 : w6.cell? ⟨bn, on + i, none⟩ = some (.slice (NA i) m (NC i)) := (by
                 refine (World.cell?_of_block ?_).trans k5
                 have hlt := World.block_lt_of_cell? w5 _ k5
                 simp only at hlt
                 refine (hgrow6.block bn (by simp; omega) (fun e => ?_)).trans (Below.heap_alloc _ _ _ hlt)
                 have hbn := World.block_lt_of_cell? w2 _ (HNC.out i hik)
                 simp only at hbn
                 have := (HU5.out.lt bn e.symm).1
                 omega)
               have KP : Hid (Keeps ga (ga + 1) w3 w6) := ((((hkeep.out.trans (Keeps.of_below B4.out)).alloc _).grown2 HG5.out (fun q hq => (HCV.out.lt q hq).1)).alloc _).grown2 hgrow6 (fun q hq => (HU5.out.lt q hq).1)
               have hall6 := HCH.out.all6 hga2 hw3 B4.out HG5.out HCV.out hgrow6 HU5.out
               obtain ⟨F6, hr6⟩ := hall6
               have c7 := hr6.cell (i := i) (by omega)
               have z7 := hr6.frozen i
               clear hown6 hgrow6 hr6))
          have HS7 : Hid (∃ X D R XA XC T U, Chg w2 (w6.setCell ⟨ga, i, none⟩ (.slice (NA i) m (NC i))) w3.heap.size ga c3 nl m (i + 1) (t + 1) (.slice (some ⟨g5, 0, none⟩) (t + 1) cap5) (.slice (some ⟨g6, 0, none⟩) (t + 1) cap6) H X D R XA XC T U) :=
            ⟨_, _, _, _, _, _, _, HCH.out.step hik hga2 hw3 B4.out HOD.out hgd HG5.out (by rw [HXS.out]; exact HO5.out) HG6.out (by rw [HYS.out]; exact HO6.out) HRN.out⟩
          have HK7 : Hid (Keeps ga (ga + 1) w3 (w6.setCell ⟨ga, i, none⟩ (.slice (NA i) m (NC i)))) := KP.out.setCell (Nat.le_refl _) (by omega) i _
          go_roundw
          case rel => exact ⟨i + 1, t + 1, by omega, by go_num, ⟨_, _, rfl⟩, ⟨_, _, rfl⟩, HS7, HK7⟩
          case measure => simp [intOf]; omega
    · obtain ⟨X, D, R, XA, XC, T, U, hc⟩ := hchg.out
      have bw : Below w2.heap.size w2 wr := B3.out.trans (hkeep.out.below B3.out.size hga1)
      have HALL := All_any wr nl (r : Int) po r pc PT PU (fun _ => m) (par nl H) vo t vc (fun s => (R s : Int)) uo t uc T U (fun _ => m) D (HP.out.below bw) HPN.out (owns_rdI hc.cells) (owns_len hc.cells) hc.deltas.lst (owns_none hc.deltas.out)
      rw [show okAll (nl : Int) (r : Int) r (fun _ => m) t (fun s => (R s : Int)) t (fun _ => m) = true from okAll_of (decide_eq_true (by omega)) rfl (alike_const hm1 hm2 _) (once_of (by have := hc.few; omega) (fun s hs => by have := hc.lt s hs; omega) hc.rise) rfl (by rw [cat_const]; exact alike_const hm1 hm2 _), Int.toNat_natCast] at HALL
      have HX : Hid (Lst wr (some ⟨ga, 0, none⟩) nl XA XC (fun _ => m) X) := hc.lst B3.out hkeep.out hga1 hca
      have HSM : Hid (∀ p b, par nl X p b = upd nl t (fun s => (R s : Int)) D (par nl H) p b) := hc.sum
      have B1 : Hid (Below w.heap.size w wr) := below_step b1 bw b1.size
      clear hchg hc bw
      by_cases hik : i < nl
      all_goals (
        go_wp2_with fail
        refine HALL.mono ?_
        rintro e w4 ⟨qa, qc, rfl, han, b4⟩
        obtain ⟨_, QA, QC, hql⟩ := ans_lst han
        have HQ : Hid (Lst w4 qa r QA QC (fun _ => m) (upd nl t (fun s => (R s : Int)) D (par nl H))) := hql
        have HEN := Encode_any w4 nl (r : Int) (some ⟨ga, 0, none⟩) nl c3 XA XC (fun _ => m) X (HX.out.below b4)
        have hoe := okEnc_const (r := r) hk1 hk hr hm1 hm2
        have B4 : Hid (Below w.heap.size w w4) := below_step B1.out b4 B1.out.size
        clear han hql b4 HALL
        go_wp2_with fail
        refine HEN.mono ?_
        intro e w5 h5
        obtain ⟨k', r', m', ea, ec, ET, EU, hk', hr', _, _, _, _, _, _, hL', rfl, hcop, b5⟩ := encode_good hoe h5
        obtain rfl : k' = nl := by omega
        obtain rfl : r' = r := by omega
        obtain rfl : m' = m := (hL' 0 (by omega)).symm
        have hlw : Lst w5 ea r' ET EU (fun _ => m') (upd k' t (fun s => (R s : Int)) D (par k' H)) := hcop.lst.congr fun p b _ _ => HSM.out p b
        have HSA := same_k w5 qa ea r' qc ec _ _ _ _ _ _ (by omega) (HQ.out.below b5) hlw
        have B5 : Hid (Below w.heap.size w w5) := below_step B4.out b5 B4.out.size
        clear h5 hcop b5 hlw hL' HEN
        go_wp2_with fail
        refine HSA.mono ?_
        rintro e w6 ⟨rfl, b6⟩
        have B6 : Hid (Below w.heap.size w w6) := below_step B5.out b6 B5.out.size
        clear b6 HSA
        go_wp2_with fail
        go_ret
        exact ⟨rfl, B6.out⟩)
end Go.Proofs.Ytgflgmkaaidfnaa
