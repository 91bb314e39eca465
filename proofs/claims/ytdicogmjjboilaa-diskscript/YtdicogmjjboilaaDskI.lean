/- A disk in memory, and what its methods answer: power, cuts, counts, wipes, the image. -/
import Derived.Test.YtdicogmjjboilaaDskF
import Derived.Test.YtdicogmjjboilaaDskG
import Derived.Test.YtdicogmjjboilaaDskH
namespace Go.Proofs.Ytdicogmjjboilaa
open Go.RowKit

theorem fit_wipe (Q m : Nat) {n S : Nat} {F : Nat → List UInt8} (h : Fit n S F) : Fit n S (wpF Q m F) := fun i hi => by
  unfold wpF
  split
  · exact .inl rfl
  · exact h i hi
structure DkA (w : World) (Y : Nat → Prop) (g l cl : Nat) (k r c : Int) (N Q S : Nat) (A : Nat → Option Addr) (C : Nat → Nat) (left : Int) (st : St) : Prop where
  blk : Blk w g 71 (dkv k r c Q (.slice (some ⟨l, 0, none⟩) (N * Q * 2 : Nat) cl) st.gone st.off st.cut.isSome left st.wr)
  sl : Slots w (fun b => Y b ∧ b ≠ g) l (N * Q * 2) A C st.F
  lf : ∀ n : Nat, st.cut = some n → left = n ∧ n ≤ 9223372036854775807
  cap : N * Q * 2 ≤ cl
  own : Y g
  lt : ∀ b, Y b → b < w.heap.size
  fit : Fit (N * Q * 2) S st.F
  pm : Pm k r c Q N Q S
theorem DkA.ngl {w : World} {Y : Nat → Prop} {g l cl : Nat} {k r c : Int} {N Q S : Nat} {A : Nat → Option Addr} {C : Nat → Nat} {left : Int} {st : St} (h : DkA w Y g l cl k r c N Q S A C left st) : g ≠ l := fun e => h.sl.own.2 e.symm
/-- A disk at block g, in the blocks Y, that is st. -/
def Dk (w : World) (Y : Nat → Prop) (g : Nat) (k r c : Int) (N Q S : Nat) (st : St) : Prop := ∃ l cl A C left, DkA w Y g l cl k r c N Q S A C left st
theorem DkA.only {X Y : Nat → Prop} {w w' : World} {g l cl : Nat} {k r c : Int} {N Q S : Nat} {A : Nat → Option Addr} {C : Nat → Nat} {left : Int} {st : St} (h : DkA w Y g l cl k r c N Q S A C left st) (ho : Only X w w') (hx : ∀ b, Y b → ¬ X b) : DkA w' Y g l cl k r c N Q S A C left st :=
  ⟨h.blk.only ho (hx _ h.own), h.sl.only ho (fun b hb => hx b hb.1), h.lf, h.cap, h.own, fun b hb => Nat.lt_of_lt_of_le (h.lt b hb) ho.size, h.fit, h.pm⟩
theorem Dk.only {X Y : Nat → Prop} {w w' : World} {g : Nat} {k r c : Int} {N Q S : Nat} {st : St} (h : Dk w Y g k r c N Q S st) (ho : Only X w w') (hx : ∀ b, Y b → ¬ X b) : Dk w' Y g k r c N Q S st := by
  obtain ⟨l, cl, A, C, left, h⟩ := h
  exact ⟨l, cl, A, C, left, h.only ho hx⟩
theorem Dk.below {Y : Nat → Prop} {w w' : World} {g : Nat} {k r c : Int} {N Q S : Nat} {st : St} (h : Dk w Y g k r c N Q S st) (ho : Below w.heap.size w w') : Dk w' Y g k r c N Q S st := h.only (X := fun _ => False) (.of_below ho) (fun _ _ h => h)
theorem Dk.lt {Y : Nat → Prop} {w : World} {g : Nat} {k r c : Int} {N Q S : Nat} {st : St} (h : Dk w Y g k r c N Q S st) : ∀ b, Y b → b < w.heap.size := by
  obtain ⟨l, cl, A, C, left, h⟩ := h
  exact h.lt
theorem Dk.mono {Y Z : Nat → Prop} {w : World} {g : Nat} {k r c : Int} {N Q S : Nat} {st : St} (h : Dk w Y g k r c N Q S st) (hz : ∀ b, Y b → Z b) (hl : ∀ b, Z b → b < w.heap.size) : Dk w Z g k r c N Q S st := by
  obtain ⟨l, cl, A, C, left, h⟩ := h
  exact ⟨l, cl, A, C, left, h.blk, h.sl.mono fun b hb => ⟨hz b hb.1, hb.2⟩, h.lf, h.cap, hz _ h.own, hl, h.fit, h.pm⟩
theorem Dk.pm {Y : Nat → Prop} {w : World} {g : Nat} {k r c : Int} {N Q S : Nat} {st : St} (h : Dk w Y g k r c N Q S st) : Pm k r c Q N Q S := by
  obtain ⟨l, cl, A, C, left, h⟩ := h
  exact h.pm
/-- The disk's own block written over. -/
theorem DkA.reb {Y : Nat → Prop} {w w' : World} {g l cl : Nat} {k r c : Int} {N Q S : Nat} {A : Nat → Option Addr} {C : Nat → Nat} {left left' : Int} {st st' : St} (h : DkA w Y g l cl k r c N Q S A C left st) (ho : Only (fun b => b = g) w w')
    (hb : Blk w' g 71 (dkv k r c Q (.slice (some ⟨l, 0, none⟩) (N * Q * 2 : Nat) cl) st'.gone st'.off st'.cut.isSome left' st'.wr)) (hF : st'.F = st.F) (hl : ∀ n : Nat, st'.cut = some n → left' = n ∧ n ≤ 9223372036854775807) : DkA w' Y g l cl k r c N Q S A C left' st' := by
  refine ⟨hb, ?_, hl, h.cap, h.own, fun b hb => Nat.lt_of_lt_of_le (h.lt b hb) ho.size, by rw [hF]; exact h.fit, h.pm⟩
  rw [hF]
  exact h.sl.only ho fun b hb => hb.2
theorem only_set {g : Nat} {w v : World} (h : Only (fun b => b = g) w v) (i : Nat) (u : Value) : Only (fun b => b = g) w (v.setCell ⟨g, i, none⟩ u) := Only.setCell (X := fun b => b = g) (p := ⟨g, i, none⟩) h rfl u
theorem only_own {Y : Nat → Prop} {g : Nat} {w v : World} (h : Only (fun b => b = g) w v) (hy : Y g) : Only Y w v := h.mono fun _ _ e => e ▸ hy
theorem DkA.size {Y : Nat → Prop} {w : World} {g l cl : Nat} {k r c : Int} {N Q S : Nat} {A : Nat → Option Addr} {C : Nat → Nat} {left : Int} {st : St} (h : DkA w Y g l cl k r c N Q S A C left st) : 0 < N * Q * 2 ∧ N * Q * 2 ≤ 8192 ∧ 1 ≤ N ∧ N ≤ 16 ∧ 8 ≤ Q ∧ Q ≤ 256 ∧ ∀ i, i < N * Q * 2 → (st.F i).length ≤ 1000000 := by
  have := h.pm.bounds
  refine ⟨by omega, by omega, by omega, by omega, by omega, by omega, fun i hi => ?_⟩
  have := h.fit i hi
  omega
section
variable {Y : Nat → Prop} {w : World} {g : Nat} {k r c : Int} {N Q S : Nat} {st : St}
set_option maxHeartbeats 400000 in
theorem Off_any (h : Dk w Y g k r c N Q S st) : Calls Try.prog 36 #[.pointer (some ⟨g, 0, none⟩)] w fun e w' => e = .returned (.bool st.off) ∧ w' = w := by
  obtain ⟨l, cl, A, C, left, h⟩ := h
  obtain ⟨_, _, _, _, c4, c21, _⟩ := cells_dk h.blk
  have hz := h.size.1
  generalize N * Q * 2 = n at *
  have HC := nobodys_not w g _ n cl hz c4
  clear h
  go_enter Try.func36, Try.ntmps36
  go_wp2_with (go_at_call 45; refine HC.mono ?_; rintro e w' ⟨rfl, hw'⟩; obtain rfl := hw'.symm)
  all_goals (go_ret; exact ⟨rfl, rfl⟩)
set_option maxHeartbeats 400000 in
theorem Writes_any (h : Dk w Y g k r c N Q S st) : Calls Try.prog 37 #[.pointer (some ⟨g, 0, none⟩)] w fun e w' => e = .returned (.int .i64 st.wr) ∧ w' = w := by
  obtain ⟨l, cl, A, C, left, h⟩ := h
  obtain ⟨_, _, _, _, c4, _, _, _, c24⟩ := cells_dk h.blk
  have hz := h.size.1
  generalize N * Q * 2 = n at *
  have HC := nobodys_not w g _ n cl hz c4
  clear h
  go_enter Try.func37, Try.ntmps37
  go_wp2_with (go_at_call 45; refine HC.mono ?_; rintro e w' ⟨rfl, hw'⟩; obtain rfl := hw'.symm)
  all_goals (go_ret; exact ⟨rfl, rfl⟩)
set_option maxHeartbeats 400000 in
theorem Params_any (h : Dk w Y g k r c N Q S st) : Calls Try.prog 39 #[.pointer (some ⟨g, 0, none⟩)] w fun e w' => e = .returned (.tuple #[.agg #[.int .i64 k, .int .i64 r, .int .i64 c, .int .i64 (Q : Int)], .int .i64 0]) ∧ Below w.heap.size w w' := by
  obtain ⟨l, cl, A, C, left, h⟩ := h
  obtain ⟨w0, hw0⟩ : ∃ w0, w0 = w.alloc (.cells #[.int .i64 0, .int .i64 0, .int .i64 0, .int .i64 0] 23) := ⟨_, rfl⟩
  have b0 : Below w.heap.size w w0 := by rw [hw0]; exact below_alloc _ _
  obtain ⟨c0, c1, c2, c3, c4, _⟩ := cells_dk (h.blk.below b0)
  have hz := h.size.1
  generalize N * Q * 2 = n at *
  have HC := nobodys_not w0 g _ n cl hz c4
  obtain ⟨m0, m1, m2, m3⟩ := par_held hw0 (Below.refl _ _)
  have f := blk_free hw0 (Below.refl _ _)
  have hg : g < w.heap.size := h.lt _ h.own
  clear h
  go_enter Try.func39, Try.ntmps39
  go_wp2_with fail
  rw [← hw0]
  clear hw0
  refine HC.mono ?_
  rintro e w' ⟨rfl, hw'⟩
  obtain rfl := hw'.symm
  go_wp2_with fail
  refine bodyPost_ret (v := .tuple #[.agg #[.int .i64 k, .int .i64 r, .int .i64 c, .int .i64 (Q : Int)], .int .i64 0]) (by simp [results, Try.results39, go_sem, m0, m1, m2, m3]) rfl ⟨rfl, ?_⟩
  exact (((b0.setCell (Nat.le_refl _) _).setCell (Nat.le_refl _) _).setCell (Nat.le_refl _) _).setCell (Nat.le_refl _) _
set_option maxHeartbeats 400000 in
theorem Cut_any (h : Dk w Y g k r c N Q S st) (n : Int) (hn : n ≤ 9223372036854775807) : Calls Try.prog 23 #[.pointer (some ⟨g, 0, none⟩), .int .i64 n] w fun e w' => (n < 0 ∧ e = .returned (.int .i64 2) ∧ w' = w) ∨ (0 ≤ n ∧ e = .returned (.int .i64 0) ∧ Dk w' Y g k r c N Q S (cutSt n.toNat st) ∧ Only Y w w' ∧ w'.heap.size = w.heap.size) := by
  obtain ⟨l, cl, A, C, left, h⟩ := h
  obtain ⟨_, _, _, _, c4, _, c22, c23, _⟩ := cells_dk h.blk
  have f := h.blk.free
  have hz := h.size.1
  have HH : Hid (DkA w Y g l cl k r c N Q S A C left st) := h
  clear h
  generalize hm : N * Q * 2 = m at c4 hz
  have HC := nobodys_not w g _ m cl hz c4
  clear hm
  by_cases h0 : n < 0
  · go_enter Try.func23, Try.ntmps23
    go_wp2_with (go_at_call 45; refine HC.mono ?_; rintro e w' ⟨rfl, hw'⟩; obtain rfl := hw'.symm)
    go_ret
    exact .inl ⟨h0, rfl, rfl⟩
  · go_enter Try.func23, Try.ntmps23
    go_wp2_with (go_at_call 45; refine HC.mono ?_; rintro e w' ⟨rfl, hw'⟩; obtain rfl := hw'.symm)
    go_ret
    refine .inr ⟨by omega, rfl, ⟨l, cl, A, C, n, ?_⟩, ?_, by simp [World.setCell]⟩
    · refine HH.out.reb (only_set (only_set (Only.refl _ _) 22 _) 23 _) ((HH.out.blk.set 22 _).set 23 _) rfl fun m hm => ?_
      have e : n.toNat = m := Option.some.inj hm
      omega
    · exact only_own (only_set (only_set (Only.refl _ _) 22 _) 23 _) HH.out.own
set_option maxHeartbeats 400000 in
theorem On_any (h : Dk w Y g k r c N Q S st) : Calls Try.prog 25 #[.pointer (some ⟨g, 0, none⟩)] w fun e w' => e = .returned (.int .i64 0) ∧ Dk w' Y g k r c N Q S (onSt st) ∧ Only Y w w' ∧ w'.heap.size = w.heap.size := by
  obtain ⟨l, cl, A, C, left, h⟩ := h
  obtain ⟨_, _, _, _, c4, c21, c22, _⟩ := cells_dk h.blk
  have f := h.blk.free
  have hz := h.size.1
  have HH : Hid (DkA w Y g l cl k r c N Q S A C left st) := h
  clear h
  generalize hm : N * Q * 2 = m at c4 hz
  have HC := nobodys_not w g _ m cl hz c4
  clear hm
  go_enter Try.func25, Try.ntmps25
  go_wp2_with (go_at_call 45; refine HC.mono ?_; rintro e w' ⟨rfl, hw'⟩; obtain rfl := hw'.symm)
  go_ret
  refine ⟨rfl, ⟨l, cl, A, C, left, ?_⟩, only_own (only_set (only_set (Only.refl _ _) 21 _) 22 _) HH.out.own, by simp [World.setCell]⟩
  exact HH.out.reb (only_set (only_set (Only.refl _ _) 21 _) 22 _) ((HH.out.blk.set 21 _).set 22 _) rfl fun m hm => by cases hm
set_option maxHeartbeats 400000 in
theorem Whole_any (h : Dk w Y g k r c N Q S st) : Calls Try.prog 27 #[.pointer (some ⟨g, 0, none⟩)] w fun e w' => e = .returned (.int .i64 0) ∧ Dk w' Y g k r c N Q S (wholeSt st) ∧ Only Y w w' ∧ w'.heap.size = w.heap.size := by
  obtain ⟨l, cl, A, C, left, h⟩ := h
  obtain ⟨_, _, _, _, c4, _⟩ := cells_dk h.blk
  have hz := h.size.1
  have HH : Hid (DkA w Y g l cl k r c N Q S A C left st) := h
  have HW := whole_d w g _ _ _ _ _ _ _ _ _ _ h.blk
  clear h
  generalize hm : N * Q * 2 = m at c4 hz
  have HC := nobodys_not w g _ m cl hz c4
  go_enter Try.func27, Try.ntmps27
  go_wp2_with (go_at_call 45; refine HC.mono ?_; rintro e w' ⟨rfl, hw'⟩; obtain rfl := hw'.symm)
  refine HW.mono ?_
  rintro e wa ⟨rfl, hb, ho, hsz⟩
  have HB : Hid (Blk wa g 71 (dkv k r c Q (.slice (some ⟨l, 0, none⟩) (N * Q * 2 : Nat) cl) (fun _ => false) st.off st.cut.isSome left st.wr)) := hb
  have HS : Hid (wa.heap.size = w.heap.size) := hsz
  clear hb hsz hm
  go_wp2_with fail
  go_ret
  exact ⟨rfl, ⟨l, cl, A, C, left, HH.out.reb ho HB.out rfl HH.out.lf⟩, only_own ho HH.out.own, HS.out⟩
set_option maxHeartbeats 400000 in
theorem Wiped_any (h : Dk w Y g k r c N Q S st) : Calls Try.prog 38 #[.pointer (some ⟨g, 0, none⟩)] w fun e w' => ∃ ao cap, e = .returned (.slice ao (gl 16 st.gone).length cap) ∧ OwI w.heap.size w' ao cap (gl 16 st.gone) ∧ Below w.heap.size w w' := by
  obtain ⟨l, cl, A, C, left, h⟩ := h
  obtain ⟨_, _, _, _, c4, _⟩ := cells_dk h.blk
  have hz := h.size.1
  have HW := wiped_d w g st.gone (fun i hi => h.blk.cell (dkv_gone i hi))
  clear h
  generalize hm : N * Q * 2 = m at c4 hz
  have HC := nobodys_not w g _ m cl hz c4
  clear hm
  generalize gl 16 st.gone = L at *
  go_enter Try.func38, Try.ntmps38
  go_wp2_with (go_at_call 45; refine HC.mono ?_; rintro e w' ⟨rfl, hw'⟩; obtain rfl := hw'.symm)
  refine HW.mono ?_
  rintro e wa ⟨ao, cap, rfl, ho, hb⟩
  go_wp2_with fail
  go_ret
  exact ⟨ao, cap, rfl, ho, hb⟩
set_option maxHeartbeats 400000 in
theorem Image_any (h : Dk w Y g k r c N Q S st) : Calls Try.prog 29 #[.pointer (some ⟨g, 0, none⟩)] w fun e w' => ∃ m A' C', e = .returned (.tuple #[.agg #[.int .i64 k, .int .i64 r, .int .i64 c, .int .i64 (Q : Int), .slice (some ⟨m, 0, none⟩) (N * Q * 2 : Nat) (N * Q * 2 : Nat)], .int .i64 0]) ∧ Slots w' (fun b => w.heap.size ≤ b ∧ b < w'.heap.size) m (N * Q * 2) A' C' st.F ∧ (∀ i, i < N * Q * 2 → OwB w.heap.size w' (A' i) (C' i) (st.F i)) ∧ Below w.heap.size w w' := by
  obtain ⟨l, cl, A, C, left, h⟩ := h
  obtain ⟨w0, hw0⟩ : ∃ w0, w0 = w.alloc (.cells #[.int .i64 0, .int .i64 0, .int .i64 0, .int .i64 0, .slice none 0 0] 26) := ⟨_, rfl⟩
  have b0 : Below w.heap.size w w0 := by rw [hw0]; exact below_alloc _ _
  have z0 : w0.heap.size = w.heap.size + 1 := by rw [hw0]; simp
  have h0 := h.only (X := fun _ => False) (.of_below b0) (fun _ _ h => h)
  obtain ⟨c0, c1, c2, c3, c4, _⟩ := cells_dk h0.blk
  obtain ⟨hz, hz2, _, _, _, _, hF⟩ := h.size
  have hsl := h0.sl
  generalize N * Q * 2 = n at *
  have HD := dimage_any w0 k r c Q _ g l n cl A C st.F (by omega) hsl hF c0 c1 c2 c3 c4
  have HC := nobodys_not w0 g _ n cl hz c4
  have SM : Hid (∀ v, Below w0.heap.size w0 v → (v.cell? ⟨w.heap.size, 0, none⟩ = some (.int .i64 0) ∧ v.cell? ⟨w.heap.size, 1, none⟩ = some (.int .i64 0) ∧ v.cell? ⟨w.heap.size, 2, none⟩ = some (.int .i64 0) ∧ v.cell? ⟨w.heap.size, 3, none⟩ = some (.int .i64 0) ∧ v.cell? ⟨w.heap.size, 4, none⟩ = some (.slice none 0 0)) ∧ ∀ i, v.frozen? ⟨w.heap.size, i, none⟩ = false) := fun v hv => ⟨mea_held hw0 hv, blk_free hw0 hv⟩
  clear h h0 hF c0 c1 c2 c3 hsl
  go_enter Try.func29, Try.ntmps29
  go_wp2_with fail
  rw [← hw0]
  clear hw0
  refine HC.mono ?_
  rintro e w' ⟨rfl, hw'⟩
  obtain rfl := hw'.symm
  go_wp2_with fail
  refine HD.mono ?_
  rintro e wa ⟨m, A', C', rfl, h1, h2, ha⟩
  obtain ⟨⟨m0, m1, m2, m3, m4⟩, m5⟩ := SM.out _ ha
  have H1 : Hid (Slots wa (fun b => w0.heap.size ≤ b ∧ b < wa.heap.size) m n A' C' st.F) := h1
  have H2 : Hid (∀ i, i < n → OwB w0.heap.size wa (A' i) (C' i) (st.F i)) := h2
  have HB : Hid (Below w0.heap.size w0 wa) := ha
  clear h1 h2 ha
  go_wp2_with fail
  refine bodyPost_ret (v := .tuple #[.agg #[.int .i64 k, .int .i64 r, .int .i64 c, .int .i64 (Q : Int), .slice (some ⟨m, 0, none⟩) n n], .int .i64 0]) (by simp [results, Try.results29, go_sem, m0, m1, m2, m3, m4]) rfl ?_
  refine ⟨m, A', C', rfl, ?_⟩
  have HX : Only (fun x => x = w.heap.size) wa (((((wa.setCell ⟨w.heap.size, 0, none⟩ (.int .i64 k)).setCell ⟨w.heap.size, 1, none⟩ (.int .i64 r)).setCell ⟨w.heap.size, 2, none⟩ (.int .i64 c)).setCell ⟨w.heap.size, 3, none⟩ (.int .i64 (Q : Int))).setCell ⟨w.heap.size, 4, none⟩ (.slice (some ⟨m, 0, none⟩) n n)) :=
    only_set (only_set (only_set (only_set (only_set (Only.refl _ _) 0 _) 1 _) 2 _) 3 _) 4 _
  have hsz : (((((wa.setCell ⟨w.heap.size, 0, none⟩ (.int .i64 k)).setCell ⟨w.heap.size, 1, none⟩ (.int .i64 r)).setCell ⟨w.heap.size, 2, none⟩ (.int .i64 c)).setCell ⟨w.heap.size, 3, none⟩ (.int .i64 (Q : Int))).setCell ⟨w.heap.size, 4, none⟩ (.slice (some ⟨m, 0, none⟩) n n)).heap.size = wa.heap.size := by simp [World.setCell]
  refine ⟨?_, fun i hi => ?_, ?_⟩
  · rw [hsz]
    exact (H1.out.only HX (fun b hb e => by have := hb.1; omega)).mono fun b hb => ⟨by omega, hb.2⟩
  · exact ((H2.out i hi).stay fun x hx hx2 => HX.block x hx2 (by omega)).mono (by omega)
  · exact (below_then b0 HB.out).trans (HX.below (fun i hi => by omega) (below_then b0 HB.out).size)
set_option maxHeartbeats 400000 in
theorem Read_any (h : Dk w Y g k r c N Q S st) (d o s : Int) : Calls Try.prog 19 #[.pointer (some ⟨g, 0, none⟩), .int .i64 d, .int .i64 o, .int .i64 s] w fun e w' => ∃ ao cap, e = .returned (.tuple #[.slice ao (rdB N Q st d o s).length cap, .int .i64 (rdErr N Q st d o s)]) ∧ OwB w.heap.size w' ao cap (rdB N Q st d o s) ∧ Below w.heap.size w w' := by
  obtain ⟨l, cl, A, C, left, h⟩ := h
  obtain ⟨c0, c1, c2, c3, c4, c21, _⟩ := cells_dk h.blk
  obtain ⟨hz, hz2, _, hN, _, hQ, hF⟩ := h.size
  have HH := has_any h.pm d o s w g c0 c1 c2 c3
  have HC := fun n (e : N * Q * 2 = n) => nobodys_not w g (some ⟨l, 0, none⟩) n cl (by omega) (by rw [← e]; exact c4)
  have HG := fun (hh : hasB N Q d o s = true) (w' : World) (hb : Below w.heap.size w w') => get_any hN hQ d o s hh w' _ g l cl A C st.F (h.sl.only (X := fun _ => False) (.of_below hb) (fun _ _ h => h)) hF (held c3 hb) (held c4 hb)
  cases ho : st.off
  · cases hh : hasB N Q d o s
    · have e1 : rdB N Q st d o s = [] := by unfold rdB; rw [ho, hh]; rfl
      have e2 : rdErr N Q st d o s = 80 := by unfold rdErr; rw [ho, hh]; rfl
      rw [e1, e2]
      rw [hh] at HH
      rw [ho] at c21
      generalize hm : N * Q * 2 = n at *
      have HC := HC n rfl
      clear h HG hm
      go_enter Try.func19, Try.ntmps19
      go_wp2_with fail
      refine HC.mono ?_
      rintro e w' ⟨rfl, hw'⟩
      obtain rfl := hw'.symm
      go_wp2_with fail
      refine HH.mono ?_
      rintro e wa ⟨rfl, ha⟩
      go_wp2_with fail
      go_ret2
      exact ⟨none, 0, rfl, World.ownsRow_nil _ _ _ _, ha⟩
    · have e1 : rdB N Q st d o s = st.F (plc Q d o s) := by unfold rdB; rw [ho, hh]; rfl
      have e2 : rdErr N Q st d o s = 0 := by unfold rdErr; rw [ho, hh]; rfl
      rw [e1, e2]
      rw [hh] at HH
      rw [ho] at c21
      have HG := HG hh
      generalize hm : N * Q * 2 = n at *
      have HC := HC n rfl
      generalize st.F (plc Q d o s) = X at *
      clear h hm
      go_enter Try.func19, Try.ntmps19
      go_wp2_with fail
      refine HC.mono ?_
      rintro e w' ⟨rfl, hw'⟩
      obtain rfl := hw'.symm
      go_wp2_with fail
      refine HH.mono ?_
      rintro e wa ⟨rfl, ha⟩
      go_wp2_with fail
      refine (HG wa ha).mono ?_
      rintro e wb ⟨ao, cap, rfl, ho, hb⟩
      go_wp2_with fail
      go_ret2
      exact ⟨ao, cap, rfl, ho.mono ha.size, below_then ha hb⟩
  · have e1 : rdB N Q st d o s = [] := by unfold rdB; rw [ho]; rfl
    have e2 : rdErr N Q st d o s = 9 := by unfold rdErr; rw [ho]; rfl
    rw [e1, e2]
    rw [ho] at c21
    generalize hm : N * Q * 2 = n at *
    have HC := HC n rfl
    clear h HG hm HH
    go_enter Try.func19, Try.ntmps19
    go_wp2_with fail
    refine HC.mono ?_
    rintro e w' ⟨rfl, hw'⟩
    obtain rfl := hw'.symm
    go_wp2_with fail
    go_ret2
    exact ⟨none, 0, rfl, World.ownsRow_nil _ _ _ _, Below.refl _ _⟩
set_option maxHeartbeats 400000 in
theorem Wipe_any (h : Dk w Y g k r c N Q S st) (d : Int) : Calls Try.prog 21 #[.pointer (some ⟨g, 0, none⟩), .int .i64 d] w fun e w' => (¬ (0 ≤ d ∧ d < (N : Int)) ∧ e = .returned (.int .i64 80) ∧ Below w.heap.size w w') ∨ ((0 ≤ d ∧ d < (N : Int)) ∧ e = .returned (.int .i64 0) ∧ (∃ Y', Dk w' Y' g k r c N Q S (wipeSt Q d.toNat st) ∧ ∀ b, Y' b → Y b) ∧ Only Y w w') := by
  obtain ⟨l, cl, A, C, left, h⟩ := h
  obtain ⟨c0, c1, c2, c3, c4, c21, _⟩ := cells_dk h.blk
  obtain ⟨hz, hz2, _, hN, hQ1, hQ, hF⟩ := h.size
  have HK := count_any h.pm w g c0 c1 c2 c3
  have HC := fun n (e : N * Q * 2 = n) => nobodys_not w g (some ⟨l, 0, none⟩) n cl (by omega) (by rw [← e]; exact c4)
  by_cases hd : 0 ≤ d ∧ d < (N : Int)
  · obtain ⟨m, rfl⟩ := Int.eq_ofNat_of_zero_le hd.1
    have hmN : m < N := by omega
    have HI := fun w => inW_any (m : Int) (N : Int) w
    rw [decide_eq_true hd] at HI
    have HW := fun (w' : World) (hb : Below w.heap.size w w') => wipe_d hN (by omega) hQ m hmN w' _ g l cl A C st.F (st.gone m) (h.sl.only (X := fun _ => False) (.of_below hb) (fun _ _ h => h)) h.cap h.ngl (held c3 hb) (held c4 hb) (held (h.blk.cell (dkv_gone m (by omega))) hb) ((h.blk.below hb).free _)
    have HH : Hid (DkA w Y g l cl k r c N Q S A C left st) := h
    clear h
    generalize hm : N * Q * 2 = n at *
    have HC := HC n rfl
    go_enter Try.func21, Try.ntmps21
    go_wp2_with fail
    refine HC.mono ?_
    rintro e w' ⟨rfl, hw'⟩
    obtain rfl := hw'.symm
    go_wp2_with fail
    refine HK.mono ?_
    rintro e wa ⟨rfl, ha⟩
    go_wp2_with fail
    refine (HI _).mono ?_
    rintro e w' ⟨rfl, hw'⟩
    obtain rfl := hw'.symm
    go_wp2_with fail
    refine (HW wa ha).mono ?_
    rintro e w' ⟨rfl, v, hv, hs, ho⟩
    have HS : Hid (∃ A' C', Slots v (fun b => Y b ∧ b ≠ g) l n A' C' (wpF Q m st.F)) := hs
    have HV : Hid (w' = v.setCell ⟨g, 5 + m, none⟩ (.bool true)) := hv
    have HM : Hid (N * Q * 2 = n) := hm
    clear hs hv hm
    go_wp2_with fail
    go_ret
    obtain ⟨A', C', hs⟩ := HS.out
    have h0 := HH.out.only (X := fun _ => False) (.of_below ha) (fun _ _ h => h)
    rw [← HM.out] at hs
    have h1 : DkA v Y g l cl k r c N Q S A' C' left { st with F := wpF Q m st.F } :=
      ⟨h0.blk.only ho h0.ngl, hs, h0.lf, h0.cap, h0.own, fun b hb => Nat.lt_of_lt_of_le (h0.lt b hb) ho.size, fit_wipe Q m h0.fit, h0.pm⟩
    rw [HV.out]
    have hb2 := h1.blk.set (5 + m) (.bool true)
    rw [dkv_set m (by omega)] at hb2
    have h2 := h1.reb (st' := wipeSt Q m st) (only_set (Only.refl _ _) (5 + m) (.bool true)) hb2 rfl h1.lf
    exact .inr ⟨hd, rfl, ⟨Y, ⟨l, cl, A', C', left, h2⟩, fun b hb => hb⟩, ((Only.of_below ha).trans (ho.mono fun b _ e => e ▸ h0.sl.own.1)).trans (only_own (only_set (Only.refl _ _) (5 + m) (.bool true)) h0.own)⟩
  · have HI := fun w => inW_any d (N : Int) w
    rw [decide_eq_false hd] at HI
    generalize hm : N * Q * 2 = n at *
    have HC := HC n rfl
    clear h
    go_enter Try.func21, Try.ntmps21
    go_wp2_with fail
    refine HC.mono ?_
    rintro e w' ⟨rfl, hw'⟩
    obtain rfl := hw'.symm
    go_wp2_with fail
    refine HK.mono ?_
    rintro e wa ⟨rfl, ha⟩
    go_wp2_with fail
    refine (HI _).mono ?_
    rintro e w' ⟨rfl, hw'⟩
    obtain rfl := hw'.symm
    go_wp2_with fail
    go_ret
    exact .inl ⟨hd, rfl, ha⟩
end
end Go.Proofs.Ytdicogmjjboilaa
