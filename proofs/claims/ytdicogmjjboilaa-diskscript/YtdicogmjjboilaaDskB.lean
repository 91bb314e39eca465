/- The small functions over drives: how many there are, a slot's size, which slots are there, their places. -/
import Derived.Test.YtdicogmjjboilaaDskA
import Derived.BigQuiet
import Derived.StillTailTactics
namespace Go.Proofs.Ytdicogmjjboilaa
open Go.RowKit

theorem of_drew {w v : World} (h : Below w.drew.heap.size w.drew v) : Below w.heap.size w v := below_then (below_drew _ _) h
theorem Pm.par {k r c q : Int} {N Q S : Nat} (h : Pm k r c q N Q S) : ∃ W, Par k r c q N W 0 := by
  obtain ⟨h0, hN, hQ, hS⟩ := h
  obtain ⟨h1, h2, h3, h4, h5, h6, h7, h8, h9⟩ := may_true h0
  exact ⟨(k * c).toNat, .inl ⟨h0, by omega, hN, rfl⟩⟩
theorem drives_ok {k r c q : Int} {N Q S : Nat} (h : Pm k r c q N Q S) (w : World) :
    Calls Try.prog 58 #[.agg #[.int .i64 k, .int .i64 r, .int .i64 c, .int .i64 q]] w fun e w' => e = .returned (.tuple #[.int .i64 (N : Int), .int .i64 0]) ∧ Below w.heap.size w w' := by
  obtain ⟨W, hp⟩ := h.par
  exact Drives_any hp w
theorem drives_bad {k r c q : Int} (h : may k r c q = false) (w : World) :
    Calls Try.prog 58 #[.agg #[.int .i64 k, .int .i64 r, .int .i64 c, .int .i64 q]] w fun e w' => e = .returned (.tuple #[.int .i64 0, .int .i64 2]) ∧ Below w.heap.size w w' :=
  Drives_any (N := 0) (W := 0) (.inr ⟨h, rfl, rfl, rfl⟩) w
set_option maxHeartbeats 400000 in
theorem N_any {k r : Int} (c q : Int) {N : Nat} (h : (N : Int) = k + r) (hk : N ≤ 16) (w : World) :
    Calls Try.prog 41 #[.agg #[.int .i64 k, .int .i64 r, .int .i64 c, .int .i64 q]] w fun e w' => e = .returned (.int .i64 (N : Int)) ∧ Below w.heap.size w w' := by
  have HN : Hid (k + r = (N : Int)) := h.symm
  go_enter Try.func41, Try.ntmps41
  go_wp2
  go_ret
  exact ⟨ret_int HN.out, below_alloc _ _⟩
set_option maxHeartbeats 400000 in
theorem inW_any (n b : Int) (w : World) :
    Calls Try.prog 51 #[.int .i64 n, .int .i64 b] w fun e w' => e = .returned (.bool (decide (0 ≤ n ∧ n < b))) ∧ w' = w := by
  rw [Bool.decide_and]
  go_enter Try.func51, Try.ntmps51
  go_wp2
  · go_ret
    exact ⟨ret_bool (by rw [decide_eq_true (show 0 ≤ n by omega)]; rfl), rfl⟩
  · go_ret
    exact ⟨ret_bool (by rw [decide_eq_false (show ¬ 0 ≤ n by omega)]; rfl), rfl⟩
set_option maxHeartbeats 400000 in
theorem slotSize_any {k r c q : Int} {N Q S : Nat} (h : Pm k r c q N Q S) (w : World) :
    Calls Try.prog 60 #[.agg #[.int .i64 k, .int .i64 r, .int .i64 c, .int .i64 q]] w fun e w' => e = .returned (.int .i64 (S : Int)) ∧ Below w.heap.size w w' := by
  have HC := fun w => drives_ok h w
  have hb := h.bounds
  have HS : Hid (12 + 4 * (N : Int) + c = (S : Int)) := by obtain ⟨_, h1, _, h2⟩ := h; show _ = _; omega
  have hc1 : -1000 ≤ c := by have := HS.out; omega
  have hc2 : c ≤ 1000 := by have := HS.out; omega
  obtain ⟨_, hb2, _⟩ := hb
  clear h
  obtain ⟨w0, hw0⟩ : ∃ w0, w0 = w.alloc (.cells #[.int .i64 k, .int .i64 r, .int .i64 c, .int .i64 q] 23) := ⟨_, rfl⟩
  have b0 : Below w.heap.size w w0 := by rw [hw0]; exact below_alloc _ _
  go_enter Try.func60, Try.ntmps60
  go_wp2_with fail
  rw [← hw0]
  refine (HC _).mono ?_
  rintro e wa ⟨rfl, ha⟩
  obtain ⟨s0, s1, s2, s3⟩ := par_held hw0 ha
  clear hw0
  go_wp2_with fail
  go_ret
  exact ⟨ret_int HS.out, below_then b0 ha⟩
set_option maxHeartbeats 400000 in
theorem Size_any {k r c q : Int} {N Q S : Nat} (h : Pm k r c q N Q S) (w : World) :
    Calls Try.prog 44 #[.agg #[.int .i64 k, .int .i64 r, .int .i64 c, .int .i64 q]] w fun e w' => e = .returned (.int .i64 (S : Int)) ∧ Below w.heap.size w w' := by
  have hb := h.bounds
  have HC := fun w => N_any c q h.2.1 hb.2.1 w
  have HS : Hid (12 + 4 * (N : Int) + c = (S : Int)) := by obtain ⟨_, h1, _, h2⟩ := h; show _ = _; omega
  have hc1 : -1000 ≤ c := by have := HS.out; omega
  have hc2 : c ≤ 1000 := by have := HS.out; omega
  obtain ⟨_, hb2, _⟩ := hb
  have e1 : IntKind.i64.wrap (4 * (N : Int)) = 4 * (N : Int) := by rw [IntKind.wrap_i64]; omega
  have e2 : IntKind.i64.wrap (12 + 4 * (N : Int)) = 12 + 4 * (N : Int) := by rw [IntKind.wrap_i64]; omega
  have e3 : IntKind.i64.wrap (12 + 4 * (N : Int) + c) = 12 + 4 * (N : Int) + c := by rw [IntKind.wrap_i64]; omega
  clear h
  obtain ⟨w0, hw0⟩ : ∃ w0, w0 = w.alloc (.cells #[.int .i64 k, .int .i64 r, .int .i64 c, .int .i64 q] 23) := ⟨_, rfl⟩
  have b0 : Below w.heap.size w w0 := by rw [hw0]; exact below_alloc _ _
  obtain ⟨s0, s1, s2, s3⟩ := par_held hw0 (Below.refl _ _)
  go_enter Try.func44, Try.ntmps44
  go_wp2_with fail
  rw [← hw0]
  clear hw0
  have SH : Hid (∀ v, Below w0.drew.heap.size w0.drew v → v.cell? ⟨w.heap.size, 0, none⟩ = some (.int .i64 k) ∧ v.cell? ⟨w.heap.size, 1, none⟩ = some (.int .i64 r) ∧ v.cell? ⟨w.heap.size, 2, none⟩ = some (.int .i64 c) ∧ v.cell? ⟨w.heap.size, 3, none⟩ = some (.int .i64 q)) := fun v hv => have hv' := of_drew hv; ⟨held s0 hv', held s1 hv', held s2 hv', held s3 hv'⟩
  go_region_held3 (fun v => v.cell? ⟨w.heap.size, 0, none⟩ = some (.int .i64 k) ∧ v.cell? ⟨w.heap.size, 1, none⟩ = some (.int .i64 r) ∧ v.cell? ⟨w.heap.size, 2, none⟩ = some (.int .i64 c) ∧ v.cell? ⟨w.heap.size, 3, none⟩ = some (.int .i64 q)) (go_keep)
    ((go_at_call 41; refine (HC _).mono ?_; rintro e wa ⟨rfl, ha⟩; obtain ⟨q0, q1, q2, q3⟩ := SH.out _ ha))
  all_goals (go_wp2; go_ret; exact ⟨ret_int HS.out, below_then b0.drew ha⟩)
theorem cells_dk {w : World} {g : Nat} {k r c q : Int} {sl : Value} {gone : Nat → Bool} {off cut : Bool} {left wr : Int} (h : Blk w g 71 (dkv k r c q sl gone off cut left wr)) :
    w.cell? ⟨g, 0, none⟩ = some (.int .i64 k) ∧ w.cell? ⟨g, 1, none⟩ = some (.int .i64 r) ∧ w.cell? ⟨g, 2, none⟩ = some (.int .i64 c) ∧ w.cell? ⟨g, 3, none⟩ = some (.int .i64 q) ∧ w.cell? ⟨g, 4, none⟩ = some sl ∧ w.cell? ⟨g, 21, none⟩ = some (.bool off) ∧ w.cell? ⟨g, 22, none⟩ = some (.bool cut) ∧ w.cell? ⟨g, 23, none⟩ = some (.int .i64 left) ∧ w.cell? ⟨g, 24, none⟩ = some (.int .i64 wr) :=
  ⟨h.cell rfl, h.cell rfl, h.cell rfl, h.cell rfl, h.cell rfl, h.cell rfl, h.cell rfl, h.cell rfl, h.cell rfl⟩
set_option maxHeartbeats 400000 in
theorem count_any {k r c q : Int} {N Q S : Nat} (h : Pm k r c q N Q S) (w : World) (g : Nat) (c0 : w.cell? ⟨g, 0, none⟩ = some (.int .i64 k)) (c1 : w.cell? ⟨g, 1, none⟩ = some (.int .i64 r)) (c2 : w.cell? ⟨g, 2, none⟩ = some (.int .i64 c)) (c3 : w.cell? ⟨g, 3, none⟩ = some (.int .i64 q)) :
    Calls Try.prog 52 #[.pointer (some ⟨g, 0, none⟩)] w fun e w' => e = .returned (.int .i64 (N : Int)) ∧ Below w.heap.size w w' := by
  have HC := fun w => drives_ok h w
  clear h
  go_enter Try.func52, Try.ntmps52
  go_wp2_with fail
  refine (HC _).mono ?_
  rintro e wa ⟨rfl, ha⟩
  go_wp2_with fail
  go_ret
  exact ⟨rfl, ha⟩
set_option maxHeartbeats 400000 in
theorem has_any {k r c : Int} {N Q S : Nat} (h : Pm k r c Q N Q S) (d o s : Int) (w : World) (g : Nat) (c0 : w.cell? ⟨g, 0, none⟩ = some (.int .i64 k)) (c1 : w.cell? ⟨g, 1, none⟩ = some (.int .i64 r)) (c2 : w.cell? ⟨g, 2, none⟩ = some (.int .i64 c)) (c3 : w.cell? ⟨g, 3, none⟩ = some (.int .i64 (Q : Int))) :
    Calls Try.prog 48 #[.pointer (some ⟨g, 0, none⟩), .int .i64 d, .int .i64 o, .int .i64 s] w fun e w' => e = .returned (.bool (hasB N Q d o s)) ∧ Below w.heap.size w w' := by
  have HC := count_any h w g c0 c1 c2 c3
  clear h
  go_enter Try.func48, Try.ntmps48
  go_wp2_with fail
  refine HC.mono ?_
  rintro e wa ⟨rfl, ha⟩
  have s3 := held c3 ha
  clear HC c0 c1 c2 c3
  go_wp2_with (go_at_call 51; refine (inW_any _ _ _).mono ?_; rintro e w' ⟨rfl, hw'⟩; obtain rfl := hw'.symm)
  all_goals (go_ret; refine ⟨ret_bool ?_, ha⟩; unfold hasB; first | exact decide_eq_decide.2 (by omega) | exact (decide_eq_false (by omega)).symm | (rw [Bool.eq_iff_iff]; simp only [Bool.and_eq_true, decide_eq_true_eq]; omega))
set_option maxHeartbeats 400000 in
theorem at_any (Q : Nat) (hQ : Q ≤ 256) (d o s : Int) (h1 : 0 ≤ d) (h2 : d ≤ 16) (h3 : 0 ≤ o) (h4 : o ≤ 256) (h5 : 0 ≤ s) (h6 : s ≤ 2) (w : World) (g : Nat) (c3 : w.cell? ⟨g, 3, none⟩ = some (.int .i64 (Q : Int))) :
    Calls Try.prog 64 #[.pointer (some ⟨g, 0, none⟩), .int .i64 d, .int .i64 o, .int .i64 s] w fun e w' => e = .returned (.int .i64 ((plc Q d o s : Nat) : Int)) ∧ w' = w := by
  obtain ⟨p, hp, hp2⟩ : ∃ p : Nat, d * (Q : Int) = (p : Int) ∧ p ≤ 4096 := by
    obtain ⟨a, rfl⟩ := Int.eq_ofNat_of_zero_le h1
    have : a * Q ≤ 16 * 256 := Nat.mul_le_mul (by omega) hQ
    exact ⟨a * Q, by simp, by omega⟩
  have HR : Hid (((p : Int) + o) * 2 + s = ((plc Q d o s : Nat) : Int)) := by show _ = _; rw [plc_cast h1 h3 h5, hp]
  have hv : Value.int .i64 (wrap64 (d * (Q : Int))) = .int .i64 (p : Int) := by rw [hp, w64 _ (by omega)]
  clear hp
  go_enter Try.func64, Try.ntmps64
  go_wp2
  go_ret
  exact ⟨ret_int HR.out, rfl⟩
theorem info5 : (Try.prog.info? 5).map (fun i => (i.zero, i.size, i.bytes)) = some (some (.int .u8 0), 1, 1) := by kernel_rfl
theorem info43 : (Try.prog.info? 43).map (fun i => (i.zero, i.size, i.bytes)) = some (some (.slice none 0 0), 1, 24) := by kernel_rfl
theorem info_parts {t : TypeId} {z : Value} {s b : Nat} (h : (Try.prog.info? t).map (fun i => (i.zero, i.size, i.bytes)) = some (some z, s, b)) : ∃ i, Try.prog.info? t = some i ∧ i.zero = some z ∧ i.size = s ∧ i.bytes = b := by
  obtain ⟨i, hi, e⟩ := Option.map_eq_some_iff.1 h
  simp only [Prod.mk.injEq] at e
  exact ⟨i, hi, e.1, e.2.1, e.2.2⟩
/-- Bytes of the call's own, from block B on. -/
def OwB (B : Nat) (w : World) (ao : Option Addr) (cap : Nat) (c : List UInt8) : Prop := w.ownsRow B 5 1 (.slice ao c.length cap) c.length (bys c)
theorem OwB.rd {B : Nat} {w : World} {ao : Option Addr} {cap : Nat} {c : List UInt8} (h : OwB B w ao cap c) : RdB w ao c := by
  intro hc
  have h0 := h
  rcases h.2 with ⟨h1, _⟩ | ⟨g, cap', cur, h1, _⟩
  · simp at h1; exact absurd h1.2.1 hc
  · cases h1
    refine ⟨g, 0, rfl, fun j hj => ?_⟩
    have := World.ownsRow.cells h0 (g := g) rfl j _ (bys_get c j hj)
    rwa [Addr.add_lit] at this
theorem OwB.at_ {B : Nat} {w : World} {ao : Option Addr} {cap : Nat} {c : List UInt8} (h : OwB B w ao cap c) {a : Addr} (ha : ao = some a) : B ≤ a.block ∧ a.block < w.heap.size := World.ownsRow.lt h _ (by subst ha; rfl)
theorem OwB.stay {B : Nat} {w w' : World} {ao : Option Addr} {cap : Nat} {c : List UInt8} (h : OwB B w ao cap c) (hb : ∀ g, B ≤ g → g < w.heap.size → w'.heap[g]? = w.heap[g]?) : OwB B w' ao cap c := by
  refine ⟨h.1, ?_⟩
  rcases h.2 with h1 | ⟨g, cap', cur, h1, h2, h3, h4⟩
  · exact .inl h1
  · exact .inr ⟨g, cap', cur, h1, h2, by rw [hb g h2 (Array.getElem?_eq_some_iff.1 h3).1]; exact h3, h4⟩
theorem OwB.below {B : Nat} {w w' : World} {ao : Option Addr} {cap : Nat} {c : List UInt8} (h : OwB B w ao cap c) (hb : Below w.heap.size w w') : OwB B w' ao cap c := h.stay fun g _ hg => hb.block g hg
theorem OwB.mono {B B' : Nat} {w : World} {ao : Option Addr} {cap : Nat} {c : List UInt8} (h : OwB B w ao cap c) (hb : B' ≤ B) : OwB B' w ao cap c := by
  refine ⟨h.1, ?_⟩
  rcases h.2 with h1 | ⟨g, cap', cur, h1, h2, h3⟩
  · exact .inl h1
  · exact .inr ⟨g, cap', cur, h1, by omega, h3⟩
theorem OwB.nil {B : Nat} {w : World} {ao : Option Addr} {cap : Nat} {c : List UInt8} (h : OwB B w ao cap c) (ha : ao = none) : c = [] ∧ cap = 0 := by
  subst ha
  rcases h.2 with ⟨h1, h2⟩ | ⟨g, cap', cur, h1, _⟩
  · simp at h1; exact ⟨List.length_eq_zero_iff.1 h2, h1.2⟩
  · cases h1
set_option maxHeartbeats 400000 in
theorem copied_any (w : World) (ao : Option Addr) (n cp : Nat) (c : List UInt8) (hr : RdB w ao c) (hn : n = c.length) (hnil : ao = none → c = [] ∧ cp = 0) (hc : c.length ≤ 1000000) :
    Calls Try.prog 61 #[.slice ao n cp] w fun e w' => ∃ ao' cap', e = .returned (.slice ao' c.length cap') ∧ OwB w.heap.size w' ao' cap' c ∧ Below w.heap.size w w' := by
  subst hn
  obtain ⟨i0, hi, hz0, hz1, hz2⟩ := info_parts info5
  cases ao with
  | none =>
    obtain ⟨rfl, rfl⟩ := hnil rfl
    go_enter Try.func61, Try.ntmps61
    go_wp2_with (at_builtin; refine wpList_append_own_none (by rfl) (.const (.slice none 0 0)) (.tmp 3) 43 (by rfl) w.heap.size 5 i0 1 Try.underlying43 hi (.slice none 0 0) 0 [] (by rfl) (World.ownsRow_nil _ _ _ _) (by rfl) ?_)
    go_ret
    exact ⟨none, 0, rfl, World.ownsRow_nil _ _ _ _, Below.refl _ _⟩
  | some ad =>
    have HN : Hid (∀ j u, (bys c)[j]? = some u → w.cell? (ad.add j) = some u) := rdb_news hr
    obtain ⟨XS, hXS⟩ : ∃ XS, XS = bys c := ⟨_, rfl⟩
    have HX : Hid (XS = bys c) := hXS
    have hl : XS.length = c.length * 1 := by rw [hXS, bys_length, Nat.mul_one]
    have HO : Hid (∀ u ∈ XS, u.oneCell' = true) := by rw [hXS]; exact bys_one c
    rw [← hXS] at HN
    clear hXS hr hnil
    go_enter Try.func61, Try.ntmps61
    go_wp2_with (at_builtin; refine wpList_append_own w (by rfl) (.const (.slice none 0 0)) (.tmp 3) 43 (by rfl) w.heap.size 5 i0 (.int .u8 0) 1 1 Try.underlying43 hi hz0 hz1 hz2 (by rfl) (by decide) (.slice none 0 0) 0 [] (by rfl) (World.ownsRow_nil _ _ _ _) ad c.length cp XS (by rfl) hl HN.out HO.out (by unfold maxLen; omega) (by omega) (Nat.le_refl _) ?_; intro v' w' hown hgrow _)
    go_ret
    rw [Nat.zero_add, List.nil_append, HX.out] at hown
    have hb : Below w.heap.size w w' := (Below.refl _ w).grown hgrow (Nat.le_refl _) (fun k e => by cases e)
    rcases hown.2 with ⟨e, h0⟩ | ⟨g, cap, cur, e, hg⟩
    · subst e
      exact ⟨none, 0, by rw [h0]; rfl, by unfold OwB; rw [h0] at hown ⊢; exact hown, hb⟩
    · subst e
      exact ⟨some ⟨g, 0, none⟩, cap, rfl, hown, hb⟩
end Go.Proofs.Ytdicogmjjboilaa
