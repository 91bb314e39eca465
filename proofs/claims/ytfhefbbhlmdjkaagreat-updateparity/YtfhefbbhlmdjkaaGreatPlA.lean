/- Changes that came in; what is wrong with them. -/
import Derived.Test.YtfhefbbhlmdjkaaGreatUpCh
import Derived.WalkMore
import Derived.ScopeJumps
namespace Go.Proofs.YtfhefbbhlmdjkaaGreat
open Go.RowKit

/-- Changes that are read: a list of n at lo. -/
structure Chl (w : World) (lo : Option Addr) (n lc : Nat) (D : Nat → Int) (A : Nat → Option Addr) (L C : Nat → Nat) (F : Nat → Nat → UInt8) : Prop where
  at_ : 0 < n → ∃ b off, lo = some ⟨b, off, none⟩ ∧ ∀ i, i < n → w.cell? ⟨b, off + i * 2, none⟩ = some (.int .i64 (D i)) ∧ w.cell? ⟨b, off + i * 2 + 1, none⟩ = some (.slice (A i) (L i) (C i))
  bec : ∀ i, i < n → Bec w (A i) (L i) (C i) (F i)
  nil : lo = none → n = 0 ∧ lc = 0
  room : n ≤ lc
theorem Chl.below {w w' : World} {lo : Option Addr} {n lc : Nat} {D : Nat → Int} {A : Nat → Option Addr} {L C : Nat → Nat} {F : Nat → Nat → UInt8} (h : Chl w lo n lc D A L C F) (hb : Below w.heap.size w w') : Chl w' lo n lc D A L C F :=
  ⟨fun hn => by obtain ⟨b, off, e, hc⟩ := h.at_ hn; exact ⟨b, off, e, fun i hi => ⟨held (hc i hi).1 hb, held (hc i hi).2 hb⟩⟩, fun i hi => (h.bec i hi).below hb, h.nil, h.room⟩
theorem Chs.chl {B : Nat} {w : World} {ao : Option Addr} {n cap : Nat} {D : Nat → Int} {T : Nat → Option Addr} {L U : Nat → Nat} {H : Nat → Nat → UInt8} (h : Chs B w ao n cap D T L U H) : Chl w ao n cap D T L U H := by
  refine ⟨fun hn => ?_, fun i hi => (h.row i hi).bec, fun e => ?_, ?_⟩
  · obtain ⟨g, e, _, _, _, hc⟩ := h.cells hn
    exact ⟨g, 0, e, fun i hi => by rw [Nat.zero_add]; exact hc i hi⟩
  · rcases h.out.2 with ⟨h0, h1⟩ | ⟨g, c', cur, e', _⟩
    · cases h0; exact ⟨rfl, rfl⟩
    · rw [e] at e'; cases e'
  · rcases h.out.2 with ⟨h0, h1⟩ | ⟨g, c', cur, e', _, _, h3, _⟩
    · omega
    · cases e'; exact h3
/-- The number ahead of the i-th. -/
def lst (D : Nat → Int) (i : Nat) : Int := if i = 0 then -1 else D (i - 1)
/-- The first i numbers rise, and are below K. -/
abbrev gdB (D : Nat → Int) (K : Int) (i : Nat) : Prop := ∀ j, j < i → lst D j < D j ∧ D j < K
/-- The error of changes. -/
def erG (D : Nat → Int) (L : Nat → Nat) (K : Int) (m n : Nat) : Int := if 0 < n ∧ gdB D K n then (if ∀ i, i < n → L i = m then 0 else 20) else 2
theorem lst_succ (D : Nat → Int) (i : Nat) : lst D (i + 1) = D i := by unfold lst; rw [if_neg (by omega), Nat.add_sub_cancel]
theorem gd_lt {D : Nat → Int} {K : Int} {n : Nat} (h : gdB D K n) : ∀ j i, i < j → j < n → D i < D j
  | 0, i, h1, _ => absurd h1 (Nat.not_lt_zero i)
  | j + 1, i, h1, h2 => by
    have h3 := (h (j + 1) h2).1
    rw [lst_succ] at h3
    by_cases e : i = j
    · subst e; exact h3
    · have := gd_lt h j i (by omega) (by omega); omega
theorem gd_ge {D : Nat → Int} {K : Int} {n : Nat} (h : gdB D K n) {i : Nat} (hi : i < n) : 0 ≤ D i ∧ D i < K := by
  refine ⟨?_, (h i hi).2⟩
  have h0 := (h 0 (by omega)).1
  rw [show lst D 0 = -1 from if_pos rfl] at h0
  by_cases e : i = 0
  · subst e; omega
  · have := gd_lt h i 0 (by omega) hi; omega
set_option maxHeartbeats 4000000 in
set_option maxRecDepth 100000 in
theorem wrong_any (k r q : Int) (m : Nat) (w : World) (lo : Option Addr) (n lc : Nat) (D : Nat → Int) (A : Nat → Option Addr) (L C : Nat → Nat) (F : Nat → Nat → UInt8) (hl : Chl w lo n lc D A L C F) (hn : n ≤ 100) (E : Int) (hE : erG D L k m n = E) :
    Calls Tryz.prog 17 #[.agg #[.int .i64 k, .int .i64 r, .int .i64 (m : Int), .int .i64 q], .slice lo n lc] w fun e w' => e = .returned (.int .i64 E) ∧ Below w.heap.size w w' := by
  obtain ⟨w0, hw0⟩ : ∃ w0, w0 = w.alloc (.cells #[.int .i64 k, .int .i64 r, .int .i64 (m : Int), .int .i64 q] 23) := ⟨_, rfl⟩
  have B0 : Hid (Below w.heap.size w w0) := by show Below _ _ _; rw [hw0]; exact below_alloc _ _
  have HPAR : Hid (∀ v, Below w0.heap.size w0 v → v.cell? ⟨w.heap.size, 0, none⟩ = some (.int .i64 k) ∧ v.cell? ⟨w.heap.size, 1, none⟩ = some (.int .i64 r) ∧ v.cell? ⟨w.heap.size, 2, none⟩ = some (.int .i64 (m : Int)) ∧ v.cell? ⟨w.heap.size, 3, none⟩ = some (.int .i64 q)) := fun v hv => par_held hw0 hv
  have HL : Hid (Chl w lo n lc D A L C F) := hl
  have HE : Hid (erG D L k m n = E) := hE
  clear hl hE
  go_enter Tryz.func17, Tryz.ntmps17
  go_wp2_with fail
  rw [← hw0]
  clear hw0
  refine wp_scope_jumps 0 (fun a' w' => Hid (E = 2 ∧ Below w.heap.size w w') ∧ ∃ u0 u1 u2 u3 u4 u5 u6 u7 u8 u9 u10 u11 u12 u13 u14 u15 u16 u17 u18 u19 u20 u21 u22 u23 u24 u25 u26 u27 u28 u29 u30 u31 u32 u33 u34 u35 u36 u37 u38 : Value, a' = { tmps := #[u0, u1, u2, u3, u4, u5, u6, u7, u8, u9, u10, u11, u12, u13, u14, u15, u16, u17, u18, u19, u20, u21, u22, u23, u24, u25, u26, u27, u28, u29, u30, u31, u32, u33, u34, u35, u36, u37, u38], defers := [] }) (fun _ _ => 0) (by rfl) ?_ ?_
  rotate_left
  · rintro a' w' ⟨hJ, u0, u1, u2, u3, u4, u5, u6, u7, u8, u9, u10, u11, u12, u13, u14, u15, u16, u17, u18, u19, u20, u21, u22, u23, u24, u25, u26, u27, u28, u29, u30, u31, u32, u33, u34, u35, u36, u37, u38, rfl⟩
    have HJ : Hid (E = 2 ∧ Below w.heap.size w w') := hJ
    clear hJ
    go_wp2_with fail
    try go_step3
    try go_wp2_with fail
    try simp only [Exit.jump]
    go_ret
    exact ⟨ret_int HJ.out.1.symm, HJ.out.2⟩
  go_wp2_with fail
  go_loopw [5, 6, 11] (fun s l y wr => ∃ i : Nat, i ≤ n ∧ y = .int .i64 (i : Int) ∧ l = .int .i64 (lst D i) ∧ (∃ z : Int, s = .int .i64 z ∧ Hid ((z = 0 ∧ ∀ j, j < i → L j = m) ∨ (z = 20 ∧ ¬ ∀ j, j < i → L j = m))) ∧ Hid (gdB D k i) ∧ Hid (Below w0.heap.size w0 wr)) (fun _ _ y _ => n - (intOf y).toNat)
  case atStart => exact ⟨0, Nat.zero_le _, rfl, rfl, ⟨0, rfl, .inl ⟨rfl, fun j hj => absurd hj (by omega)⟩⟩, fun j hj => absurd hj (by omega), Below.refl _ _⟩
  case round =>
    obtain ⟨i, hi, rfl, rfl, ⟨z, rfl, hz⟩, hg, hb⟩ := hrel
    by_cases hlt : i < n
    · obtain ⟨b, off, rfl, hc⟩ := HL.out.at_ (by omega)
      have c0 := held (hc i hlt).1 (below_then B0.out hb.out)
      have c1 := held (hc i hlt).2 (below_then B0.out hb.out)
      have pp := HPAR.out wr hb.out
      have a0 := fun o => held pp.1 (below_alloc wr o)
      have a2 := fun o => held pp.2.2.1 (below_alloc wr o)
      have HB2 : Hid (∀ o, Below w0.heap.size w0 (wr.alloc o)) := fun o => below_then hb.out (below_alloc _ _)
      have i1 : (0 : Int) ≤ (i : Int) := by omega
      have i2 : (i : Int) < (n : Int) := by omega
      obtain ⟨dd, hdd⟩ : ∃ dd, dd = D i := ⟨_, rfl⟩
      obtain ⟨ll, hll⟩ : ∃ ll, ll = lst D i := ⟨_, rfl⟩
      rw [← hdd] at c0
      rw [← hll]
      have HDD : Hid (dd = D i ∧ ll = lst D i) := ⟨hdd, hll⟩
      clear hc pp hdd hll
      by_cases t1 : dd ≤ ll
      · have HR : Hid (E = 2) := by
          show _ = _
          rw [← HE.out]; unfold erG
          exact if_neg fun h => by have := (h.2 i hlt).1; have := HDD.out; omega
        go_wp2_with fail
        go_step3
        exact ⟨rfl, ⟨HR.out, below_then B0.out (HB2.out _)⟩, _, _, _, _, _, _, _, _, _, _, _, _, _, _, _, _, _, _, _, _, _, _, _, _, _, _, _, _, _, _, _, _, _, _, _, _, _, _, _, rfl⟩
      · by_cases t2 : k ≤ dd
        · have HR : Hid (E = 2) := by
            show _ = _
            rw [← HE.out]; unfold erG
            exact if_neg fun h => by have := (h.2 i hlt).2; have := HDD.out; omega
          go_wp2_with fail
          go_step3
          exact ⟨rfl, ⟨HR.out, below_then B0.out (HB2.out _)⟩, _, _, _, _, _, _, _, _, _, _, _, _, _, _, _, _, _, _, _, _, _, _, _, _, _, _, _, _, _, _, _, _, _, _, _, _, _, _, _, rfl⟩
        · have HG : Hid (gdB D k (i + 1)) := fun j hj => by
            by_cases e : j = i
            · subst e; have := HDD.out; omega
            · exact hg.out j (by omega)
          have HLS : Hid (lst D (i + 1) = dd) := by show _ = _; rw [lst_succ]; exact HDD.out.1.symm
          obtain ⟨li, hli⟩ : ∃ li, li = L i := ⟨_, rfl⟩
          rw [← hli] at c1
          have HLI : Hid (li = L i) := hli
          clear hli
          by_cases t3 : li = m
          · have q1 : ((li : Int) != (m : Int)) = false := by rw [t3]; simp
            have HZ : Hid ((z = 0 ∧ ∀ j, j < i + 1 → L j = m) ∨ (z = 20 ∧ ¬ ∀ j, j < i + 1 → L j = m)) := by
              rcases hz.out with ⟨e, h⟩ | ⟨e, h⟩
              · exact .inl ⟨e, fun j hj => by
                  by_cases e2 : j = i
                  · subst e2; rw [← HLI.out]; exact t3
                  · exact h j (by omega)⟩
              · exact .inr ⟨e, fun g => h fun j hj => g j (by omega)⟩
            clear hz hg t3
            go_wp2_with fail
            go_roundw
            case rel => exact ⟨i + 1, by omega, by go_num, by rw [HLS.out], ⟨z, rfl, HZ.out⟩, HG.out, HB2.out _⟩
            case measure => simp [intOf]; omega
          · have q1 : ((li : Int) != (m : Int)) = true := by simp; omega
            have HZ : Hid (¬ ∀ j, j < i + 1 → L j = m) := fun g => t3 (HLI.out.trans (g i (by omega)))
            clear hz hg t3
            go_wp2_with fail
            go_roundw
            case rel => exact ⟨i + 1, by omega, by go_num, by rw [HLS.out], ⟨20, rfl, .inr ⟨rfl, HZ.out⟩⟩, HG.out, HB2.out _⟩
            case measure => simp [intOf]; omega
    · obtain rfl : i = n := by omega
      by_cases h0 : i = 0
      · have HR : Hid (E = 2) := by show _ = _; rw [← HE.out]; unfold erG; exact if_neg (by omega)
        have t1 : ¬ (0 : Int) < (i : Int) := by omega
        clear h0
        go_wp2_with fail
        go_step3
        go_wp2_with fail
        try simp only [Exit.jump]
        go_ret
        exact ⟨ret_int HR.out.symm, below_then B0.out hb.out⟩
      · have t1 : (0 : Int) < (i : Int) := by omega
        have HR : Hid (E = z) := by
          show _ = _
          rw [← HE.out]; unfold erG
          rw [if_pos ⟨by omega, hg.out⟩]
          rcases hz.out with ⟨e, h⟩ | ⟨e, h⟩
          · rw [if_pos h]; exact e.symm
          · rw [if_neg h]; exact e.symm
        clear h0
        go_wp2_with fail
        try simp only [Exit.jump]
        go_ret
        exact ⟨ret_int HR.out.symm, below_then B0.out hb.out⟩
end Go.Proofs.YtfhefbbhlmdjkaaGreat
