/- What cells and Cells answer. -/
import Derived.Test.YtfhefbbhlmdjkaaGreatStI
namespace Go.Proofs.YtfhefbbhlmdjkaaGreat
open Go.RowKit

/-- A list of n cells of m bytes each, all of the call's own. -/
structure Cls (B : Nat) (w : World) (ao : Option Addr) (n cap m : Nat) (T : Nat → Option Addr) (U : Nat → Nat) (H : Nat → Nat → UInt8) : Prop where
  out : w.ownsRow B 32 1 (.slice ao n cap) n (Cod.rowsOf n T (fun _ => m) U)
  row : ∀ i, i < n → OwU B w (T i) m (U i) (H i)
  apart : ∀ i j a b, i < n → j < n → i ≠ j → T i = some a → T j = some b → a.block ≠ b.block
theorem cls_of {B : Nat} {w : World} {ao : Option Addr} {n cap m : Nat} {T : Nat → Option Addr} {U : Nat → Nat} {H : Cod.M} (h : Cod.Copied w B n (.slice ao n cap) T (fun _ => m) U H) : Cls B w ao n cap m T U (fun i b => bK (H i b)) :=
  ⟨h.out, fun i hi => by have := h.row i hi; rw [cells_bK] at this; exact this, h.apart⟩
theorem cls_nil (B : Nat) (w : World) (m : Nat) (T : Nat → Option Addr) (U : Nat → Nat) (H : Nat → Nat → UInt8) : Cls B w none 0 0 m T U H := ⟨World.ownsRow_nil _ _ _ _, fun i hi => absurd hi (by omega), fun i _ _ _ hi => absurd hi (by omega)⟩
theorem Cls.below {B : Nat} {w w' : World} {ao : Option Addr} {n cap m : Nat} {T : Nat → Option Addr} {U : Nat → Nat} {H : Nat → Nat → UInt8} (h : Cls B w ao n cap m T U H) (hb : Below w.heap.size w w') : Cls B w' ao n cap m T U H :=
  ⟨owns_below h.out hb, fun i hi => (h.row i hi).below hb, h.apart⟩
theorem Cls.mono {B B' : Nat} {w : World} {ao : Option Addr} {n cap m : Nat} {T : Nat → Option Addr} {U : Nat → Nat} {H : Nat → Nat → UInt8} (h : Cls B w ao n cap m T U H) (hb : B' ≤ B) : Cls B' w ao n cap m T U H := by
  refine ⟨⟨h.out.1, ?_⟩, fun i hi => (h.row i hi).mono hb, h.apart⟩
  rcases h.out.2 with h1 | ⟨g, cap', cur, h1, h2, h3⟩
  · exact .inl h1
  · exact .inr ⟨g, cap', cur, h1, by omega, h3⟩
def AnsC (w : World) (E : Int) (n m : Nat) (H : Nat → Nat → UInt8) (e : Ending) (w' : World) : Prop :=
  ∃ ao cap T U, e = .returned (.tuple #[.slice ao (lenE E n) cap, .int .i64 E]) ∧ Cls w.heap.size w' ao (lenE E n) cap m T U H ∧ Below w.heap.size w w'
/-- The error of a version that can not be read. -/
def erL (k : Nat) (z : Nat → Sl) (N : Nat) : Int := if k ≤ Cod.cnt (Lz z) N then 0 else 5
/-- What all that is held of a version has. -/
structure Zok (N : Nat) (c : Int) (z : Nat → Sl) : Prop where
  dn : ∀ i, i < N → ((z i).ce = 0 ∧ (z i).dn = 0) ∨ ((z i).ce ≠ 0 ∧ (z i).dn = c.toNat)
theorem zok_of {N : Nat} {c : Int} {L : Nat → Nat} {F : Nat → Nat → UInt8} {kd : UInt8} {v : Int} : Zok N c (zv N c L F kd v) := ⟨fun i hi => by
  rcases zz_is (kd := kd) (yy_ok N c L F) (tS (yy N c L F) kd v (2 * N)) hi with h | ⟨h, _⟩
  · unfold zv; rw [h]; exact .inl ⟨rfl, rfl⟩
  · refine .inr ⟨(ok_of h.1).ne, ?_⟩
    have := (ok_of h.1).dn
    unfold zv
    omega⟩
theorem lz_zero {N : Nat} {c : Int} {z : Nat → Sl} (h : Zok N c z) (hc : 8 ≤ c) {i : Nat} (hi : i < N) : Lz z i = 0 ↔ lz z i = 0 := by
  unfold Lz lz
  rcases h.dn i hi with ⟨a, b⟩ | ⟨a, b⟩
  · rw [if_pos a, b]
  · rw [if_neg a, b]; constructor
    · intro e; omega
    · intro e; exact absurd e (by decide)
theorem cnt_ct {N : Nat} {c : Int} {z : Nat → Sl} (h : Zok N c z) (hc : 8 ≤ c) : Cod.cnt (Lz z) N = ct z N ∧ Cod.sel (Lz z) N = Cod.sel (lz z) N := by
  have := Cod.cnt_congr (fun i hi => lz_zero h hc (i := i) hi)
  unfold ct Cod.cnt Cod.sel
  rw [this]; exact ⟨rfl, rfl⟩
set_option maxHeartbeats 1000000 in
/-- What Decode answers to the cells that are there. -/
theorem dec_ans {k r c q : Int} {N W : Nat} (h : Par k r c q N W 0) (z : Nat → Sl) (hz : Zok N c z) (w : World) (lo : Option Addr) (cl : Nat) (T : Nat → Option Addr) (U : Nat → Nat) (hl : Cod.Lst w lo N T U (Lz z) (Hz z)) :
    Calls Tryz.prog 52 #[.int .i64 k, .int .i64 r, .slice lo N cl] w (AnsC w (erL k.toNat z N) N c.toNat (cH k.toNat z N)) := by
  have HD := Cod.Decode_any w k r lo N cl T U (Lz z) (Hz z) hl
  obtain ⟨hc1, hc2⟩ := h.cell rfl
  rcases h with ⟨hm, _, hN, _⟩ | ⟨_, _, _, h0⟩
  · obtain ⟨h1, h2, h3, h4, h5, h6, h7, h8, h9⟩ := may_true hm
    have hL : ∀ i, i < N → Lz z i = 0 ∨ Lz z i = c.toNat := fun i hi => by
      rcases hz.dn i hi with ⟨_, a⟩ | ⟨_, a⟩
      · exact .inl a
      · exact .inr a
    obtain ⟨g1, g2⟩ := Cod.okT_of (show c.toNat ≠ 0 by omega) (by omega) hL
    have e1 : Cod.mayB k r = true := decide_eq_true (by omega)
    have e2 : Cod.okC N (Lz z) (k + r) = true := by unfold Cod.okC; rw [g1]; simp; omega
    have e3 : k.toNat + r.toNat = N := by omega
    rw [e1, e2, e3] at HD
    unfold AnsC erL
    by_cases hk : k.toNat ≤ Cod.cnt (Lz z) N
    · have e4 : Cod.okDec N (Lz z) k r = true := by unfold Cod.okDec; rw [e1, e2]; simp; omega
      have e5 : Cod.len0 (Lz z) N = c.toNat := by
        rcases Cod.len0_sel (Lz z) N with ⟨e, _⟩ | ⟨_, _, e⟩
        · omega
        · exact g2.resolve_left e
      rw [e4, e5] at HD
      rw [if_pos hk]
      refine HD.mono ?_
      rintro e w' ⟨ao, cap, T', U', rfl, hcop, hb⟩
      exact ⟨ao, cap, T', U', rfl, cls_of hcop, hb⟩
    · have e4 : Cod.okDec N (Lz z) k r = false := by unfold Cod.okDec; rw [decide_eq_false (by omega)]; simp
      rw [e4] at HD
      rw [if_neg hk]
      refine HD.mono ?_
      rintro e w' ⟨ao, cap, T', U', rfl, hcop, hb⟩
      have hn : ao = none ∧ cap = 0 ∨ True := .inr trivial
      refine ⟨ao, cap, T', U', rfl, ⟨hcop.out, fun i hi => absurd hi (by show ¬ i < 0; omega), fun i _ _ _ hi => absurd hi (by show ¬ i < 0; omega)⟩, hb⟩
  · exact absurd h0 (by decide)
set_option maxHeartbeats 4000000 in
set_option maxRecDepth 100000 in
theorem cells_any {k r c q : Int} {N W : Nat} (h : Par k r c q N W 0) (w : World) (ro : Option Addr) (rc : Nat) (A : Nat → Option Addr) (L C : Nat → Nat) (F : Nat → Nat → UInt8) (hr : Rw w ro N A L C F) (hL : ∀ j, j < 2 * N → L j = 0 ∨ L j = sz N c) (kd : UInt8) (hk : kd = 1 ∨ kd = 2) (v : Int) :
    Calls Tryz.prog 26 #[stv k r c q ro N rc kd, .int .i64 v] w (AnsC w (erL k.toNat (zv N c L F kd v) N) N c.toNat (cH k.toNat (zv N c L F kd v) N)) := by
  have hle := h.le
  obtain ⟨z, hz⟩ : ∃ z, z = zv N c L F kd v := ⟨_, rfl⟩
  have HEA : Hid (∀ wf gp, Below w.heap.size w wf → Cap w wf gp 45 32 1 0 [] (fun x => x = gp) → Calls Tryz.prog 24 #[stv k r c q ro N rc kd, .int .i64 v, .func (.func 51) #[] #[.pointer (some ⟨gp, 0, none⟩)]] wf fun e w' => e = .returned (.tuple #[]) ∧ ∃ Y, Thr w gp z N w' Y ∧ Only (fun x => x = gp) wf w' ∧ ∀ g, Y g → g = gp ∨ wf.heap.size ≤ g) := fun wf gp hb hc => by
    rw [hz]
    refine each_any h w wf hb ro rc A L C F hr hL kd hk v _ rfl 51 _ (Thr w gp (zv N c L F kd v)) ⟨fun _ _ => rfl, fun d a b Y hI hb => ?_, fun d a Y hI g hg => ?_, fun d hd u Y B hI _ hB ao ca bo cb hg => ?_⟩ _ ⟨fun _ => none, fun _ => 0, hc, fun i hi => absurd hi (by omega)⟩
    · obtain ⟨T, U, h1, h2⟩ := hI
      exact ⟨T, U, h1.below hb, fun i hi => (h2 i hi).below hb⟩
    · obtain ⟨T, U, h1, _⟩ := hI
      exact h1.at_ g hg
    · exact cells1_any w u gp d B (zv N c L F kd v) Y _ _ _ (by omega) ao ca bo cb hI hg.bec hB
  have HDD : Hid (∀ u lo cl T U, Cod.Lst u lo N T U (Lz z) (Hz z) → Calls Tryz.prog 52 #[.int .i64 k, .int .i64 r, .slice lo N cl] u (AnsC u (erL k.toNat z N) N c.toNat (cH k.toNat z N))) := fun u lo cl T U hl => dec_ans h z (by rw [hz]; exact zok_of) u lo cl T U hl
  rw [← hz]
  obtain ⟨w0, hw0⟩ : ∃ w0, w0 = w.alloc (.cells #[.int .i64 k, .int .i64 r, .int .i64 c, .int .i64 q, .slice ro N rc, .int .u8 ((kd.toNat : Nat) : Int)] 69) := ⟨_, rfl⟩
  obtain ⟨w1, hw1⟩ : ∃ w1, w1 = w0.alloc (.cells #[.slice none 0 0] 45) := ⟨_, rfl⟩
  have b0 : Below w.heap.size w w0 := by rw [hw0]; exact below_alloc _ _
  have z0 : w0.heap.size = w.heap.size + 1 := by rw [hw0]; simp
  have b1 : Below w.heap.size w w1 := by rw [hw1]; exact below_then b0 (below_alloc _ _)
  have hE2 := HEA.out w1 (w.heap.size + 1) b1 (cap_new b0 hw1 z0)
  have HB1 : Hid (Below w.heap.size w w1) := b1
  have L0 : Hid (At w w1 w.heap.size #[.int .i64 k, .int .i64 r, .int .i64 c, .int .i64 q, .slice ro N rc, .int .u8 ((kd.toNat : Nat) : Int)] 69) := (at_made (Below.refl _ _) hw0).below (by rw [hw1]; exact below_alloc _ _)
  clear h hr hL hk hz b0 b1 z0 HEA
  unfold AnsC at HDD ⊢
  unfold stv at hE2 ⊢
  go_enter Tryz.func26, Tryz.ntmps26
  go_wp2_with fail
  rw [← hw0, ← hw1]
  clear hw0 hw1
  refine hE2.mono ?_
  rintro e wf ⟨rfl, Y, ⟨T, U, ⟨ao, cap, hAt, hown, _⟩, hT⟩, hO, _⟩
  have q0 : At w wf w.heap.size _ 69 := L0.out.only hO (by omega)
  have p0 := q0.cell (i := 0) rfl
  have p1 := q0.cell (i := 1) rfl
  have s0 := hAt.cell (i := 0) rfl
  have hD := HDD.out wf ao cap T U (Cod.owns_lst hown (fun i hi => rd_toK (hT i hi).bec.rd))
  have HBF : Hid (Below w.heap.size w wf) := HB1.out.trans (hO.below (fun i hi => by omega) HB1.out.size)
  clear hO hAt hown hT q0
  go_wp2_with fail
  refine hD.mono ?_
  rintro e wd ⟨ao', cap', T', U', rfl, hc', hb'⟩
  go_wp2_with fail
  go_ret2
  exact ⟨ao', cap', T', U', rfl, hc'.mono HBF.out.size, below_then HBF.out hb'⟩
end Go.Proofs.YtfhefbbhlmdjkaaGreat
