/- What Dot of the program answers, whatever numbers and slices: the sum of multiples, or the error. -/
import Derived.Test.YthkikocacbbhkaaKerE
namespace Go.Proofs.Ythkikocacbbhkaa.Ker
open Go.RowKit

/-- A list of ll slices that begins at lo: slice i lies at A i, has L i bytes, reads as H i. -/
structure Lst (w : World) (lo : Option Addr) (ll : Nat) (A : Nat → Option Addr) (C L : Nat → Nat) (H : Nat → Nat → Nat) : Prop where
  rd : ∀ i, i < ll → Rd w (A i) (L i) (H i)
  at_ : 0 < ll → ∃ b off, lo = some ⟨b, off, none⟩ ∧ ∀ i, i < ll → w.cell? ⟨b, off + i, none⟩ = some (.slice (A i) (L i) (C i))
theorem Lst.below {w w' : World} {lo : Option Addr} {ll : Nat} {A : Nat → Option Addr} {C L : Nat → Nat} {H : Nat → Nat → Nat} (h : Lst w lo ll A C L H) (hb : Below w.heap.size w w') : Lst w' lo ll A C L H := by
  refine ⟨fun i hi => (h.rd i hi).below hb, fun hp => ?_⟩
  obtain ⟨b, off, rfl, hc⟩ := h.at_ hp
  exact ⟨b, off, rfl, fun i hi => (hb.cell (World.block_lt_of_cell? w _ (hc i hi))).trans (hc i hi)⟩

def okL (lc ll : Nat) (L : Nat → Nat) : Bool := decide (lc ≤ 16 ∧ ll = lc ∧ ∀ i, i < ll → L i ≤ 65536 ∧ L i = L 0)
def n0 (ll : Nat) (L : Nat → Nat) : Nat := if ll = 0 then 0 else L 0
theorem okL_true {lc ll : Nat} {L : Nat → Nat} (h : okL lc ll L = true) : lc ≤ 16 ∧ ll = lc ∧ ∀ i, i < ll → L i ≤ 65536 ∧ L i = L 0 := of_decide_eq_true h
theorem okL_false {lc ll : Nat} {L : Nat → Nat} (h : okL lc ll L = false) (h1 : lc ≤ 16) (h2 : ll = lc) : 0 < ll ∧ (65536 < L 0 ∨ ∃ j, j < ll ∧ L j ≠ L 0) := by
  have h3 := of_decide_eq_false h
  have h4 : ¬ ∀ i, i < ll → L i ≤ 65536 ∧ L i = L 0 := fun g => h3 ⟨h1, h2, g⟩
  obtain ⟨i, hi⟩ := Classical.not_forall.1 h4
  obtain ⟨h5, h6⟩ := Classical.not_imp.1 hi
  refine ⟨by omega, ?_⟩
  by_cases h7 : L i = L 0
  · left
    by_cases h8 : L i ≤ 65536
    · exact absurd ⟨h8, h7⟩ h6
    · omega
  · exact .inr ⟨i, h5, h7⟩

/-- The cells of the terms, k of them laid. -/
def tc (F : Nat → Nat) (A : Nat → Option Addr) (C L : Nat → Nat) (k j : Nat) : Value :=
  if j / 2 < k then (if j % 2 = 0 then .int .u8 (F (j / 2) : Int) else .slice (A (j / 2)) (L (j / 2)) (C (j / 2))) else (if j % 2 = 0 then .int .u8 0 else .slice none 0 0)
theorem tc_set {F : Nat → Nat} {A : Nat → Option Addr} {C L : Nat → Nat} {k j : Nat} :
    (if j = k * 2 + 1 then Value.slice (A k) (L k) (C k) else if j = k * 2 then .int .u8 (F k : Int) else tc F A C L k j) = tc F A C L (k + 1) j := by
  by_cases h1 : j = k * 2 + 1
  · subst h1
    have e1 : (k * 2 + 1) / 2 = k := by omega
    have e2 : ¬ (k * 2 + 1) % 2 = 0 := by omega
    rw [if_pos rfl, tc, e1, if_pos (by omega), if_neg e2]
  · rw [if_neg h1]
    by_cases h2 : j = k * 2
    · subst h2
      have e1 : k * 2 / 2 = k := by omega
      have e2 : k * 2 % 2 = 0 := by omega
      rw [if_pos rfl, tc, e1, if_pos (by omega), if_pos e2]
    · rw [if_neg h2]
      by_cases h3 : j / 2 < k
      · have h4 : j / 2 < k + 1 := by omega
        simp only [tc, h3, h4, if_true]
      · have h4 : ¬ j / 2 < k + 1 := by omega
        simp only [tc, h3, h4, if_false]
theorem tc_row {w : World} {B n k : Nat} {F : Nat → Nat} {A : Nat → Option Addr} {C L : Nat → Nat} (h : w.rowIs B 62 n (tc F A C L k)) :
    ((w.setCell ⟨B, k * 2, none⟩ (.int .u8 (F k : Int))).setCell ⟨B, k * 2 + 1, none⟩ (.slice (A k) (L k) (C k))).rowIs B 62 n (tc F A C L (k + 1)) :=
  ((h.set (k * 2) _).set (k * 2 + 1) _).congr fun _ _ => tc_set
theorem tc_made (w : World) (F : Nat → Nat) (A : Nat → Option Addr) (C L : Nat → Nat) (m : Nat) :
    (w.alloc (.cells (madeCells #[.int .u8 0, .slice none 0 0] (m * 2)) 62)).rowIs w.heap.size 62 (m * 2) (tc F A C L 0) := by
  refine ⟨_, heap_alloc_new w _, size_madeCells _ _, fun i hi => ?_⟩
  rw [tc, if_neg (by omega)]
  rcases Nat.mod_two_eq_zero_or_one i with h | h
  · simp [madeCells, hi, h]
  · simp [madeCells, hi, h]

theorem info45 : (Try.prog.info? 62).map (fun i => (i.zero, i.size, i.bytes)) = some (some (.agg #[.int .u8 0, .slice none 0 0]), 2, 32) := by kernel_rfl
theorem make_terms (n : Nat) (hn : n ≤ 1000) (w : World) :
    (Instr.makeSlice 60 (.int .i64 (n : Int)) (.int .i64 (n : Int))).run Try.prog w = .ok (.slice (some ⟨w.heap.size, 0, none⟩) n n) (w.alloc (.cells (madeCells #[.int .u8 0, .slice none 0 0] (n * 2)) 62)) := by
  obtain ⟨i, hi, hz0, hz1, hz2⟩ := info_parts info45
  have := run_make (P := Try.prog) w 60 62 i _ Try.underlying60 hi hz0 .i64 .i64 (n : Int) (n : Int) (by omega) (Int.le_refl _) (by rw [hz2]; omega) (by omega)
  rw [hz1, Int.toNat_natCast] at this
  exact this

theorem terms_of {w wr : World} {m : Nat} {F : Nat → Nat} {A : Nat → Option Addr} {C L : Nat → Nat} {H : Nat → Nat → Nat} {lo : Option Addr}
    (hrow : wr.rowIs w.heap.size 62 (m * 2) (tc F A C L m)) (ho : Only w.heap.size w wr) (hF : ∀ i, F i < 256) (hl : Lst w lo m A C L H) : Terms wr w.heap.size m F A C L H := by
  refine ⟨hrow.lt, hF, fun i hi => (hl.rd i hi).only ho fun hp => (hl.rd i hi).off (Nat.le_refl _) hp, fun i hi => ?_, fun i hi => ?_⟩
  · rw [hrow.cell (by omega)]
    have e1 : i * 2 / 2 = i := by omega
    have e2 : i * 2 % 2 = 0 := by omega
    rw [tc, e1, if_pos hi, if_pos e2]
  · rw [hrow.cell (by omega)]
    have e1 : (i * 2 + 1) / 2 = i := by omega
    have e2 : ¬ (i * 2 + 1) % 2 = 0 := by omega
    rw [tc, e1, if_pos hi, if_neg e2]
theorem sum_made (w wr : World) (m : Nat) (F : Nat → Nat) (A : Nat → Option Addr) (C L : Nat → Nat) (H : Nat → Nat → Nat) (ok : Bool) (N : Nat) (hm : m ≤ 16) (t : Terms wr w.heap.size m F A C L H)
    (ho : Only w.heap.size w wr) (hok : okL m m L = ok) (hN : N = n0 m L) :
    Calls Try.prog 36 #[.slice (some ⟨w.heap.size, 0, none⟩) m m] wr (Made w ok N (tot F H m)) := by
  subst hN
  have hbel : Below w.heap.size w wr := ho.below (Nat.le_refl _) (Nat.le_refl _)
  cases ok
  · obtain ⟨h0, hb⟩ := okL_false hok hm rfl
    refine (sum_bad _ _ _ m _ _ _ _ _ t (by omega) h0 hb).mono ?_
    rintro e w' ⟨rfl, rfl⟩
    exact ⟨none, rfl, .inl ⟨rfl, rfl, tot_lt F H t.num m⟩, hbel⟩
  · obtain ⟨_, _, hL⟩ := okL_true hok
    have hn : n0 m L ≤ 65536 := by
      unfold n0; split
      · decide
      · exact (hL 0 (by omega)).1
    refine (sum_ok _ _ _ m (n0 m L) _ _ _ _ _ t (by omega) hn (fun i hi => by rw [n0, if_neg (by omega)]; exact (hL i hi).2) (fun h => by rw [n0, if_pos h])).mono ?_
    rintro e w' ⟨rfl, ho', hb'⟩
    exact ⟨_, rfl, .inr ⟨_, rfl, hbel.size, ho'⟩, below_step hbel hb' hbel.size⟩

set_option maxHeartbeats 1000000 in
set_option maxRecDepth 100000 in
theorem dot_any (w : World) (co lo : Option Addr) (lc cc ll cl : Nat) (F : Nat → Nat) (A : Nat → Option Addr) (C L : Nat → Nat) (H : Nat → Nat → Nat)
    (hlc : lc ≤ 1000000) (hll : ll ≤ 1000000) (hc : Rd w co lc F) (hl : Lst w lo ll A C L H) :
    Calls Try.prog 21 #[.slice co lc cc, .slice lo ll cl] w (Made w (okL lc ll L) (n0 ll L) (tot F H ll)) := by
  have HC : Hid (Rd w co lc F) := hc
  have HL : Hid (Lst w lo ll A C L H) := hl
  clear hc hl
  by_cases h1 : lc ≤ 16
  · by_cases h2 : ll = lc
    · subst h2
      obtain ⟨ok, hok⟩ : ∃ ok, ok = okL ll ll L := ⟨_, rfl⟩
      have HK : Hid (okL ll ll L = ok) := hok.symm
      rw [← hok]
      clear hok
      obtain ⟨N, hN⟩ : ∃ N, N = n0 ll L := ⟨_, rfl⟩
      have HN : Hid (N = n0 ll L) := hN
      rw [← hN]
      clear hN
      have hmk := make_terms ll (by omega)
      have hbq : ((ll : Int) == (ll : Int)) = true := by simp
      go_enter Try.func21, Try.ntmps21
      go_wp2
      go_loopw [23] (fun i wr => ∃ k : Nat, k ≤ ll ∧ i = .int .i64 k ∧ Hid (wr.rowIs w.heap.size 62 (ll * 2) (tc F A C L k)) ∧ Hid (Only w.heap.size w wr)) (fun i _ => ll - (intOf i).toNat)
      case atStart => exact ⟨0, Nat.zero_le _, rfl, tc_made w F A C L ll, (Only.refl _ w).alloc _⟩
      case round =>
        obtain ⟨k, hk, rfl, hrow, honly⟩ := hrel
        by_cases hlt : k < ll
        · obtain ⟨b, off, rfl, hcc⟩ := HC.out.2 (by omega)
          obtain ⟨b', off', rfl, hcl⟩ := HL.out.at_ (by omega)
          have hb1 := World.block_lt_of_cell? w _ (hcc k hlt)
          have hb2 := World.block_lt_of_cell? w _ (hcl k hlt)
          have c1 : wr.cell? ⟨b, off + k, none⟩ = some (.int .u8 (F k : Int)) := honly.out.cell (hcc k hlt) (by simp at hb1 ⊢; omega)
          have c2 : wr.cell? ⟨b', off' + k, none⟩ = some (.slice (A k) (L k) (C k)) := honly.out.cell (hcl k hlt) (by simp at hb2 ⊢; omega)
          have c3 := hrow.out.cell (i := k * 2) (by omega)
          have c4 := hrow.out.cell (i := k * 2 + 1) (by omega)
          have z3 := hrow.out.frozen (k * 2)
          have z4 := hrow.out.frozen (k * 2 + 1)
          clear hcc hcl
          have i1 : (0 : Int) ≤ (k : Int) := by omega
          have i2 : (k : Int) < (ll : Int) := by omega
          go_wp2
          refine wp_region_still_tail 12 (by kernel_rfl) (by kernel_rfl) ?_
          simp only [List.take_succ_cons, List.take_zero, List.drop_succ_cons, List.drop_zero]
          repeat still_step
          refine wpStill_nil ?_
          go_wp2
          go_roundw
          case rel => exact ⟨k + 1, by omega, by go_num, tc_row hrow.out, ((honly.out.setCell (k * 2) _).setCell (k * 2 + 1) _).drew⟩
          case measure => simp [intOf]; omega
        · obtain rfl : k = ll := by omega
          have t : Terms wr w.heap.size k F A C L H := terms_of hrow.out honly.out HC.out.1 HL.out
          have HS := sum_made w wr k F A C L H ok N (by omega) t honly.out HK.out HN.out
          clear t
          go_wp2_with (go_at_call 36; refine HS.mono ?_; rintro e w' ⟨ro, rfl, hans, hbel⟩)
          go_ret2
          exact ⟨ro, rfl, hans, hbel⟩
    · have hbq : ((ll : Int) != (lc : Int)) = true := by simp; omega
      have hok : okL lc ll L = false := decide_eq_false fun h => h2 h.2.1
      rw [hok]
      go_enter Try.func21, Try.ntmps21
      go_wp2
      go_ret2
      exact ⟨none, rfl, .inl ⟨rfl, rfl, tot_lt F H HC.out.1 ll⟩, Below.refl _ _⟩
  · have hok : okL lc ll L = false := decide_eq_false fun h => h1 h.1
    rw [hok]
    go_enter Try.func21, Try.ntmps21
    go_wp2
    go_ret2
    exact ⟨none, rfl, .inl ⟨rfl, rfl, tot_lt F H HC.out.1 ll⟩, Below.refl _ _⟩
end Go.Proofs.Ythkikocacbbhkaa.Ker
