/- The walk of the statement that any k rows of the unit matrix and the parity rows can be undone. -/
import Derived.Test.YtpfpldmmdbgnnaaMatN
namespace Go.Proofs.Ytpfpldmmdbgnnaa
open Go.RowKit

theorem info4 : (Try.prog.info? 4).map (fun i => (i.zero, i.size, i.bytes)) = some (some (.bool false), 1, 1) := by kernel_rfl
theorem info3 : (Try.prog.info? 3).map (fun i => (i.zero, i.size, i.bytes)) = some (some (.int .i64 0), 1, 8) := by kernel_rfl
theorem mat_of {w : World} {n cols : Nat} {H : M} {err : Int} {e : Ending} {w' : World} (h : Made w true err n cols H e w') (hn : 0 < n) :
    ∃ l cap G U, e = .returned (.tuple #[.slice (some ⟨l, 0, none⟩) n cap, .int .i64 0]) ∧ Mat w' w.heap.size w'.heap.size l cap n cols G U H ∧ Below w.heap.size w w' := by
  obtain ⟨ao, cap, rfl, ha, hb⟩ := h
  rcases ha with ⟨_, h0, _⟩ | ⟨l, G, U, rfl, hm⟩
  · exact absurd (show n = 0 from h0) (by omega)
  · exact ⟨l, cap, G, U, rfl, hm, hb⟩
set_option maxHeartbeats 400000 in
set_option maxRecDepth 100000 in
theorem one_mat (w : World) (m : Nat) (h1 : 1 ≤ m) (h2 : m ≤ 32) : Calls Try.prog 10 #[.int .i64 (m : Int)] w fun e w' => ∃ l G U, e = .returned (.tuple #[.slice (some ⟨l, 0, none⟩) m m, .int .i64 0]) ∧ Mat w' w.heap.size w'.heap.size l m m m G U one ∧ Below w.heap.size w w' := by
  have W1 := within_any w (m : Int) 32
  rw [show decide (1 ≤ (m : Int) ∧ (m : Int) ≤ 32) = true from decide_eq_true (by omega)] at W1
  have HMD := made_any w m m 35 #[] one (by omega) (by omega) (fun _ _ => rfl) (rule_unit w m m)
  go_enter Try.func10, Try.ntmps10
  go_wp2_with fail
  refine W1.mono ?_
  rintro e w' ⟨rfl, hw'⟩
  obtain rfl := hw'.symm
  go_wp2_with fail
  refine HMD.mono ?_
  rintro e w1 ⟨l, G, U, rfl, hm, hb⟩
  go_wp2_with fail
  go_ret2
  exact ⟨l, G, U, rfl, hm, hb⟩

def join {α : Type} (k : Nat) (f h : Nat → α) (i : Nat) : α := if i < k then f i else h (i - k)
/-- Two matrices, one behind the other, in one list. -/
theorem joined {w w' : World} {B B' T T' l l' cl cl' k r cols g cap : Nat} {G U G' U' : Nat → Nat} {H H' : M} (h : Mat w B T l cl k cols G U H) (h' : Mat w B' T' l' cl' r cols G' U' H') (hl : ∀ i, i < r → G' i ≠ l)
    (hown : w'.ownsRow B 34 1 (.slice (some ⟨g, 0, none⟩) (k + r) cap) (k + r) (rowsOf k (fun i => some ⟨G i, 0, none⟩) (fun _ => cols) U ++ rowsOf r (fun i => some ⟨G' i, 0, none⟩) (fun _ => cols) U')) (hg : w.grownBy w' (some l)) :
    Lst w' (some ⟨g, 0, none⟩) (k + r) (join k (fun i => some ⟨G i, 0, none⟩) (fun i => some ⟨G' i, 0, none⟩)) (join k U U') (fun _ => cols) (fun i j => if i < k then H i j else H' (i - k) j) := by
  refine ⟨fun i hi => ?_, fun _ => ⟨g, 0, rfl, fun i hi => ?_⟩⟩
  · unfold join
    by_cases e : i < k
    · rw [if_pos e]
      have hr := h.row i e
      exact ((hr.of_block (hg.block (G i) hr.lt (fun e' => h.ne_l e (Option.some.inj e')))).rd).congr fun j _ => (if_pos e).symm
    · rw [if_neg e]
      have hi' : i - k < r := by omega
      have hr := h'.row (i - k) hi'
      exact ((hr.of_block (hg.block (G' (i - k)) hr.lt (fun e' => hl _ hi' (Option.some.inj e')))).rd).congr fun j _ => (if_neg e).symm
  · have hget : (rowsOf k (fun i => some ⟨G i, 0, none⟩) (fun _ => cols) U ++ rowsOf r (fun i => some ⟨G' i, 0, none⟩) (fun _ => cols) U')[i]? = some (.slice (join k (fun i => some ⟨G i, 0, none⟩) (fun i => some ⟨G' i, 0, none⟩) i) cols (join k U U' i)) := by
      unfold join
      by_cases e : i < k
      · rw [List.getElem?_append_left (by rw [rowsOf_length]; exact e), rowsOf_get _ _ _ _ _ e, if_pos e, if_pos e]
      · rw [List.getElem?_append_right (by rw [rowsOf_length]; omega), rowsOf_length, rowsOf_get _ _ _ _ _ (by omega), if_neg e, if_neg e]
    have := hown.cells (g := g) rfl i _ hget
    rw [Addr.add_lit] at this
    exact this

theorem RdI.lt {w : World} {ao : Option Addr} {n : Nat} {R : Nat → Int} (h : RdI w ao n R) (hn : 0 < n) : ∀ a, ao = some a → a.block < w.heap.size := by
  obtain ⟨b, off, rfl, hc⟩ := h hn
  rintro a ⟨⟩
  exact World.block_lt_of_cell? w _ (hc 0 hn)
theorem Keeps.grown {B T : Nat} {a w w' : World} {row : Option Nat} (h : Keeps B T a w) (hg : w.grownBy w' row) (hr : ∀ k, row = some k → a.heap.size ≤ k) : Keeps B T a w' :=
  ⟨hg.os.trans h.os, hg.tape.trans h.tape, hg.output.trans h.output, Nat.le_trans h.size hg.size, fun k hk hb => (hg.block k (Nat.lt_of_lt_of_le hk h.size) fun e => by have := hr k e.symm; omega).trans (h.block k hk hb)⟩
theorem grown_set (w : World) (g i : Nat) (v : Value) : w.grownBy (w.setCell ⟨g, i, none⟩ v) (some g) := ⟨rfl, rfl, rfl, by simp [World.setCell], fun k _ hne => Below.heap_setCell _ _ _ _ (fun e => hne (by rw [e]))⟩
theorem size_set (w : World) (a : Addr) (v : Value) : (w.setCell a v).heap.size = w.heap.size := by simp [World.setCell]
theorem owns_old {w : World} {base e n g : Nat} {v : Value} {xs : List Value} (h : w.ownsRow base e 1 v n xs) (hg : g < base) : v.ownBlock = none ∨ v.ownBlock ≠ some g := by
  cases hv : v.ownBlock with
  | none => exact .inl rfl
  | some b => right; intro e; have := (h.lt b hv).1; have := Option.some.inj e; omega
/-- Which numbers have been met. -/
def met (t : Nat) (R : Nat → Nat) (x : Nat) : Value := .bool (decide (∃ s, s < t ∧ R s = x))
theorem nextOf (x : Int) (k r : Nat) (hk : 1 ≤ k) : ∃ n : Nat, n < k + r ∧ (x.tmod ((k : Int) + (r : Int)) + (k : Int) + (r : Int)).tmod ((k : Int) + (r : Int)) = (n : Int) ∧ -((k : Int) + (r : Int)) < x.tmod ((k : Int) + (r : Int)) ∧ x.tmod ((k : Int) + (r : Int)) < (k : Int) + (r : Int) := by
  have hm : (0 : Int) < (k : Int) + (r : Int) := by omega
  have h1 : x.tmod ((k : Int) + (r : Int)) < (k : Int) + (r : Int) := Int.tmod_lt_of_pos x hm
  have h2 : -((k : Int) + (r : Int)) < x.tmod ((k : Int) + (r : Int)) := by
    have := Int.tmod_lt_of_pos (-x) hm
    rw [Int.neg_tmod] at this
    omega
  have h3 := Int.tmod_nonneg ((k : Int) + (r : Int)) (show 0 ≤ x.tmod ((k : Int) + (r : Int)) + (k : Int) + (r : Int) by omega)
  have h4 := Int.tmod_lt_of_pos (x.tmod ((k : Int) + (r : Int)) + (k : Int) + (r : Int)) hm
  obtain ⟨n, hn⟩ := Int.eq_ofNat_of_zero_le h3
  exact ⟨n, by omega, hn, h2, h1⟩

set_option maxHeartbeats 4000000 in
set_option maxRecDepth 100000 in
theorem code_walk (w : World) (k r : Int) (oo : Option Addr) (lo co : Nat) (O : Nat → Int) (ho : RdI w oo lo O) (hlo : lo ≤ 9223372036854775807) :
    Calls Try.prog 8 #[.int .i64 k, .int .i64 r, .slice oo lo co] w fun e w' => e = .returned (.bool true) ∧ Below w.heap.size w w' := by
  have HO : Hid (RdI w oo lo O) := ho
  clear ho
  have e1 : errB false 2 = 2 := rfl
  have e2 : errB true 2 = 0 := rfl
  go_enter Try.func8, Try.ntmps8
  go_wp2_with fail
  refine (alive_any w).mono ?_
  rintro e w1 ⟨rfl, b1⟩
  replace HO : Hid (RdI w1 oo lo O) := HO.out.below b1
  go_wp2_with fail
  refine (cauchy_any w1 k r).mono ?_
  cases hok : (okN k 12 && okN r 4)
  · rintro e w2 ⟨ao, ac, rfl, _, bn⟩
    have e3 : lenB false r.toNat = 0 := rfl
    replace b1 := below_step b1 bn b1.size
    clear bn
    go_wp2_with fail
    go_ret
    exact ⟨rfl, b1⟩
  · have hk : 1 ≤ k ∧ k ≤ 12 := by
      cases h : okN k 12
      · rw [h] at hok; cases hok
      · exact of_decide_eq_true h
    have hr : 1 ≤ r ∧ r ≤ 4 := by
      cases h : okN r 4
      · rw [h, Bool.and_false] at hok; cases hok
      · exact of_decide_eq_true h
    clear hok
    obtain ⟨k, rfl⟩ := Int.eq_ofNat_of_zero_le (show 0 ≤ k by omega)
    obtain ⟨r, rfl⟩ := Int.eq_ofNat_of_zero_le (show 0 ≤ r by omega)
    rw [Int.toNat_natCast, Int.toNat_natCast]
    intro e w2 hh
    obtain ⟨cl, ccap, Gc, Uc, rfl, hmc, bn⟩ := mat_of hh (by omega)
    have HMC : Hid (Mat w2 w1.heap.size w2.heap.size cl ccap r k Gc Uc (cau k)) := hmc
    replace HO : Hid (RdI w2 oo lo O) := HO.out.below bn
    replace b1 := below_step b1 bn b1.size
    have hs2 := b1.size
    clear hh hmc bn
    go_wp2_with fail
    refine (one_mat w2 k (by omega) (by omega)).mono ?_
    rintro e w3 ⟨l1, G1, U1, rfl, hm1, bn⟩
    have HM1 : Hid (Mat w3 w2.heap.size w3.heap.size l1 k k k G1 U1 one) := hm1
    have HLL : Hid (∀ i, i < r → Gc i ≠ l1) := fun i hi e => by
      have a1 := (HMC.out.row i hi).lt
      have a2 := hm1.lo
      omega
    replace HMC : Hid (Mat w3 w1.heap.size w2.heap.size cl ccap r k Gc Uc (cau k)) := HMC.out.below bn
    have b23 := bn
    clear hm1 bn
    have hbq : ((r : Int) != (r : Int)) = false := by simp
    obtain ⟨j0, hj, hj0, hj1, hj2⟩ := info_parts info34
    obtain ⟨i0, hi, hi0, hi1, hi2⟩ := info_parts info3
    obtain ⟨XS, hXS⟩ : ∃ X, X = rowsOf k (fun i => some ⟨G1 i, 0, none⟩) (fun _ => k) U1 := ⟨_, rfl⟩
    obtain ⟨YS, hYS⟩ : ∃ Y, Y = rowsOf r (fun i => some ⟨Gc i, 0, none⟩) (fun _ => k) Uc := ⟨_, rfl⟩
    have HOWN : Hid (w3.ownsRow w2.heap.size 34 1 (.slice (some ⟨l1, 0, none⟩) k k) k XS) := by rw [hXS]; exact HM1.out.owns (by unfold maxLen; omega)
    have HNEW : Hid (∀ j u, YS[j]? = some u → w3.cell? ((⟨cl, 0, none⟩ : Addr).add j) = some u) := fun j u hu => by
      have hjr : j < r := by rw [hYS] at hu; exact list_lt (rowsOf_length _ _ _ _) hu
      rw [hYS, rowsOf_get _ _ _ _ _ hjr] at hu
      rw [Addr.add_lit, Nat.zero_add, HMC.out.cell_l hjr]
      exact hu
    have HYL : Hid (YS.length = r) := by rw [hYS]; exact rowsOf_length _ _ _ _
    have HY1 : Hid (∀ u ∈ YS, u.oneCell' = true) := by rw [hYS]; exact rowsOf_one _ _ _ _
    have HXY : Hid (XS = rowsOf k (fun i => some ⟨G1 i, 0, none⟩) (fun _ => k) U1 ∧ YS = rowsOf r (fun i => some ⟨Gc i, 0, none⟩) (fun _ => k) Uc) := ⟨hXS, hYS⟩
    clear hXS hYS
    have hmk := run_make_row' (P := Try.prog) 45 4 (.bool false) 1 Try.underlying45 info4 rfl .i64 .i64 (k + r) (by omega) (by omega)
    rw [Int.natCast_add] at hmk
    have HMK : Hid (∀ w, (Instr.makeSlice 45 (.int .i64 ((k : Int) + (r : Int))) (.int .i64 ((k : Int) + (r : Int)))).run Try.prog w = .ok (.slice (some ⟨w.heap.size, 0, none⟩) (k + r) (k + r)) (w.alloc (.cells (madeCells #[.bool false] (k + r)) 4))) := hmk
    clear hmk
    go_wp2_with (first
      | (at_builtin; refine wpList_append_lies _ (by rfl) (.tmp 45) (.tmp 46) 23 (by rfl) w2.heap.size 34 j0 (.slice none 0 0) 1 24 Try.underlying23 hj hj0 hj1 hj2 (by rfl) (by decide) (.slice (some ⟨l1, 0, none⟩) k k) k XS (by rfl) HOWN.out ⟨cl, 0, none⟩ r ccap YS (by rfl) (by rw [HYL.out, Nat.mul_one]) HNEW.out HY1.out (by omega) (by unfold maxLen; omega) (by omega) (by have := HM1.out.lt_l; have := HM1.out.lo; omega) w3.heap.size rfl ?_; intro g4 cap4 w4 hown4 hgrow4 _ _
         have HALL : Hid (∃ A C, Lst w4 (some ⟨g4, 0, none⟩) (k + r) A C (fun _ => k) (gen k)) := ⟨_, _, joined HM1.out HMC.out HLL.out (by rw [← HXY.out.1, ← HXY.out.2]; exact hown4) hgrow4⟩
         have bn4 : Below w2.heap.size w3 w4 := grown_below hgrow4 (by have := HM1.out.lt_l; have := HM1.out.lo; omega) (fun q hq => by cases hq; exact HM1.out.lo)
         have bn24 : Below w2.heap.size w2 w4 := b23.trans bn4
         have hmk := HMK.out w4
         obtain ⟨wm, hwm⟩ : ∃ wm, wm = w4.alloc (.cells (madeCells #[.bool false] (k + r)) 4) := ⟨_, rfl⟩
         rw [← hwm] at hmk
         clear hown4 hgrow4 HMK))
    rw [← hwm]
    have hrow0 : wm.rowIs w4.heap.size 4 (k + r) (fun _ => .bool false) := by rw [hwm]; exact row_made w4 4 (k + r) _
    have bnm : Below w4.heap.size w4 wm := by rw [hwm]; exact below_alloc _ _
    have HO5 : Hid (RdI wm oo lo O) := (HO.out.below bn24).below bnm
    have HAL5 : Hid (∃ A C, Lst wm (some ⟨g4, 0, none⟩) (k + r) A C (fun _ => k) (gen k)) := by
      obtain ⟨A, C, h⟩ := HALL.out
      exact ⟨A, C, h.below bnm⟩
    have b5 : Below w.heap.size w wm := below_step (below_step b1 bn24 b1.size) bnm (by have := b1.size; have := bn24.size; omega)
    have hsz : w4.heap.size < wm.heap.size := hrow0.lt
    have HR0 : Hid (wm.rowIs w4.heap.size 4 (k + r) (fun _ => .bool false)) := hrow0
    have HB45 : Hid (Below w4.heap.size w4 wm) := bnm
    have hgw : w.heap.size ≤ w4.heap.size := Nat.le_trans b1.size bn24.size
    have HOB : Hid (0 < lo → ∀ a, oo = some a → a.block < w4.heap.size) := (HO.out.below bn24).lt
    clear hrow0 bnm hwm hmk HO HM1 HMC HLL HOWN HNEW HYL HY1 HXY b23 b1 bn4 bn24 hbq HAL5
    obtain ⟨gm, hgm⟩ : ∃ gm, gm = w4.heap.size := ⟨_, rfl⟩
    have HGM : Hid (w4.heap.size ≤ gm) := (by rw [hgm]; exact Nat.le_refl _)
    rw [← hgm] at HR0 hsz HOB hgw ⊢
    clear hgm
    go_loopw [12, 14] (fun v i wr => ∃ (i' t : Nat) (R : Nat → Nat), i' ≤ lo ∧ t ≤ k ∧ i = .int .i64 i' ∧ (∃ ao cap, v = .slice ao t cap) ∧ Hid (wr.ownsRow wm.heap.size 3 1 v t (intsOf t R)) ∧ Hid (wr.rowIs gm 4 (k + r) (met t R)) ∧ Hid ((∀ s, s < t → R s < k + r) ∧ ∀ a b, a < b → b < t → R a ≠ R b) ∧ Hid (Keeps gm (gm + 1) wm wr)) (fun _ i _ => lo - (intOf i).toNat)
    case atStart => exact ⟨0, 0, fun _ => 0, Nat.zero_le _, Nat.zero_le _, rfl, ⟨none, 0, rfl⟩, World.ownsRow_nil _ _ _ _, HR0.out.congr (fun i _ => by simp [met]), ⟨fun s hs => absurd hs (Nat.not_lt_zero s), fun a b _ hb => absurd hb (Nat.not_lt_zero b)⟩, Keeps.refl _ _ _⟩
    case round =>
      obtain ⟨i, t, R, hilo, ht, rfl, ⟨ao, cap, rfl⟩, hown, hmet, hR, hkeep⟩ := hrel
      by_cases hgo : i < lo ∧ t < k
      · obtain ⟨hil, htk⟩ := hgo
        obtain ⟨b, off, rfl, hco⟩ := HO5.out (by omega)
        have hbg : b < gm := HOB.out (by omega) _ rfl
        have ci : wr.cell? ⟨b, off + i, none⟩ = some (.int .i64 (O i)) := hkeep.out.cell (hco i hil) (.inl hbg)
        obtain ⟨n, hn, hnx, hn1, hn2⟩ := nextOf (O i) k r (by omega)
        clear hco
        have cm := hmet.out.cell hn
        have zm := hmet.out.frozen n
        have j1 : (0 : Int) ≤ (n : Int) := by omega
        have j2 : (n : Int) < ((k + r : Nat) : Int) := by omega
        by_cases hex : ∃ s, s < t ∧ R s = n
        · rw [show met t R n = .bool true by unfold met; rw [decide_eq_true hex]] at cm
          clear hex
          go_wp2_with fail
          go_roundw
          case rel => exact ⟨i + 1, t, R, by omega, ht, by go_num, ⟨ao, cap, rfl⟩, hown, hmet, hR, hkeep⟩
          case measure => simp [intOf]; omega
        · rw [show met t R n = .bool false by unfold met; rw [decide_eq_false hex]] at cm
          have HEX : Hid (¬ ∃ s, s < t ∧ R s = n) := hex
          clear hex
          have hsz2 := size_set wr ⟨gm, n, none⟩ (.bool true)
          have HOW : Hid (∀ o, ((wr.setCell ⟨gm, n, none⟩ (.bool true)).alloc o).ownsRow wm.heap.size 3 1 (.slice ao t cap) t (intsOf t R)) := fun o => (hown.out.kept (grown_set wr gm n _) (owns_old hown.out hsz)).alloc o
          have HNW : Hid (((wr.setCell ⟨gm, n, none⟩ (.bool true)).alloc (.cells #[.int .i64 (n : Int)] 3)).heap[wr.heap.size]? = some (.cells #[.int .i64 (n : Int)] 3 (0, 0))) := by rw [← hsz2]; exact heap_alloc_new _ _
          have hws := hkeep.out.size
          obtain ⟨XS, hXS⟩ : ∃ XS, XS = intsOf t R := ⟨_, rfl⟩
          rw [← hXS] at HOW
          have HXS : Hid (XS = intsOf t R) := hXS
          clear hXS
          go_wp2_with (at_builtin; refine wpList_append_lies _ (by rfl) (.tmp 88) (.tmp 90) 29 (by rfl) wm.heap.size 3 i0 (.int .i64 0) 1 8 Try.underlying29 hi hi0 hi1 hi2 (by rfl) (by decide) (.slice ao t cap) t XS (by rfl) (HOW.out _) ⟨wr.heap.size, 0, none⟩ 1 1 [.int .i64 (n : Int)] (by rfl) (by rfl) (World.news_of_block HNW.out) (by simp [Value.oneCell']) (by decide) (by unfold maxLen; omega) (by omega) (by simp; omega) (wr.heap.size + 1) (by simp) ?_; intro g5 cap5 w5 hown5 hgrow5 _ _)
          have HW5 : Hid (w5.ownsRow wm.heap.size 3 1 (.slice (some ⟨g5, 0, none⟩) (t + 1) cap5) (t + 1) (intsOf (t + 1) (put t n R))) := by rw [intsOf_put, ← HXS.out]; exact hown5
          have HK5 : Hid (Keeps gm (gm + 1) wm w5) := ((hkeep.out.setCell (Nat.le_refl _) (by omega) n _).alloc _).grown hgrow5 (fun q hq => (hown.out.lt q hq).1)
          have HM5 : Hid (w5.rowIs gm 4 (k + r) (met (t + 1) (put t n R))) := by
            have hset := hmet.out.set n (.bool true)
            have h6 := hset.of_block (w' := (wr.setCell ⟨gm, n, none⟩ (.bool true)).alloc (.cells #[.int .i64 (n : Int)] 3)) (Below.heap_alloc _ _ _ hset.lt)
            have h7 := h6.of_block (hgrow5.block gm h6.lt (fun e => by have := (hown.out.lt gm e.symm).1; omega))
            refine h7.congr fun x _ => ?_
            by_cases e : x = n
            · rw [if_pos e, e]; unfold met
              rw [decide_eq_true ⟨t, Nat.lt_succ_self t, put_at t n R⟩]
            · rw [if_neg e]; unfold met
              congr 1
              apply decide_eq_decide.2
              constructor
              · rintro ⟨s, hs, rfl⟩
                exact ⟨s, by omega, put_ne _ _ (by omega)⟩
              · rintro ⟨s, hs, hx⟩
                by_cases e' : s = t
                · rw [e', put_at] at hx; omega
                · rw [put_ne _ _ e'] at hx; exact ⟨s, by omega, hx⟩
          have HR5 : Hid ((∀ s, s < t + 1 → put t n R s < k + r) ∧ ∀ a b, a < b → b < t + 1 → put t n R a ≠ put t n R b) := by
            refine ⟨fun s hs => ?_, fun a b hab hb => ?_⟩
            · by_cases e : s = t
              · rw [e, put_at]; exact hn
              · rw [put_ne _ _ e]; exact hR.out.1 s (by omega)
            · rw [put_ne _ _ (show a ≠ t by omega)]
              by_cases e : b = t
              · rw [e, put_at]; exact fun h => HEX.out ⟨a, by omega, h⟩
              · rw [put_ne _ _ e]; exact hR.out.2 a b hab (by omega)
          clear hown5 hgrow5
          go_wp2_with fail
          go_roundw
          case rel => exact ⟨i + 1, t + 1, put t n R, by omega, by omega, by go_num, ⟨_, _, rfl⟩, HW5, HM5, HR5, HK5⟩
          case measure => simp [intOf]; omega
      · obtain ⟨wx, rfl⟩ : ∃ x, x = wr := ⟨wr, rfl⟩
        by_cases hil : i < lo
        · have htk0 : ¬ (t : Int) < (k : Int) := by omega
          go_wp2_with fail
          go_loopw [12, 16] (fun v i wr => ∃ (n t' : Nat) (Q : Nat → Nat), n ≤ k + r ∧ t ≤ t' ∧ t' ≤ k ∧ i = .int .i64 n ∧ (∃ ao cap, v = .slice ao t' cap) ∧ Hid (wr.ownsRow wm.heap.size 3 1 v t' (intsOf t' Q)) ∧ Hid (wr.rowIs gm 4 (k + r) (met t R)) ∧ Hid ((∀ s, s < t' → Q s < k + r) ∧ (∀ a b, a < b → b < t' → Q a ≠ Q b) ∧ (∀ s, s < t → Q s = R s) ∧ (∀ s, t ≤ s → s < t' → Q s < n) ∧ ∀ x, x < n → ∃ s, s < t' ∧ Q s = x) ∧ Hid (Keeps gm (gm + 1) wm wr)) (fun _ i _ => k + r - (intOf i).toNat)
          case atStart => exact ⟨0, t, R, Nat.zero_le _, Nat.le_refl _, ht, rfl, ⟨ao, cap, rfl⟩, hown.out, hmet.out, ⟨hR.out.1, hR.out.2, fun _ _ => rfl, fun s h1 h2 => by omega, fun x hx => absurd hx (Nat.not_lt_zero x)⟩, hkeep.out⟩
          case round =>
            obtain ⟨n, t', Q, hn, htt, htk, rfl, ⟨ao', cap', rfl⟩, hown', hmet', hQ, hkeep'⟩ := hrel
            by_cases hgo3 : n < k + r ∧ t' < k
            · obtain ⟨_, htk2⟩ := hgo3
              exfalso
              omega
            · have htk3 : t' = k := by
                by_cases h : t' < k
                · have hnn : n = k + r := by omega
                  have := covered hQ.out.2.2.2.2
                  omega
                · omega
              subst htk3
              have HRQ : Hid (RdI wr ao' t' (fun i => (Q i : Int))) := owns_rdI hown'.out
              obtain ⟨A4, C4, h4⟩ := HALL.out
              have HLZ : Hid (Lst wr (some ⟨g4, 0, none⟩) (t' + r) A4 C4 (fun _ => t') (gen t')) := h4.past (h4.below HB45.out) hkeep'.out HGM.out
              have b6 : Below w.heap.size w wr := b5.trans (hkeep'.out.below b5.size hgw)
              have HIV : Hid (Rk t' t' (picked (gen t') fun i => (Q i : Int)) t') := gen_rk t' (t' + r) Q (by omega) hQ.out.1 hQ.out.2.1 (by omega)
              have hpk : okPick (t' + r) (fun _ => t') t' (fun i => (Q i : Int)) = true := by
                unfold okPick
                rw [okM_sq (by omega) (by omega) (by omega) (by omega)]
                exact decide_eq_true ⟨by omega, by omega, fun i hi => ⟨Int.natCast_nonneg _, by have := hQ.out.1 i hi; simp only; omega⟩⟩
              clear h4
              by_cases hnk : n < t' + r
              · have j0' : (n : Int) < (t' : Int) + (r : Int) := by omega
                go_wp2_with fail
                refine (pick_any wr _ _ (t' + r) cap4 t' cap' A4 C4 (fun _ => t') (gen t') _ HLZ.out HRQ.out).mono ?_
                intro e w6 hh
                rw [hpk] at hh
                obtain ⟨po, pc, A6, C6, rfl, hl6, bn⟩ := good_of hh
                have HP6 : Hid (Lst w6 po t' A6 C6 (fun _ => t') (picked (gen t') fun i => (Q i : Int))) := hl6
                replace b6 := below_step b6 bn b6.size
                clear hh hl6 bn
                go_wp2_with fail
                refine (inverse_any w6 po t' pc A6 C6 (fun _ => t') _ HP6.out).mono ?_
                intro e w7 hh
                rw [show okInv t' (fun _ => t') (picked (gen t') fun i => (Q i : Int)) = true by obtain ⟨V, hV⟩ := inv_of_rk HIV.out; exact okInv_of (by omega) (by omega) hV] at hh
                obtain ⟨vo, vc, A7, C7, rfl, _, bn⟩ := good_of hh
                replace b6 := below_step b6 bn b6.size
                clear hh bn
                go_wp2_with fail
                go_ret
                exact ⟨rfl, b6⟩
              · have j0' : ¬ (n : Int) < (t' : Int) + (r : Int) := by omega
                go_wp2_with fail
                refine (pick_any wr _ _ (t' + r) cap4 t' cap' A4 C4 (fun _ => t') (gen t') _ HLZ.out HRQ.out).mono ?_
                intro e w6 hh
                rw [hpk] at hh
                obtain ⟨po, pc, A6, C6, rfl, hl6, bn⟩ := good_of hh
                have HP6 : Hid (Lst w6 po t' A6 C6 (fun _ => t') (picked (gen t') fun i => (Q i : Int))) := hl6
                replace b6 := below_step b6 bn b6.size
                clear hh hl6 bn
                go_wp2_with fail
                refine (inverse_any w6 po t' pc A6 C6 (fun _ => t') _ HP6.out).mono ?_
                intro e w7 hh
                rw [show okInv t' (fun _ => t') (picked (gen t') fun i => (Q i : Int)) = true by obtain ⟨V, hV⟩ := inv_of_rk HIV.out; exact okInv_of (by omega) (by omega) hV] at hh
                obtain ⟨vo, vc, A7, C7, rfl, _, bn⟩ := good_of hh
                replace b6 := below_step b6 bn b6.size
                clear hh bn
                go_wp2_with fail
                go_ret
                exact ⟨rfl, b6⟩
        · go_wp2_with fail
          go_loopw [12, 16] (fun v i wr => ∃ (n t' : Nat) (Q : Nat → Nat), n ≤ k + r ∧ t ≤ t' ∧ t' ≤ k ∧ i = .int .i64 n ∧ (∃ ao cap, v = .slice ao t' cap) ∧ Hid (wr.ownsRow wm.heap.size 3 1 v t' (intsOf t' Q)) ∧ Hid (wr.rowIs gm 4 (k + r) (met t R)) ∧ Hid ((∀ s, s < t' → Q s < k + r) ∧ (∀ a b, a < b → b < t' → Q a ≠ Q b) ∧ (∀ s, s < t → Q s = R s) ∧ (∀ s, t ≤ s → s < t' → Q s < n) ∧ ∀ x, x < n → ∃ s, s < t' ∧ Q s = x) ∧ Hid (Keeps gm (gm + 1) wm wr)) (fun _ i _ => k + r - (intOf i).toNat)
          case atStart => exact ⟨0, t, R, Nat.zero_le _, Nat.le_refl _, ht, rfl, ⟨ao, cap, rfl⟩, hown.out, hmet.out, ⟨hR.out.1, hR.out.2, fun _ _ => rfl, fun s h1 h2 => by omega, fun x hx => absurd hx (Nat.not_lt_zero x)⟩, hkeep.out⟩
          case round =>
            obtain ⟨n, t', Q, hn, htt, htk, rfl, ⟨ao', cap', rfl⟩, hown', hmet', hQ, hkeep'⟩ := hrel
            by_cases hgo3 : n < k + r ∧ t' < k
            · obtain ⟨hnk, htk2⟩ := hgo3
              have cm := hmet'.out.cell hnk
              have j0' : (n : Int) < (k : Int) + (r : Int) := by omega
              have j1 : (0 : Int) ≤ (n : Int) := by omega
              have j2 : (n : Int) < ((k + r : Nat) : Int) := by omega
              by_cases hex : ∃ s, s < t ∧ R s = n
              · rw [show met t R n = .bool true by unfold met; rw [decide_eq_true hex]] at cm
                have HEX : Hid (∃ s, s < t ∧ R s = n) := hex
                clear hex
                go_wp2_with fail
                go_roundw
                case rel =>
                  refine ⟨n + 1, t', Q, by omega, htt, htk, by go_num, ⟨ao', cap', rfl⟩, hown', hmet', ⟨hQ.out.1, hQ.out.2.1, hQ.out.2.2.1, fun s h1 h2 => Nat.lt_succ_of_lt (hQ.out.2.2.2.1 s h1 h2), fun x hx => ?_⟩, hkeep'⟩
                  by_cases e : x = n
                  · obtain ⟨s, h1, h2⟩ := HEX.out
                    exact ⟨s, by omega, by rw [hQ.out.2.2.1 s h1, h2, e]⟩
                  · exact hQ.out.2.2.2.2 x (by omega)
                case measure => simp [intOf]; omega
              · rw [show met t R n = .bool false by unfold met; rw [decide_eq_false hex]] at cm
                have HEX : Hid (¬ ∃ s, s < t ∧ R s = n) := hex
                clear hex
                have HOW : Hid (∀ o, (wr.alloc o).ownsRow wm.heap.size 3 1 (.slice ao' t' cap') t' (intsOf t' Q)) := fun o => hown'.out.alloc o
                have hws := hkeep'.out.size
                obtain ⟨XS, hXS⟩ : ∃ XS, XS = intsOf t' Q := ⟨_, rfl⟩
                rw [← hXS] at HOW
                have HXS : Hid (XS = intsOf t' Q) := hXS
                clear hXS
                go_wp2_with (at_builtin; refine wpList_append_lies _ (by rfl) (.tmp 110) (.tmp 112) 29 (by rfl) wm.heap.size 3 i0 (.int .i64 0) 1 8 Try.underlying29 hi hi0 hi1 hi2 (by rfl) (by decide) (.slice ao' t' cap') t' XS (by rfl) (HOW.out _) ⟨wr.heap.size, 0, none⟩ 1 1 [.int .i64 (n : Int)] (by rfl) (by rfl) (World.news_of_block (heap_alloc_new wr _)) (by simp [Value.oneCell']) (by decide) (by unfold maxLen; omega) (by omega) (by simp; omega) (wr.heap.size + 1) (by simp) ?_; intro g5 cap5 w5 hown5 hgrow5 _ _)
                have HW5 : Hid (w5.ownsRow wm.heap.size 3 1 (.slice (some ⟨g5, 0, none⟩) (t' + 1) cap5) (t' + 1) (intsOf (t' + 1) (put t' n Q))) := by rw [intsOf_put, ← HXS.out]; exact hown5
                have HK5 : Hid (Keeps gm (gm + 1) wm w5) := (hkeep'.out.alloc _).grown hgrow5 (fun q hq => (hown'.out.lt q hq).1)
                have HM5 : Hid (w5.rowIs gm 4 (k + r) (met t R)) := by
                  have h6 := hmet'.out.of_block (w' := wr.alloc (.cells #[.int .i64 (n : Int)] 3)) (Below.heap_alloc _ _ _ hmet'.out.lt)
                  exact h6.of_block (hgrow5.block gm h6.lt (fun e => by have := (hown'.out.lt gm e.symm).1; omega))
                have HQ5 : Hid ((∀ s, s < t' + 1 → put t' n Q s < k + r) ∧ (∀ a b, a < b → b < t' + 1 → put t' n Q a ≠ put t' n Q b) ∧ (∀ s, s < t → put t' n Q s = R s) ∧ (∀ s, t ≤ s → s < t' + 1 → put t' n Q s < n + 1) ∧ ∀ x, x < n + 1 → ∃ s, s < t' + 1 ∧ put t' n Q s = x) := by
                  refine ⟨fun s hs => ?_, fun a b hab hb => ?_, fun s hs => ?_, fun s h1 h2 => ?_, fun x hx => ?_⟩
                  · by_cases e : s = t'
                    · rw [e, put_at]; exact hnk
                    · rw [put_ne _ _ e]; exact hQ.out.1 s (by omega)
                  · rw [put_ne _ _ (show a ≠ t' by omega)]
                    by_cases e : b = t'
                    · rw [e, put_at]
                      intro h
                      by_cases hat : a < t
                      · exact HEX.out ⟨a, hat, by rw [← hQ.out.2.2.1 a hat, h]⟩
                      · have := hQ.out.2.2.2.1 a (by omega) (by omega)
                        omega
                    · rw [put_ne _ _ e]; exact hQ.out.2.1 a b hab (by omega)
                  · rw [put_ne _ _ (by omega)]; exact hQ.out.2.2.1 s hs
                  · by_cases e : s = t'
                    · rw [e, put_at]; omega
                    · rw [put_ne _ _ e]; have := hQ.out.2.2.2.1 s h1 (by omega); omega
                  · by_cases e : x = n
                    · exact ⟨t', by omega, by rw [put_at, e]⟩
                    · obtain ⟨s, h1, h2⟩ := hQ.out.2.2.2.2 x (by omega)
                      exact ⟨s, by omega, by rw [put_ne _ _ (by omega)]; exact h2⟩
                clear hown5 hgrow5
                go_wp2_with fail
                go_roundw
                case rel => exact ⟨n + 1, t' + 1, put t' n Q, by omega, by omega, by omega, by go_num, ⟨_, _, rfl⟩, HW5, HM5, HQ5, HK5⟩
                case measure => simp [intOf]; omega
            · have htk3 : t' = k := by
                by_cases h : t' < k
                · have hnn : n = k + r := by omega
                  have := covered hQ.out.2.2.2.2
                  omega
                · omega
              subst htk3
              have HRQ : Hid (RdI wr ao' t' (fun i => (Q i : Int))) := owns_rdI hown'.out
              obtain ⟨A4, C4, h4⟩ := HALL.out
              have HLZ : Hid (Lst wr (some ⟨g4, 0, none⟩) (t' + r) A4 C4 (fun _ => t') (gen t')) := h4.past (h4.below HB45.out) hkeep'.out HGM.out
              have b6 : Below w.heap.size w wr := b5.trans (hkeep'.out.below b5.size hgw)
              have HIV : Hid (Rk t' t' (picked (gen t') fun i => (Q i : Int)) t') := gen_rk t' (t' + r) Q (by omega) hQ.out.1 hQ.out.2.1 (by omega)
              have hpk : okPick (t' + r) (fun _ => t') t' (fun i => (Q i : Int)) = true := by
                unfold okPick
                rw [okM_sq (by omega) (by omega) (by omega) (by omega)]
                exact decide_eq_true ⟨by omega, by omega, fun i hi => ⟨Int.natCast_nonneg _, by have := hQ.out.1 i hi; simp only; omega⟩⟩
              clear h4
              by_cases hnk : n < t' + r
              · have j0' : (n : Int) < (t' : Int) + (r : Int) := by omega
                go_wp2_with fail
                refine (pick_any wr _ _ (t' + r) cap4 t' cap' A4 C4 (fun _ => t') (gen t') _ HLZ.out HRQ.out).mono ?_
                intro e w6 hh
                rw [hpk] at hh
                obtain ⟨po, pc, A6, C6, rfl, hl6, bn⟩ := good_of hh
                have HP6 : Hid (Lst w6 po t' A6 C6 (fun _ => t') (picked (gen t') fun i => (Q i : Int))) := hl6
                replace b6 := below_step b6 bn b6.size
                clear hh hl6 bn
                go_wp2_with fail
                refine (inverse_any w6 po t' pc A6 C6 (fun _ => t') _ HP6.out).mono ?_
                intro e w7 hh
                rw [show okInv t' (fun _ => t') (picked (gen t') fun i => (Q i : Int)) = true by obtain ⟨V, hV⟩ := inv_of_rk HIV.out; exact okInv_of (by omega) (by omega) hV] at hh
                obtain ⟨vo, vc, A7, C7, rfl, _, bn⟩ := good_of hh
                replace b6 := below_step b6 bn b6.size
                clear hh bn
                go_wp2_with fail
                go_ret
                exact ⟨rfl, b6⟩
              · have j0' : ¬ (n : Int) < (t' : Int) + (r : Int) := by omega
                go_wp2_with fail
                refine (pick_any wr _ _ (t' + r) cap4 t' cap' A4 C4 (fun _ => t') (gen t') _ HLZ.out HRQ.out).mono ?_
                intro e w6 hh
                rw [hpk] at hh
                obtain ⟨po, pc, A6, C6, rfl, hl6, bn⟩ := good_of hh
                have HP6 : Hid (Lst w6 po t' A6 C6 (fun _ => t') (picked (gen t') fun i => (Q i : Int))) := hl6
                replace b6 := below_step b6 bn b6.size
                clear hh hl6 bn
                go_wp2_with fail
                refine (inverse_any w6 po t' pc A6 C6 (fun _ => t') _ HP6.out).mono ?_
                intro e w7 hh
                rw [show okInv t' (fun _ => t') (picked (gen t') fun i => (Q i : Int)) = true by obtain ⟨V, hV⟩ := inv_of_rk HIV.out; exact okInv_of (by omega) (by omega) hV] at hh
                obtain ⟨vo, vc, A7, C7, rfl, _, bn⟩ := good_of hh
                replace b6 := below_step b6 bn b6.size
                clear hh bn
                go_wp2_with fail
                go_ret
                exact ⟨rfl, b6⟩

/-- What a walk is told of a slice of integers that came in: nil, or a row of cells. -/
def IsRow (k : IntKind) (w : World) (a : Option Addr) (len cap : Nat) (zs : List Int) : Prop :=
  (a = none ∧ len = 0 ∧ cap = 0 ∧ zs = []) ∨
  ∃ x, a = some x ∧ len ≤ cap ∧ cap ≤ maxLen ∧ zs.length = cap ∧ (∀ i, i < zs.length → w.cell? (x.add i) = some (.int k (zs.getD i 0))) ∧ ∀ n ∈ zs, (Lit.int k n).wf = true
theorem row_rdI {w : World} {a : Option Addr} {len cap : Nat} {zs : List Int} (h : IsRow .i64 w a len cap zs) : RdI w a len (fun i => zs.getD i 0) ∧ len ≤ maxLen := by
  rcases h with ⟨rfl, rfl, rfl, rfl⟩ | ⟨x, rfl, h1, h2, h3, h4, _⟩
  · exact ⟨fun hn => absurd hn (Nat.lt_irrefl 0), Nat.zero_le _⟩
  · refine ⟨fun hp => ?_, by omega⟩
    obtain ⟨b, off, sp⟩ := x
    have hs : sp = none := by have := spot_none (h4 0 (by omega)); rw [Addr.add_zero'] at this; exact this
    subst hs
    refine ⟨b, off, rfl, fun i hi => ?_⟩
    have := h4 i (by omega)
    rwa [Addr.add_lit] at this
end Go.Proofs.Ytpfpldmmdbgnnaa
