/- The rows that raw writes meet, by the program. -/
import Derived.Test.YtenlfhdchflnjaaImgN
import Derived.Test.YtenlfhdchflnjaaShf
import Derived.Sort.OwnSortedInts
import Derived.Lib.OwnBridge
import Derived.Lib.RowBridge
namespace Go.Proofs.Ytenlfhdchflnjaa
open Go.RowKit Go.Sort

/-- Integers that are read at an address. -/
def RdI (w : World) (ao : Option Addr) (L : List Int) : Prop :=
  L ≠ [] → ∃ b off, ao = some ⟨b, off, none⟩ ∧ ∀ j (hj : j < L.length), w.cell? ⟨b, off + j, none⟩ = some (.int .i64 L[j])
theorem RdI.below {w w' : World} {ao : Option Addr} {L : List Int} (h : RdI w ao L) (hb : Below w.heap.size w w') : RdI w' ao L := fun hL => by
  obtain ⟨b, off, e, hc⟩ := h hL
  exact ⟨b, off, e, fun j hj => held (hc j hj) hb⟩
/-- Each less than the next. -/
def Inc (L : List Int) : Prop := L.Pairwise (· < ·)
theorem inc_unique : ∀ (a b : List Int), Inc a → Inc b → (∀ x, x ∈ a ↔ x ∈ b) → a = b
  | [], [], _, _, _ => rfl
  | [], y :: b, _, _, h => absurd ((h y).2 (List.mem_cons_self ..)) (by simp)
  | x :: a, [], _, _, h => absurd ((h x).1 (List.mem_cons_self ..)) (by simp)
  | x :: a, y :: b, ha, hb, h => by
    obtain ⟨ha1, ha2⟩ := List.pairwise_cons.1 ha
    obtain ⟨hb1, hb2⟩ := List.pairwise_cons.1 hb
    have hxy : x = y := by
      have h1 := (h x).1 (List.mem_cons_self ..)
      have h2 := (h y).2 (List.mem_cons_self ..)
      rcases List.mem_cons.1 h1 with e | e
      · exact e
      · rcases List.mem_cons.1 h2 with e2 | e2
        · exact e2.symm
        · have := ha1 y e2; have := hb1 x e; omega
    subst hxy
    rw [inc_unique a b ha2 hb2 fun z => ?_]
    constructor
    · intro hz
      rcases List.mem_cons.1 ((h z).1 (List.mem_cons_of_mem _ hz)) with e | e
      · subst e; have := ha1 z hz; omega
      · exact e
    · intro hz
      rcases List.mem_cons.1 ((h z).2 (List.mem_cons_of_mem _ hz)) with e | e
      · subst e; have := hb1 z hz; omega
      · exact e
theorem compact_inc (d : Array Int) (hd : ∀ i j, i ≤ j → j < d.size → d[i]! ≤ d[j]!) : ∀ m, m ≤ d.size → Inc (Lib.compactUpTo d m) ∧ ∀ x, x ∈ Lib.compactUpTo d m ↔ ∃ j, j < m ∧ d[j]! = x
  | 0, _ => ⟨by simp [Inc, Lib.compactUpTo], fun x => by simp [Lib.compactUpTo]⟩
  | m + 1, hm => by
    obtain ⟨h1, h2⟩ := compact_inc d hd m (by omega)
    rw [Lib.compactUpTo_succ]
    by_cases hk : m = 0 ∨ d[m]! ≠ d[m - 1]!
    · have hkk : Lib.keeps d m = true := by
        rcases hk with e | e
        · subst e; exact Lib.keeps_lt_one d 0 (by omega)
        · exact Lib.keeps_pos e
      rw [if_pos hkk]
      refine ⟨List.pairwise_append.2 ⟨h1, by simp, fun x hx y hy => ?_⟩, fun x => ?_⟩
      · obtain ⟨j, hj, rfl⟩ := (h2 x).1 hx
        obtain rfl : y = d[m]! := by simpa using hy
        have ha := hd j (m - 1) (by omega) (by omega)
        have hb := hd (m - 1) m (by omega) (by omega)
        rcases hk with e | e
        · omega
        · omega
      · rw [List.mem_append, h2]
        constructor
        · rintro (⟨j, hj, e⟩ | e)
          · exact ⟨j, by omega, e⟩
          · exact ⟨m, by omega, by simpa using Eq.symm (by simpa using e)⟩
        · rintro ⟨j, hj, e⟩
          rcases Nat.lt_succ_iff_lt_or_eq.1 hj with g | rfl
          · exact .inl ⟨j, g, e⟩
          · exact .inr (by simp [e])
    · have hm0 : 0 < m := by omega
      have he : d[m]! = d[m - 1]! := Classical.byContradiction fun h => hk (.inr h)
      rw [if_neg (by rw [Lib.keeps_neg hm0 he]; decide), List.append_nil]
      refine ⟨h1, fun x => ?_⟩
      rw [h2]
      constructor
      · rintro ⟨j, hj, e⟩; exact ⟨j, by omega, e⟩
      · rintro ⟨j, hj, e⟩
        rcases Nat.lt_succ_iff_lt_or_eq.1 hj with g | rfl
        · exact ⟨j, g, e⟩
        · exact ⟨j - 1, by omega, by rw [← he]; exact e⟩
/-- The rows of the first ln raw writes. -/
def rwl (D : Nat → Pt) (ln : Nat) : List Int := (List.range ln).map fun j => (D j).r
theorem rwl_length (D : Nat → Pt) (ln : Nat) : (rwl D ln).length = ln := by simp [rwl]
theorem rwl_mem (D : Nat → Pt) (ln : Nat) (x : Int) : x ∈ rwl D ln ↔ ∃ j, j < ln ∧ (D j).r = x := by simp [rwl]
/-- The rows that they meet, rising, each once. -/
def mts (D : Nat → Pt) (ln : Nat) : List Int := Lib.compact ((rwl D ln).mergeSort fun x y => decide (x ≤ y))
theorem mts_spec (D : Nat → Pt) (ln : Nat) : Inc (mts D ln) ∧ ∀ x, x ∈ mts D ln ↔ ∃ j, j < ln ∧ (D j).r = x := by
  have hs : ((rwl D ln).mergeSort fun x y => decide (x ≤ y)).Pairwise (fun a b => decide (a ≤ b) = true) := List.pairwise_mergeSort (fun a b c h1 h2 => by simp at *; omega) (fun a b => by simp; omega) _
  generalize hz : (rwl D ln).mergeSort (fun x y => decide (x ≤ y)) = zs at hs
  have hm : ∀ x, x ∈ zs ↔ ∃ j, j < ln ∧ (D j).r = x := fun x => by rw [← hz, List.mem_mergeSort, rwl_mem]
  unfold mts
  rw [hz]
  have hd : ∀ i j, i ≤ j → j < zs.toArray.size → zs.toArray[i]! ≤ zs.toArray[j]! := fun i j hij hj => by
    simp at hj
    rcases Nat.eq_or_lt_of_le hij with e | e
    · subst e; omega
    · have h := List.pairwise_iff_getElem.1 hs i j (by omega) hj e
      rw [getElem!_pos zs.toArray i (by simp; omega), getElem!_pos zs.toArray j (by simpa using hj)]
      simpa using h
  obtain ⟨h1, h2⟩ := compact_inc zs.toArray hd zs.length (by simp)
  refine ⟨h1, fun x => (h2 x).trans ?_⟩
  rw [← hm, List.mem_iff_getElem]
  constructor
  · rintro ⟨j, hj, e⟩; exact ⟨j, hj, by rw [getElem!_pos zs.toArray j (by simpa using hj)] at e; simpa using e⟩
  · rintro ⟨j, hj, e⟩; exact ⟨j, hj, by rw [getElem!_pos zs.toArray j (by simpa using hj)]; simpa using e⟩
theorem mts_le (D : Nat → Pt) (ln : Nat) : (mts D ln).length ≤ ln := by
  have := Lib.compact_length_le ((rwl D ln).mergeSort fun x y => decide (x ≤ y))
  rw [List.length_mergeSort, rwl_length] at this
  exact this
/-- What Rows answers. -/
def Rws (D : Nat → Pt) (ln : Nat) (x : Int) (L : List Int) : Prop := (ln ≤ 65536 ∧ x = 0 ∧ L = mts D ln) ∨ (65536 < ln ∧ x = 20 ∧ L = [])
theorem rws_ex (D : Nat → Pt) (ln : Nat) : ∃ x L, Rws D ln x L := by
  by_cases h : ln ≤ 65536
  · exact ⟨0, _, .inl ⟨h, rfl, rfl⟩⟩
  · exact ⟨20, _, .inr ⟨by omega, rfl, rfl⟩⟩
theorem info3 : (Try.prog.info? 3).map (fun i => (i.zero, i.size, i.bytes)) = some (some (.int .i64 0), 1, 8) := by kernel_rfl
def rup (D : Nat → Pt) (i j : Nat) : Value := .int .i64 (if j < i then (D j).r else 0)
/-- Behind the sort and the cut. -/
theorem rows_end {w wr : World} {ln q nn : Nat} {os : Array Obj} {zs : List Int} (hz : zs.length = ln) (hH : Holds (Value.int .i64) wr w.heap.size 0 zs.toArray) (hg : w.heap.size < wr.heap.size) (hb : Below w.heap.size w wr) :
    RdI (putRow (Value.int .i64) (Sort.ahead (grow (putRow (Value.int .i64) (Sort.ahead wr nn) w.heap.size 0 (zs.mergeSort fun x y => decide (x ≤ y)).toArray) os) q) w.heap.size 0 (Lib.compact (zs.mergeSort fun x y => decide (x ≤ y)) ++ List.replicate (ln - (Lib.compact (zs.mergeSort fun x y => decide (x ≤ y))).length) 0).toArray) (some ⟨w.heap.size, 0, none⟩) (Lib.compact (zs.mergeSort fun x y => decide (x ≤ y))) ∧
    Below w.heap.size w (putRow (Value.int .i64) (Sort.ahead (grow (putRow (Value.int .i64) (Sort.ahead wr nn) w.heap.size 0 (zs.mergeSort fun x y => decide (x ≤ y)).toArray) os) q) w.heap.size 0 (Lib.compact (zs.mergeSort fun x y => decide (x ≤ y)) ++ List.replicate (ln - (Lib.compact (zs.mergeSort fun x y => decide (x ≤ y))).length) 0).toArray) := by
  have hsl : (zs.mergeSort fun x y => decide (x ≤ y)).length = ln := by rw [List.length_mergeSort, hz]
  have hle := Lib.compact_length_le (zs.mergeSort fun x y => decide (x ≤ y))
  generalize zs.mergeSort (fun x y => decide (x ≤ y)) = ss at *
  have hH2 : Holds (Value.int .i64) (grow (putRow (Value.int .i64) (Sort.ahead wr nn) w.heap.size 0 ss.toArray) os) w.heap.size 0 ss.toArray :=
    holds_grow _ _ os _ 0 _ (by simpa [putRow, mapBlock, Sort.ahead] using hg) (holds_putRow _ _ _ 0 _ _ (holds_ahead _ wr nn _ 0 _ hH) (by simp; omega))
  have hH3 := holds_putRow (Value.int .i64) _ w.heap.size 0 _ (Lib.compact ss ++ List.replicate (ln - (Lib.compact ss).length) 0).toArray (holds_ahead _ _ q _ 0 _ hH2) (by simp; omega)
  constructor
  · intro _
    refine ⟨w.heap.size, 0, rfl, fun j hj => ?_⟩
    have h := (hH3 j (by simp; omega)).1
    rw [h, getElem!_pos _ j (by simp; omega)]
    simp [List.getElem_append_left hj]
  · exact Lib.below_putRow (hb.grown (grownBy_sortedI _) hb.size (fun j hj => by cases hj; exact Nat.le_refl _)) (Nat.le_refl _)
set_option maxHeartbeats 2000000 in
set_option maxRecDepth 100000 in
theorem Rows_img {D : Nat → Pt} {ln : Nat} {x : Int} {L : List Int} (h : Rws D ln x L) (po : Option Addr) (pc : Nat) (B : Nat → Option Addr) (K : Nat → Nat) {Z : Nat → Prop} (w : World) (hp : Pts w Z po ln D B K) :
    Calls Try.prog 12 #[.slice po ln pc] w fun e w' => ∃ ao cap, e = .returned (.tuple #[.slice ao L.length cap, .int .i64 x]) ∧ RdI w' ao L ∧ Below w.heap.size w w' := by
  rcases h with ⟨hln, rfl, rfl⟩ | ⟨hln, rfl, rfl⟩
  · have HP : Hid (Pts w Z po ln D B K) := hp
    have hl2 : ¬ (65536 : Int) < (ln : Int) := by omega
    have hmk := run_make_row' (P := Try.prog) 36 3 (.int .i64 0) 8 Try.underlying36 info3 rfl .i64 .i64 ln (by omega) (by omega) w
    obtain ⟨wz, hwz⟩ : ∃ wz, wz = w.alloc (.cells (madeCells #[.int .i64 0] ln) 3) := ⟨_, rfl⟩
    have HBZ : Hid (Below w.heap.size w wz) := by rw [hwz]; exact below_alloc _ _
    have HR0 : Hid (wz.rowIs w.heap.size 3 ln (rup D 0)) := by
      rw [hwz]
      exact (World.rowIs_made w (.int .i64 0) ln 3).congr fun i _ => by unfold rup; rw [if_neg (Nat.not_lt_zero i)]
    rw [← hwz] at hmk
    clear hp hwz
    go_enter Try.func12, Try.ntmps12
    go_wp2_with fail
    go_loopw [5, 6, 15] (fun _ _ y wr => ∃ i : Nat, i ≤ ln ∧ y = .int .i64 i ∧ Hid (wr.rowIs w.heap.size 3 ln (rup D i)) ∧ Hid (Below w.heap.size w wr)) (fun _ _ y _ => ln - (intOf y).toNat)
    case atStart => exact ⟨0, Nat.zero_le _, rfl, HR0.out, HBZ.out⟩
    case round =>
      obtain ⟨i, hi, rfl, hr, hb⟩ := hrel
      by_cases hlt : i < ln
      · obtain ⟨b, off, rfl, hc⟩ := (HP.out.below hb.out).at_ (by omega)
        obtain ⟨k0, k1, k2, k3⟩ := hc i hlt
        obtain ⟨y, hy⟩ : ∃ y, y = D i := ⟨_, rfl⟩
        have HY : Hid (y = D i) := hy
        rw [← hy] at k0 k1 k2 k3
        have cc : ∀ o, (wr.alloc o).cell? ⟨w.heap.size, i, none⟩ = some (rup D i i) := fun o => held (hr.out.cell hlt) (below_alloc _ _)
        have cf : ∀ o, (wr.alloc o).frozen? ⟨w.heap.size, i, none⟩ = false := fun o => free_below (hr.out.frozen i) (below_alloc _ _) hr.out.lt
        have i1 : (0 : Int) ≤ (i : Int) := by omega
        have i2 : (i : Int) < (ln : Int) := by omega
        clear hc hy
        go_wp2_with fail
        go_roundw
        case rel =>
          refine ⟨i + 1, by omega, by go_num, ?_, (hb.out.alloc hb.out.size _).setCell (Nat.le_refl _) _⟩
          have h1 := (hr.out.of_block (Below.heap_alloc wr (.cells #[.int .i64 y.d, .int .i64 y.r, .int .i64 y.s, .slice (B i) y.b.length (K i)] 35) _ hr.out.lt)).set i (.int .i64 y.r)
          refine h1.congr fun j _ => ?_
          unfold rup
          by_cases e : j = i
          · subst e; rw [if_pos rfl, if_pos (by omega), HY.out]
          · rw [if_neg e]
            by_cases g : j < i
            · rw [if_pos g, if_pos (by omega)]
            · rw [if_neg g, if_neg (by omega)]
        case measure => simp [intOf]; omega
      · obtain rfl : i = ln := by omega
        have HH : Hid (Holds (Value.int .i64) wr w.heap.size 0 (rwl D i).toArray) := fun j hj => by
          have hj2 : j < i := by simpa [rwl_length] using hj
          rw [Nat.zero_add]
          refine ⟨?_, hr.out.frozen j⟩
          rw [hr.out.cell hj2]
          unfold rup
          rw [if_pos hj2, getElem!_pos _ j hj]
          simp [rwl]
        obtain ⟨zs, hzs⟩ : ∃ zs, zs = rwl D i := ⟨_, rfl⟩
        have HZS : Hid (zs = rwl D i) := hzs
        have hzl : zs.length = i := by rw [hzs, rwl_length]
        rw [← hzs] at HH
        have HSO := slices_Sort_int w.heap.size 0 i zs wr HH.out hr.out.lt (by omega)
        rw [hzl] at HSO
        have HLT : Hid (w.heap.size < wr.heap.size) := hr.out.lt
        clear hzs
        go_wp2_with fail
        refine HSO.mono ?_
        rintro e w2 ⟨rfl, nn, os, rfl⟩
        have hsl : (zs.mergeSort fun x y => decide (x ≤ y)).length = i := by rw [List.length_mergeSort, hzl]
        have hH2 : Holds (Value.int .i64) (grow (putRow (Value.int .i64) (Sort.ahead wr nn) w.heap.size 0 (zs.mergeSort fun x y => decide (x ≤ y)).toArray) os) w.heap.size 0 (zs.mergeSort fun x y => decide (x ≤ y)).toArray :=
          holds_grow _ _ os _ 0 _ (by simpa [putRow, mapBlock, Sort.ahead] using HLT.out) (holds_putRow _ _ _ 0 _ _ (holds_ahead _ wr nn _ 0 _ HH.out) (by simp))
        have HCO := slices_Compact_int w.heap.size 0 i (zs.mergeSort fun x y => decide (x ≤ y)) _ hH2 (by omega) (by omega)
        rw [hsl] at HCO
        have HEN : Hid (∀ q, _ ∧ _) := fun q => rows_end (q := q) (nn := nn) (os := os) hzl HH.out HLT.out hb.out
        have HMT : Hid (Lib.compact (zs.mergeSort fun x y => decide (x ≤ y)) = mts D i) := by show _ = _; rw [HZS.out]; rfl
        obtain ⟨wy, hwy⟩ : ∃ wy, wy = grow (putRow (Value.int .i64) (Sort.ahead wr nn) w.heap.size 0 (zs.mergeSort fun x y => decide (x ≤ y)).toArray) os := ⟨_, rfl⟩
        rw [← hwy] at HCO HEN
        rw [← hwy]
        rw [HMT.out] at HCO HEN
        obtain ⟨M, hM⟩ : ∃ M, M = mts D i := ⟨_, rfl⟩
        rw [← hM] at HCO HEN
        have HM : Hid (M = mts D i) := hM
        clear hwy hH2 HSO hsl hM
        go_wp2_with fail
        refine HCO.mono ?_
        rintro e w3 ⟨rfl, q, hw3⟩
        have HE := HEN.out q
        rw [← hw3] at HE
        clear hw3 HCO
        go_wp2_with fail
        go_ret2
        rw [← HM.out]
        exact ⟨_, _, rfl, HE.1, HE.2⟩
  · have hl2 : (65536 : Int) < (ln : Int) := by omega
    clear hp
    go_enter Try.func12, Try.ntmps12
    go_wp2_with fail
    go_ret2
    exact ⟨none, 0, rfl, fun h => absurd rfl h, Below.refl _ _⟩
end Go.Proofs.Ytenlfhdchflnjaa
