import Derived.Shelf.Sort.Plain
import Derived.Shelf.Slices.CompactI
import Derived.Sort.OwnSortedInts
import Derived.Lib.OwnBridge
import Derived.Lib.RowBridge
import Derived.Test.YtmoenmpbkockoaaGreatProg
import GoSem.Claim
import Derived.JoinedTies
import Derived.KernelRfl
import Derived.Test.YtmoenmpbkockoaaGreatWj48
namespace Go.Proofs.YtmoenmpbkockoaaGreat.Im
open Go.Shelf
def lays189_ren : Go.Shelf.Ren := ⟨fun | 189 => 63 | 125 => 123 | 257 => 122 | 128 => 186 | 129 => 187 | 294 => 177 | 295 => 178 | 296 => 179 | 297 => 180 | 298 => 181 | 299 => 182 | 216 => 183 | 300 => 184 | 301 => 185 | 328 => 220 | 329 => 221 | 330 => 222 | 331 => 223 | 332 => 224 | 215 => 225 | 343 => 252 | n => n, fun | 28 => 38 | 3 => 3 | 46 => 191 | 0 => 0 | 51 => 249 | 53 => 251 | 4 => 4 | 183 => 242 | 182 => 241 | 131 => 246 | 5 => 5 | 9 => 9 | 218 => 281 | 222 => 285 | 228 => 313 | 229 => 204 | n => n, fun | n => n⟩
theorem lays189 : Go.Proofs.Lays.n189 Tryz.prog lays189_ren := {
  mixed := by kernel_rfl
  f125 := Tryz.func123.trans (congrArg some (by kernel_rfl))
  f128 := Tryz.func186.trans (congrArg some (by kernel_rfl))
  f129 := Tryz.func187.trans (congrArg some (by kernel_rfl))
  f189 := Tryz.func63.trans (congrArg some (by kernel_rfl))
  f215 := Tryz.func225.trans (congrArg some (by kernel_rfl))
  f216 := Tryz.func183.trans (congrArg some (by kernel_rfl))
  f257 := Tryz.func122.trans (congrArg some (by kernel_rfl))
  f294 := Tryz.func177.trans (congrArg some (by kernel_rfl))
  f295 := Tryz.func178.trans (congrArg some (by kernel_rfl))
  f296 := Tryz.func179.trans (congrArg some (by kernel_rfl))
  f297 := Tryz.func180.trans (congrArg some (by kernel_rfl))
  f298 := Tryz.func181.trans (congrArg some (by kernel_rfl))
  f299 := Tryz.func182.trans (congrArg some (by kernel_rfl))
  f300 := Tryz.func184.trans (congrArg some (by kernel_rfl))
  f301 := Tryz.func185.trans (congrArg some (by kernel_rfl))
  f328 := Tryz.func220.trans (congrArg some (by kernel_rfl))
  f329 := Tryz.func221.trans (congrArg some (by kernel_rfl))
  f330 := Tryz.func222.trans (congrArg some (by kernel_rfl))
  f331 := Tryz.func223.trans (congrArg some (by kernel_rfl))
  f332 := Tryz.func224.trans (congrArg some (by kernel_rfl))
  f343 := Tryz.func252.trans (congrArg some (by kernel_rfl))
  t0 := Tryz.underlying0
  a0 := Tryz.isAgg0
  z0 := Tryz.sizeOf0
  v0 := Tryz.zeroValue0
  t3 := Tryz.underlying3
  a3 := Tryz.isAgg3
  z3 := Tryz.sizeOf3
  v3 := Tryz.zeroValue3
  t4 := Tryz.underlying4
  a4 := Tryz.isAgg4
  z4 := Tryz.sizeOf4
  v4 := Tryz.zeroValue4
  t5 := Tryz.underlying5
  a5 := Tryz.isAgg5
  z5 := Tryz.sizeOf5
  v5 := Tryz.zeroValue5
  t9 := Tryz.underlying9
  a9 := Tryz.isAgg9
  z9 := Tryz.sizeOf9
  v9 := Tryz.zeroValue9
  t28 := Tryz.underlying38
  a28 := Tryz.isAgg38
  z28 := Tryz.sizeOf38
  v28 := Tryz.zeroValue38
  t46 := Tryz.underlying191
  a46 := Tryz.isAgg191
  z46 := Tryz.sizeOf191
  v46 := Tryz.zeroValue191
  t51 := Tryz.underlying249
  a51 := Tryz.isAgg249
  z51 := Tryz.sizeOf249
  v51 := Tryz.zeroValue249
  t53 := Tryz.underlying251
  a53 := Tryz.isAgg251
  z53 := Tryz.sizeOf251
  v53 := Tryz.zeroValue251
  t131 := Tryz.underlying246
  a131 := Tryz.isAgg246
  z131 := Tryz.sizeOf246
  v131 := Tryz.zeroValue246
  t182 := Tryz.underlying241
  a182 := Tryz.isAgg241
  z182 := Tryz.sizeOf241
  v182 := Tryz.zeroValue241
  t183 := Tryz.underlying242
  a183 := Tryz.isAgg242
  z183 := Tryz.sizeOf242
  v183 := Tryz.zeroValue242
  t218 := Tryz.underlying281
  a218 := Tryz.isAgg281
  z218 := Tryz.sizeOf281
  v218 := Tryz.zeroValue281
  t222 := Tryz.underlying285
  a222 := Tryz.isAgg285
  z222 := Tryz.sizeOf285
  v222 := Tryz.zeroValue285
  t228 := Tryz.underlying313
  a228 := Tryz.isAgg313
  z228 := Tryz.sizeOf313
  v228 := Tryz.zeroValue313
  t229 := Tryz.underlying204
  a229 := Tryz.isAgg204
  z229 := Tryz.sizeOf204
  v229 := Tryz.zeroValue204 }
open Go.Sort Go.RowKit in
theorem slices_Sort_int (blk off cap : Nat) (zs : List Int) (w : World) (hH : Holds (Value.int .i64) w blk off zs.toArray) (hblk : blk < w.heap.size) (hsz : zs.length < 4611686018427387904) :
    Calls Tryz.prog 63 #[.slice (some ⟨blk, off, none⟩) zs.length cap] w fun e w' =>
      e = .returned (.tuple #[]) /\ ∃ n os, w' = grow (putRow (Value.int .i64) (Sort.ahead w n) blk off (zs.mergeSort fun x y => decide (x <= y)).toArray) os := Any.slices_Sort_int lays189 blk off cap zs w hH hblk hsz
def laysNm220_ren : Go.Shelf.Ren := ⟨fun | 20 => 64 | n => n, fun | 22 => 38 | 3 => 3 | 4 => 4 | 0 => 0 | n => n, fun | n => n⟩
theorem laysNm220 : Go.Proofs.Lays2.n20 Tryz.prog laysNm220_ren := {
  mixed := by kernel_rfl
  f20 := Tryz.func64.trans (congrArg some (by kernel_rfl))
  t0 := Tryz.underlying0
  a0 := Tryz.isAgg0
  z0 := Tryz.sizeOf0
  v0 := Tryz.zeroValue0
  t3 := Tryz.underlying3
  a3 := Tryz.isAgg3
  z3 := Tryz.sizeOf3
  v3 := Tryz.zeroValue3
  t4 := Tryz.underlying4
  a4 := Tryz.isAgg4
  z4 := Tryz.sizeOf4
  v4 := Tryz.zeroValue4
  t22 := Tryz.underlying38
  a22 := Tryz.isAgg38
  z22 := Tryz.sizeOf38
  v22 := Tryz.zeroValue38
  i3 := by kernel_rfl }
open Go.RowKit Go.Lib Go.Sort in
theorem slices_Compact_int (blk off cap : Nat) (zs : List Int) (w : World) (hH : Holds (Value.int .i64) w blk off zs.toArray) (hsz : zs.length <= 9223372036854775807) (hcap : zs.length <= cap) :
    Calls Tryz.prog 64 #[.slice (some ⟨blk, off, none⟩) zs.length cap] w fun e w' => e = .returned (.slice (some ⟨blk, off, none⟩) (Lib.compact zs).length cap) /\ ∃ q, w' = putRow (Value.int .i64) (Sort.ahead w q) blk off (Lib.compact zs ++ List.replicate (zs.length - (Lib.compact zs).length) 0).toArray := Any.slices_Compact_int laysNm220 blk off cap zs w hH hsz hcap
end Go.Proofs.YtmoenmpbkockoaaGreat.Im
namespace Go.Proofs.YtmoenmpbkockoaaGreat
open Go.RowKit Go.Sort
def RdL (w : World) (ao : Option Addr) (L : List Int) : Prop :=
  L ≠ [] -> ∃ b off, ao = some ⟨b, off, none⟩ /\ ∀ j (hj : j < L.length), w.cell? ⟨b, off + j, none⟩ = some (.int .i64 L[j])
theorem RdL.below {w w' : World} {ao : Option Addr} {L : List Int} (h : RdL w ao L) (hb : Below w.heap.size w w') : RdL w' ao L := fun hL => by
  obtain ⟨b, off, e, hc⟩ := h hL
  exact ⟨b, off, e, fun j hj => held (hc j hj) hb⟩
def Inc (L : List Int) : Prop := L.Pairwise (· < ·)
theorem compact_inc (d : Array Int) (hd : ∀ i j, i <= j -> j < d.size -> d[i]! <= d[j]!) : ∀ m, m <= d.size -> Inc (Lib.compactUpTo d m) /\ ∀ x, x ∈ Lib.compactUpTo d m ↔ ∃ j, j < m /\ d[j]! = x
  | 0, _ => ⟨by simp [Inc, Lib.compactUpTo], fun x => by simp [Lib.compactUpTo]⟩
  | m + 1, hm => by
    obtain ⟨h1, h2⟩ := compact_inc d hd m (by omega)
    rw [Lib.compactUpTo_succ]
    by_cases hk : m = 0 \/ d[m]! ≠ d[m - 1]!
    · have hkk : Lib.keeps d m = true := by
        rcases hk with e | e
        · subst e; exact Lib.keeps_lt_one d 0 (by omega)
        · exact Lib.keeps_pos e
      rw [if_pos hkk]
      refine ⟨List.pairwise_append.2 ⟨h1, by simp, fun x hx y hy => ?_⟩, fun x => ?_⟩
      · obtain ⟨j, hj, rfl⟩ := (h2 x).1 hx
        obtain rfl : y = d[m]! := by simpa using hy
        have ha := hd j (m - 1) (by omega) (by omega)
        have hb := hd (m - 1) m (by omega) (by omega)
        rcases hk with e | e
        · omega
        · omega
      · rw [List.mem_append, h2]
        constructor
        · rintro (⟨j, hj, e⟩ | e)
          · exact ⟨j, by omega, e⟩
          · exact ⟨m, by omega, by simpa using Eq.symm (by simpa using e)⟩
        · rintro ⟨j, hj, e⟩
          rcases Nat.lt_succ_iff_lt_or_eq.1 hj with g | rfl
          · exact .inl ⟨j, g, e⟩
          · exact .inr (by simp [e])
    · have hm0 : 0 < m := by omega
      have he : d[m]! = d[m - 1]! := Classical.byContradiction fun h => hk (.inr h)
      rw [if_neg (by rw [Lib.keeps_neg hm0 he]; decide), List.append_nil]
      refine ⟨h1, fun x => ?_⟩
      rw [h2]
      constructor
      · rintro ⟨j, hj, e⟩; exact ⟨j, by omega, e⟩
      · rintro ⟨j, hj, e⟩
        rcases Nat.lt_succ_iff_lt_or_eq.1 hj with g | rfl
        · exact ⟨j, g, e⟩
        · exact ⟨j - 1, by omega, by rw [<- he]; exact e⟩
def rwl (f : Nat -> Int) (ln : Nat) : List Int := (List.range ln).map f
theorem rwl_length (f : Nat -> Int) (ln : Nat) : (rwl f ln).length = ln := by simp [rwl]
theorem rwl_mem (f : Nat -> Int) (ln : Nat) (x : Int) : x ∈ rwl f ln ↔ ∃ j, j < ln /\ f j = x := by simp [rwl]
def mts (f : Nat -> Int) (ln : Nat) : List Int := Lib.compact ((rwl f ln).mergeSort fun x y => decide (x <= y))
theorem mts_spec (f : Nat -> Int) (ln : Nat) : Inc (mts f ln) /\ ∀ x, x ∈ mts f ln ↔ ∃ j, j < ln /\ f j = x := by
  have hs : ((rwl f ln).mergeSort fun x y => decide (x <= y)).Pairwise (fun a b => decide (a <= b) = true) := List.pairwise_mergeSort (fun a b c h1 h2 => by simp at *; omega) (fun a b => by simp; omega) _
  generalize hz : (rwl f ln).mergeSort (fun x y => decide (x <= y)) = zs at hs
  have hm : ∀ x, x ∈ zs ↔ ∃ j, j < ln /\ f j = x := fun x => by rw [<- hz, List.mem_mergeSort, rwl_mem]
  unfold mts
  rw [hz]
  have hd : ∀ i j, i <= j -> j < zs.toArray.size -> zs.toArray[i]! <= zs.toArray[j]! := fun i j hij hj => by
    simp at hj
    rcases Nat.eq_or_lt_of_le hij with e | e
    · subst e; omega
    · have h := List.pairwise_iff_getElem.1 hs i j (by omega) hj e
      rw [getElem!_pos zs.toArray i (by simp; omega), getElem!_pos zs.toArray j (by simpa using hj)]
      simpa using h
  obtain ⟨h1, h2⟩ := compact_inc zs.toArray hd zs.length (by simp)
  refine ⟨h1, fun x => (h2 x).trans ?_⟩
  rw [<- hm, List.mem_iff_getElem]
  constructor
  · rintro ⟨j, hj, e⟩; exact ⟨j, hj, by rw [getElem!_pos zs.toArray j (by simpa using hj)] at e; simpa using e⟩
  · rintro ⟨j, hj, e⟩; exact ⟨j, hj, by rw [getElem!_pos zs.toArray j (by simpa using hj)]; simpa using e⟩
theorem mts_le (f : Nat -> Int) (ln : Nat) : (mts f ln).length <= ln := by
  have := Lib.compact_length_le ((rwl f ln).mergeSort fun x y => decide (x <= y))
  rw [List.length_mergeSort, rwl_length] at this
  exact this
def rup (f : Nat -> Int) (i j : Nat) : Value := .int .i64 (if j < i then f j else 0)
theorem rows_end {w wr : World} {ln q nn : Nat} {os : Array Obj} {zs : List Int} (hz : zs.length = ln) (hH : Holds (Value.int .i64) wr w.heap.size 0 zs.toArray) (hg : w.heap.size < wr.heap.size) (hb : Below w.heap.size w wr) :
    RdL (putRow (Value.int .i64) (Sort.ahead (grow (putRow (Value.int .i64) (Sort.ahead wr nn) w.heap.size 0 (zs.mergeSort fun x y => decide (x <= y)).toArray) os) q) w.heap.size 0 (Lib.compact (zs.mergeSort fun x y => decide (x <= y)) ++ List.replicate (ln - (Lib.compact (zs.mergeSort fun x y => decide (x <= y))).length) 0).toArray) (some ⟨w.heap.size, 0, none⟩) (Lib.compact (zs.mergeSort fun x y => decide (x <= y))) /\
    Below w.heap.size w (putRow (Value.int .i64) (Sort.ahead (grow (putRow (Value.int .i64) (Sort.ahead wr nn) w.heap.size 0 (zs.mergeSort fun x y => decide (x <= y)).toArray) os) q) w.heap.size 0 (Lib.compact (zs.mergeSort fun x y => decide (x <= y)) ++ List.replicate (ln - (Lib.compact (zs.mergeSort fun x y => decide (x <= y))).length) 0).toArray) := by
  have hsl : (zs.mergeSort fun x y => decide (x <= y)).length = ln := by rw [List.length_mergeSort, hz]
  have hle := Lib.compact_length_le (zs.mergeSort fun x y => decide (x <= y))
  generalize zs.mergeSort (fun x y => decide (x <= y)) = ss at *
  have hH2 : Holds (Value.int .i64) (grow (putRow (Value.int .i64) (Sort.ahead wr nn) w.heap.size 0 ss.toArray) os) w.heap.size 0 ss.toArray :=
    holds_grow _ _ os _ 0 _ (by simpa [putRow, mapBlock, Sort.ahead] using hg) (holds_putRow _ _ _ 0 _ _ (holds_ahead _ wr nn _ 0 _ hH) (by simp; omega))
  have hH3 := holds_putRow (Value.int .i64) _ w.heap.size 0 _ (Lib.compact ss ++ List.replicate (ln - (Lib.compact ss).length) 0).toArray (holds_ahead _ _ q _ 0 _ hH2) (by simp; omega)
  constructor
  · intro _
    refine ⟨w.heap.size, 0, rfl, fun j hj => ?_⟩
    have h := (hH3 j (by simp; omega)).1
    rw [h, getElem!_pos _ j (by simp; omega)]
    simp [List.getElem_append_left hj]
  · exact Lib.below_putRow (hb.grown (grownBy_sortedI _) hb.size (fun j hj => by cases hj; exact Nat.le_refl _)) (Nat.le_refl _)
set_option maxHeartbeats 4000000 in
set_option maxRecDepth 100000 in
theorem Rows_bad {k r c q : Int} (w : World) (lo : Option Addr) (n cl : Nat) (o E : Int) (hE : E ≠ 0) (m : Nat) (a v : Nat -> Int)
    (HA : Hid (∀ u, Below w.heap.size w u -> Calls Tryz.prog 24 #[.agg #[.int .i64 k, .int .i64 r, .int .i64 c, .int .i64 q, .slice lo n cl], .int .i64 o] u (AnsLv u E m a v))) :
    Calls Tryz.prog 23 #[.agg #[.int .i64 k, .int .i64 r, .int .i64 c, .int .i64 q, .slice lo n cl], .int .i64 o] w fun e w' => e = .returned (.tuple #[.slice none 0 0, .int .i64 E]) /\ Below w.heap.size w w' := by
  have hz : (E != 0) = true := by simpa using hE
  unfold AnsLv at HA
  rw [lenE_ne m hE] at HA
  clear hE
  obtain ⟨w0, hw0⟩ : ∃ w0, w0 = w.alloc (.cells #[.int .i64 k, .int .i64 r, .int .i64 c, .int .i64 q, .slice lo n cl] 51) := ⟨_, rfl⟩
  have b0 : Below w.heap.size w w0 := by rw [hw0]; exact below_alloc _ _
  go_enter Tryz.func23, Tryz.ntmps23
  go_wp2_with fail
  rw [<- hw0]
  refine (HA.out _ b0).mono ?_
  rintro e wa ⟨ao, cp, rfl, _, ha⟩
  clear hw0 HA
  go_wp2_with fail
  go_ret2
  exact ⟨rfl, below_then b0 ha⟩
set_option maxHeartbeats 4000000 in
set_option maxRecDepth 100000 in
theorem Rows_good {k r c q : Int} (w : World) (lo : Option Addr) (n cl : Nat) (o : Int) (m : Nat) (hm1 : 1 <= m) (hm : m <= 60000) (a v : Nat -> Int)
    (HA : Hid (∀ u, Below w.heap.size w u -> Calls Tryz.prog 24 #[.agg #[.int .i64 k, .int .i64 r, .int .i64 c, .int .i64 q, .slice lo n cl], .int .i64 o] u (AnsLv u 0 m a v))) :
    Calls Tryz.prog 23 #[.agg #[.int .i64 k, .int .i64 r, .int .i64 c, .int .i64 q, .slice lo n cl], .int .i64 o] w fun e w' => ∃ ao cap, e = .returned (.tuple #[.slice ao (mts a m).length cap, .int .i64 0]) /\ RdL w' ao (mts a m) /\ Below w.heap.size w w' := by
  unfold AnsLv at HA
  rw [lenE_zero] at HA
  obtain ⟨w0, hw0⟩ : ∃ w0, w0 = w.alloc (.cells #[.int .i64 k, .int .i64 r, .int .i64 c, .int .i64 q, .slice lo n cl] 51) := ⟨_, rfl⟩
  have b0 : Below w.heap.size w w0 := by rw [hw0]; exact below_alloc _ _
  go_enter Tryz.func23, Tryz.ntmps23
  go_wp2_with fail
  rw [<- hw0]
  refine (HA.out _ b0).mono ?_
  rintro e wa ⟨po, pc, rfl, hp, ha⟩
  have hmk := run_make_row' (P := Tryz.prog) 38 3 (.int .i64 0) 8 Tryz.underlying38 info3 rfl .i64 .i64 m (by omega) (by omega) wa
  obtain ⟨wz, hwz⟩ : ∃ wz, wz = wa.alloc (.cells (madeCells #[.int .i64 0] m) 3) := ⟨_, rfl⟩
  have HBZ : Hid (Below wa.heap.size wa wz) := by rw [hwz]; exact below_alloc _ _
  have HR0 : Hid (wz.rowIs wa.heap.size 3 m (rup a 0)) := by
    rw [hwz]
    exact (World.rowIs_made wa (.int .i64 0) m 3).congr fun i _ => by unfold rup; rw [if_neg (Nat.not_lt_zero i)]
  rw [<- hwz] at hmk
  have HP : Hid (OwV w0.heap.size wa po m pc a v) := hp
  have HWA : Hid (Below w.heap.size w wa) := below_then b0 ha
  clear hp hwz hw0 HA b0 ha
  go_wp2_with fail
  go_loopw [9, 10, 25] (fun _ _ y wr => ∃ i : Nat, i <= m /\ y = .int .i64 (i : Int) /\ Hid (wr.rowIs wa.heap.size 3 m (rup a i)) /\ Hid (Below wa.heap.size wa wr)) (fun _ _ y _ => m - (intOf y).toNat)
  case atStart => exact ⟨0, Nat.zero_le _, rfl, HR0.out, HBZ.out⟩
  case round =>
    obtain ⟨i, hi, rfl, hr, hb⟩ := hrel
    by_cases hlt : i < m
    · obtain ⟨g, rfl, hg1, hg2, hc⟩ := (HP.out.below hb.out).at_ (by omega)
      obtain ⟨k0, k1, k2⟩ := hc i hlt
      obtain ⟨y, hy⟩ : ∃ y, y = a i := ⟨_, rfl⟩
      obtain ⟨kd, hkd⟩ : ∃ kd : Int, kd = if i = 0 then 2 else 1 := ⟨_, rfl⟩
      have HY : Hid (y = a i) := hy
      rw [<- hy] at k0
      rw [<- hkd] at k1
      have cc : ∀ o, (wr.alloc o).cell? ⟨wa.heap.size, i, none⟩ = some (rup a i i) := fun o => held (hr.out.cell hlt) (below_alloc _ _)
      have cf : ∀ o, (wr.alloc o).frozen? ⟨wa.heap.size, i, none⟩ = false := fun o => Im.free_below (hr.out.frozen i) (below_alloc _ _) hr.out.lt
      have i1 : (0 : Int) <= (i : Int) := by omega
      have i2 : (i : Int) < (m : Int) := by omega
      clear hc hy hkd
      go_wp2_with fail
      go_roundw
      case rel =>
        refine ⟨i + 1, by omega, by go_num, ?_, (hb.out.alloc hb.out.size _).setCell (Nat.le_refl _) _⟩
        have h1 := (hr.out.of_block (Below.heap_alloc wr (.cells #[.int .i64 y, .int .u8 kd, .int .i64 (v i)] 61) _ hr.out.lt)).set i (.int .i64 y)
        refine h1.congr fun j _ => ?_
        unfold rup
        by_cases e : j = i
        · subst e; rw [if_pos rfl, if_pos (by omega), HY.out]
        · rw [if_neg e]
          by_cases g : j < i
          · rw [if_pos g, if_pos (by omega)]
          · rw [if_neg g, if_neg (by omega)]
      case measure => simp [intOf]; omega
    · obtain rfl : i = m := by omega
      have HH : Hid (Holds (Value.int .i64) wr wa.heap.size 0 (rwl a i).toArray) := fun j hj => by
        have hj2 : j < i := by simpa [rwl_length] using hj
        rw [Nat.zero_add]
        refine ⟨?_, hr.out.frozen j⟩
        rw [hr.out.cell hj2]
        unfold rup
        rw [if_pos hj2, getElem!_pos _ j hj]
        simp [rwl]
      obtain ⟨zs, hzs⟩ : ∃ zs, zs = rwl a i := ⟨_, rfl⟩
      have HZS : Hid (zs = rwl a i) := hzs
      have hzl : zs.length = i := by rw [hzs, rwl_length]
      rw [<- hzs] at HH
      have HSO := Im.slices_Sort_int wa.heap.size 0 i zs wr HH.out hr.out.lt (by omega)
      rw [hzl] at HSO
      have HLT : Hid (wa.heap.size < wr.heap.size) := hr.out.lt
      clear hzs
      go_wp2_with fail
      refine HSO.mono ?_
      rintro e w2 ⟨rfl, nn, os, rfl⟩
      have hsl : (zs.mergeSort fun x y => decide (x <= y)).length = i := by rw [List.length_mergeSort, hzl]
      have hH2 : Holds (Value.int .i64) (grow (putRow (Value.int .i64) (Sort.ahead wr nn) wa.heap.size 0 (zs.mergeSort fun x y => decide (x <= y)).toArray) os) wa.heap.size 0 (zs.mergeSort fun x y => decide (x <= y)).toArray :=
        holds_grow _ _ os _ 0 _ (by simpa [putRow, mapBlock, Sort.ahead] using HLT.out) (holds_putRow _ _ _ 0 _ _ (holds_ahead _ wr nn _ 0 _ HH.out) (by simp))
      have HCO := Im.slices_Compact_int wa.heap.size 0 i (zs.mergeSort fun x y => decide (x <= y)) _ hH2 (by omega) (by omega)
      rw [hsl] at HCO
      have HEN : Hid (∀ q, _ /\ _) := fun q => rows_end (q := q) (nn := nn) (os := os) hzl HH.out HLT.out hb.out
      have HMT : Hid (Lib.compact (zs.mergeSort fun x y => decide (x <= y)) = mts a i) := by show _ = _; rw [HZS.out]; rfl
      obtain ⟨wy, hwy⟩ : ∃ wy, wy = grow (putRow (Value.int .i64) (Sort.ahead wr nn) wa.heap.size 0 (zs.mergeSort fun x y => decide (x <= y)).toArray) os := ⟨_, rfl⟩
      rw [<- hwy] at HCO HEN
      rw [<- hwy]
      rw [HMT.out] at HCO HEN
      obtain ⟨M, hM⟩ : ∃ M, M = mts a i := ⟨_, rfl⟩
      rw [<- hM] at HCO HEN
      have HM : Hid (M = mts a i) := hM
      clear hwy hH2 HSO hsl hM
      go_wp2_with fail
      refine HCO.mono ?_
      rintro e w3 ⟨rfl, q, hw3⟩
      have HE := HEN.out q
      rw [<- hw3] at HE
      clear hw3 HCO
      go_wp2_with fail
      go_ret2
      rw [<- HM.out]
      exact ⟨_, _, rfl, HE.1, below_then HWA.out HE.2⟩
end Go.Proofs.YtmoenmpbkockoaaGreat
