import Derived.Shelf.Sort.Plain
import Derived.Shelf.Slices.CompactI
import Derived.Sort.OwnSortedInts
import Derived.Lib.OwnBridge
import Derived.Lib.RowBridge
import Derived.Test.YtngcdlodcdgcaaaGreatProg
import Derived.Test.YtngcdlodcdgcaaaGreatZk21
namespace Go.Proofs.YtngcdlodcdgcaaaGreat.Im
open Go.Shelf
def lays189_ren : Go.Shelf.Ren := ⟨fun | 189 => 19 | 125 => 32 | 257 => 31 | 128 => 55 | 129 => 56 | 294 => 46 | 295 => 47 | 296 => 48 | 297 => 49 | 298 => 50 | 299 => 51 | 216 => 52 | 300 => 53 | 301 => 54 | 328 => 82 | 329 => 83 | 330 => 84 | 331 => 85 | 332 => 86 | 215 => 87 | 343 => 111 | n => n, fun | 28 => 33 | 3 => 3 | 46 => 73 | 0 => 0 | 51 => 108 | 53 => 110 | 4 => 4 | 183 => 100 | 182 => 99 | 131 => 105 | 5 => 5 | 9 => 9 | 218 => 145 | 222 => 149 | 228 => 180 | 229 => 181 | n => n, fun | n => n⟩
theorem lays189 : Go.Proofs.Lays.n189 Tryz.prog lays189_ren := {
  mixed := by kernel_rfl
  f125 := Tryz.func32.trans (congrArg some (by kernel_rfl))
  f128 := Tryz.func55.trans (congrArg some (by kernel_rfl))
  f129 := Tryz.func56.trans (congrArg some (by kernel_rfl))
  f189 := Tryz.func19.trans (congrArg some (by kernel_rfl))
  f215 := Tryz.func87.trans (congrArg some (by kernel_rfl))
  f216 := Tryz.func52.trans (congrArg some (by kernel_rfl))
  f257 := Tryz.func31.trans (congrArg some (by kernel_rfl))
  f294 := Tryz.func46.trans (congrArg some (by kernel_rfl))
  f295 := Tryz.func47.trans (congrArg some (by kernel_rfl))
  f296 := Tryz.func48.trans (congrArg some (by kernel_rfl))
  f297 := Tryz.func49.trans (congrArg some (by kernel_rfl))
  f298 := Tryz.func50.trans (congrArg some (by kernel_rfl))
  f299 := Tryz.func51.trans (congrArg some (by kernel_rfl))
  f300 := Tryz.func53.trans (congrArg some (by kernel_rfl))
  f301 := Tryz.func54.trans (congrArg some (by kernel_rfl))
  f328 := Tryz.func82.trans (congrArg some (by kernel_rfl))
  f329 := Tryz.func83.trans (congrArg some (by kernel_rfl))
  f330 := Tryz.func84.trans (congrArg some (by kernel_rfl))
  f331 := Tryz.func85.trans (congrArg some (by kernel_rfl))
  f332 := Tryz.func86.trans (congrArg some (by kernel_rfl))
  f343 := Tryz.func111.trans (congrArg some (by kernel_rfl))
  t0 := Tryz.underlying0
  a0 := Tryz.isAgg0
  z0 := Tryz.sizeOf0
  v0 := Tryz.zeroValue0
  t3 := Tryz.underlying3
  a3 := Tryz.isAgg3
  z3 := Tryz.sizeOf3
  v3 := Tryz.zeroValue3
  t4 := Tryz.underlying4
  a4 := Tryz.isAgg4
  z4 := Tryz.sizeOf4
  v4 := Tryz.zeroValue4
  t5 := Tryz.underlying5
  a5 := Tryz.isAgg5
  z5 := Tryz.sizeOf5
  v5 := Tryz.zeroValue5
  t9 := Tryz.underlying9
  a9 := Tryz.isAgg9
  z9 := Tryz.sizeOf9
  v9 := Tryz.zeroValue9
  t28 := Tryz.underlying33
  a28 := Tryz.isAgg33
  z28 := Tryz.sizeOf33
  v28 := Tryz.zeroValue33
  t46 := Tryz.underlying73
  a46 := Tryz.isAgg73
  z46 := Tryz.sizeOf73
  v46 := Tryz.zeroValue73
  t51 := Tryz.underlying108
  a51 := Tryz.isAgg108
  z51 := Tryz.sizeOf108
  v51 := Tryz.zeroValue108
  t53 := Tryz.underlying110
  a53 := Tryz.isAgg110
  z53 := Tryz.sizeOf110
  v53 := Tryz.zeroValue110
  t131 := Tryz.underlying105
  a131 := Tryz.isAgg105
  z131 := Tryz.sizeOf105
  v131 := Tryz.zeroValue105
  t182 := Tryz.underlying99
  a182 := Tryz.isAgg99
  z182 := Tryz.sizeOf99
  v182 := Tryz.zeroValue99
  t183 := Tryz.underlying100
  a183 := Tryz.isAgg100
  z183 := Tryz.sizeOf100
  v183 := Tryz.zeroValue100
  t218 := Tryz.underlying145
  a218 := Tryz.isAgg145
  z218 := Tryz.sizeOf145
  v218 := Tryz.zeroValue145
  t222 := Tryz.underlying149
  a222 := Tryz.isAgg149
  z222 := Tryz.sizeOf149
  v222 := Tryz.zeroValue149
  t228 := Tryz.underlying180
  a228 := Tryz.isAgg180
  z228 := Tryz.sizeOf180
  v228 := Tryz.zeroValue180
  t229 := Tryz.underlying181
  a229 := Tryz.isAgg181
  z229 := Tryz.sizeOf181
  v229 := Tryz.zeroValue181 }
open Go.Sort Go.RowKit in
theorem slices_Sort_int (blk off cap : Nat) (zs : List Int) (w : World) (hH : Holds (Value.int .i64) w blk off zs.toArray) (hblk : blk < w.heap.size) (hsz : zs.length < 4611686018427387904) :
    Calls Tryz.prog 19 #[.slice (some ⟨blk, off, none⟩) zs.length cap] w fun e w' =>
      e = .returned (.tuple #[]) /\ ∃ n os, w' = grow (putRow (Value.int .i64) (Sort.ahead w n) blk off (zs.mergeSort fun x y => decide (x <= y)).toArray) os := Any.slices_Sort_int lays189 blk off cap zs w hH hblk hsz
def laysNm220_ren : Go.Shelf.Ren := ⟨fun | 20 => 20 | n => n, fun | 22 => 33 | 3 => 3 | 4 => 4 | 0 => 0 | n => n, fun | n => n⟩
theorem laysNm220 : Go.Proofs.Lays2.n20 Tryz.prog laysNm220_ren := {
  mixed := by kernel_rfl
  f20 := Tryz.func20.trans (congrArg some (by kernel_rfl))
  t0 := Tryz.underlying0
  a0 := Tryz.isAgg0
  z0 := Tryz.sizeOf0
  v0 := Tryz.zeroValue0
  t3 := Tryz.underlying3
  a3 := Tryz.isAgg3
  z3 := Tryz.sizeOf3
  v3 := Tryz.zeroValue3
  t4 := Tryz.underlying4
  a4 := Tryz.isAgg4
  z4 := Tryz.sizeOf4
  v4 := Tryz.zeroValue4
  t22 := Tryz.underlying33
  a22 := Tryz.isAgg33
  z22 := Tryz.sizeOf33
  v22 := Tryz.zeroValue33
  i3 := by kernel_rfl }
open Go.RowKit Go.Lib Go.Sort in
theorem slices_Compact_int (blk off cap : Nat) (zs : List Int) (w : World) (hH : Holds (Value.int .i64) w blk off zs.toArray) (hsz : zs.length <= 9223372036854775807) (hcap : zs.length <= cap) :
    Calls Tryz.prog 20 #[.slice (some ⟨blk, off, none⟩) zs.length cap] w fun e w' => e = .returned (.slice (some ⟨blk, off, none⟩) (Lib.compact zs).length cap) /\ ∃ q, w' = putRow (Value.int .i64) (Sort.ahead w q) blk off (Lib.compact zs ++ List.replicate (zs.length - (Lib.compact zs).length) 0).toArray := Any.slices_Compact_int laysNm220 blk off cap zs w hH hsz hcap
end Go.Proofs.YtngcdlodcdgcaaaGreat.Im
namespace Go.Proofs.YtngcdlodcdgcaaaGreat
open Go.RowKit Go.Sort
def RdL (w : World) (ao : Option Addr) (L : List Int) : Prop :=
  L ≠ [] -> ∃ b off, ao = some ⟨b, off, none⟩ /\ ∀ j (hj : j < L.length), w.cell? ⟨b, off + j, none⟩ = some (.int .i64 L[j])
def Inc (L : List Int) : Prop := L.Pairwise (· < ·)
theorem compact_inc (d : Array Int) (hd : ∀ i j, i <= j -> j < d.size -> d[i]! <= d[j]!) : ∀ m, m <= d.size -> Inc (Lib.compactUpTo d m) /\ ∀ x, x ∈ Lib.compactUpTo d m ↔ ∃ j, j < m /\ d[j]! = x
  | 0, _ => ⟨by simp [Inc, Lib.compactUpTo], fun x => by simp [Lib.compactUpTo]⟩
  | m + 1, hm => by
    obtain ⟨h1, h2⟩ := compact_inc d hd m (by omega)
    rw [Lib.compactUpTo_succ]
    by_cases hk : m = 0 \/ d[m]! ≠ d[m - 1]!
    · have hkk : Lib.keeps d m = true := by
        rcases hk with e | e
        · subst e; exact Lib.keeps_lt_one d 0 (by omega)
        · exact Lib.keeps_pos e
      rw [if_pos hkk]
      refine ⟨List.pairwise_append.2 ⟨h1, by simp, fun x hx y hy => ?_⟩, fun x => ?_⟩
      · obtain ⟨j, hj, rfl⟩ := (h2 x).1 hx
        obtain rfl : y = d[m]! := by simpa using hy
        have ha := hd j (m - 1) (by omega) (by omega)
        have hb := hd (m - 1) m (by omega) (by omega)
        rcases hk with e | e
        · omega
        · omega
      · rw [List.mem_append, h2]
        constructor
        · rintro (⟨j, hj, e⟩ | e)
          · exact ⟨j, by omega, e⟩
          · exact ⟨m, by omega, by simpa using Eq.symm (by simpa using e)⟩
        · rintro ⟨j, hj, e⟩
          rcases Nat.lt_succ_iff_lt_or_eq.1 hj with g | rfl
          · exact .inl ⟨j, g, e⟩
          · exact .inr (by simp [e])
    · have hm0 : 0 < m := by omega
      have he : d[m]! = d[m - 1]! := Classical.byContradiction fun h => hk (.inr h)
      rw [if_neg (by rw [Lib.keeps_neg hm0 he]; decide), List.append_nil]
      refine ⟨h1, fun x => ?_⟩
      rw [h2]
      constructor
      · rintro ⟨j, hj, e⟩; exact ⟨j, by omega, e⟩
      · rintro ⟨j, hj, e⟩
        rcases Nat.lt_succ_iff_lt_or_eq.1 hj with g | rfl
        · exact ⟨j, g, e⟩
        · exact ⟨j - 1, by omega, by rw [<- he]; exact e⟩
def rwl (f : Nat -> Int) (ln : Nat) : List Int := (List.range ln).map f
theorem rwl_length (f : Nat -> Int) (ln : Nat) : (rwl f ln).length = ln := by simp [rwl]
theorem rwl_mem (f : Nat -> Int) (ln : Nat) (x : Int) : x ∈ rwl f ln ↔ ∃ j, j < ln /\ f j = x := by simp [rwl]
def mts (f : Nat -> Int) (ln : Nat) : List Int := Lib.compact ((rwl f ln).mergeSort fun x y => decide (x <= y))
theorem mts_spec (f : Nat -> Int) (ln : Nat) : Inc (mts f ln) /\ ∀ x, x ∈ mts f ln ↔ ∃ j, j < ln /\ f j = x := by
  have hs : ((rwl f ln).mergeSort fun x y => decide (x <= y)).Pairwise (fun a b => decide (a <= b) = true) := List.pairwise_mergeSort (fun a b c h1 h2 => by simp at *; omega) (fun a b => by simp; omega) _
  generalize hz : (rwl f ln).mergeSort (fun x y => decide (x <= y)) = zs at hs
  have hm : ∀ x, x ∈ zs ↔ ∃ j, j < ln /\ f j = x := fun x => by rw [<- hz, List.mem_mergeSort, rwl_mem]
  unfold mts
  rw [hz]
  have hd : ∀ i j, i <= j -> j < zs.toArray.size -> zs.toArray[i]! <= zs.toArray[j]! := fun i j hij hj => by
    simp at hj
    rcases Nat.eq_or_lt_of_le hij with e | e
    · subst e; omega
    · have h := List.pairwise_iff_getElem.1 hs i j (by omega) hj e
      rw [getElem!_pos zs.toArray i (by simp; omega), getElem!_pos zs.toArray j (by simpa using hj)]
      simpa using h
  obtain ⟨h1, h2⟩ := compact_inc zs.toArray hd zs.length (by simp)
  refine ⟨h1, fun x => (h2 x).trans ?_⟩
  rw [<- hm, List.mem_iff_getElem]
  constructor
  · rintro ⟨j, hj, e⟩; exact ⟨j, hj, by rw [getElem!_pos zs.toArray j (by simpa using hj)] at e; simpa using e⟩
  · rintro ⟨j, hj, e⟩; exact ⟨j, hj, by rw [getElem!_pos zs.toArray j (by simpa using hj)]; simpa using e⟩
theorem mts_le (f : Nat -> Int) (ln : Nat) : (mts f ln).length <= ln := by
  have := Lib.compact_length_le ((rwl f ln).mergeSort fun x y => decide (x <= y))
  rw [List.length_mergeSort, rwl_length] at this
  exact this
def rup (f : Nat -> Int) (i j : Nat) : Value := .int .i64 (if j < i then f j else 0)
theorem rows_end {w wr : World} {ln q nn : Nat} {os : Array Obj} {zs : List Int} (hz : zs.length = ln) (hH : Holds (Value.int .i64) wr w.heap.size 0 zs.toArray) (hg : w.heap.size < wr.heap.size) (hb : Below w.heap.size w wr) :
    RdL (putRow (Value.int .i64) (Sort.ahead (grow (putRow (Value.int .i64) (Sort.ahead wr nn) w.heap.size 0 (zs.mergeSort fun x y => decide (x <= y)).toArray) os) q) w.heap.size 0 (Lib.compact (zs.mergeSort fun x y => decide (x <= y)) ++ List.replicate (ln - (Lib.compact (zs.mergeSort fun x y => decide (x <= y))).length) 0).toArray) (some ⟨w.heap.size, 0, none⟩) (Lib.compact (zs.mergeSort fun x y => decide (x <= y))) /\
    Below w.heap.size w (putRow (Value.int .i64) (Sort.ahead (grow (putRow (Value.int .i64) (Sort.ahead wr nn) w.heap.size 0 (zs.mergeSort fun x y => decide (x <= y)).toArray) os) q) w.heap.size 0 (Lib.compact (zs.mergeSort fun x y => decide (x <= y)) ++ List.replicate (ln - (Lib.compact (zs.mergeSort fun x y => decide (x <= y))).length) 0).toArray) := by
  have hsl : (zs.mergeSort fun x y => decide (x <= y)).length = ln := by rw [List.length_mergeSort, hz]
  have hle := Lib.compact_length_le (zs.mergeSort fun x y => decide (x <= y))
  generalize zs.mergeSort (fun x y => decide (x <= y)) = ss at *
  have hH2 : Holds (Value.int .i64) (grow (putRow (Value.int .i64) (Sort.ahead wr nn) w.heap.size 0 ss.toArray) os) w.heap.size 0 ss.toArray :=
    holds_grow _ _ os _ 0 _ (by simpa [putRow, mapBlock, Sort.ahead] using hg) (holds_putRow _ _ _ 0 _ _ (holds_ahead _ wr nn _ 0 _ hH) (by simp; omega))
  have hH3 := holds_putRow (Value.int .i64) _ w.heap.size 0 _ (Lib.compact ss ++ List.replicate (ln - (Lib.compact ss).length) 0).toArray (holds_ahead _ _ q _ 0 _ hH2) (by simp; omega)
  constructor
  · intro _
    refine ⟨w.heap.size, 0, rfl, fun j hj => ?_⟩
    have h := (hH3 j (by simp; omega)).1
    rw [h, getElem!_pos _ j (by simp; omega)]
    simp [List.getElem_append_left hj]
  · exact Lib.below_putRow (hb.grown (grownBy_sortedI _) hb.size (fun j hj => by cases hj; exact Nat.le_refl _)) (Nat.le_refl _)
end Go.Proofs.YtngcdlodcdgcaaaGreat
