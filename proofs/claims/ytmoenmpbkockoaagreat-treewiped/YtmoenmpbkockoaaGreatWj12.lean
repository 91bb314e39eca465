import Derived.Laws.AppendOwnNone
import Derived.Laws.OwnMore
import Derived.Laws.BytesArg
import Derived.Laws.CopyOwn
import Derived.Laws.IdiomStrings
import Derived.Laws.Rows
import Derived.Laws.BitsAllLaws
import Derived.Deep.AppendLies
import Derived.Deep.OwnRows
import Derived.Deep.RegionLawGrows
import Derived.Lib.SliceRun
import Derived.BigQuiet
import Derived.StillTailTactics
import Derived.WalkMore
import Derived.Test.YtmoenmpbkockoaaGreatWj7
import Derived.Test.YtmoenmpbkockoaaGreatWj11
namespace Go.Proofs.YtmoenmpbkockoaaGreat
open Go.RowKit
theorem Par.sum {k r c q : Int} {N W : Nat} (h : Par k r c q N W 0) : (N : Int) = k + r := by
  rcases h with ⟨_, _, h0, _⟩ | ⟨_, _, _, h1⟩
  · exact h0
  · cases h1
end Go.Proofs.YtmoenmpbkockoaaGreat
namespace Go.Proofs.YtmoenmpbkockoaaGreat.De
theorem nm_move (F : Nat -> UInt8) (a o k : Nat) : nm (fun j => F (a + j)) o k = nm F (a + o) k := nm_congr fun i _ => by rw [Nat.add_assoc]
def okR (q a v : Int) : Bool := decide (0 <= a /\ a < q /\ 1 <= v /\ v <= 1073741824)
def okL (q : Int) (n : Nat) (R V : Nat -> Int) : Bool := decide (∀ i, i < n -> okR q (R i) (V i) = true)
theorem okL_any (q : Int) (n : Nat) (R V : Nat -> Int) : anyB n (fun i => !okR q (R i) (V i)) = !okL q n R V := by
  unfold anyB okL
  congr 1
  apply decide_eq_decide.2
  constructor
  · intro h i hi
    have h2 : (!okR q (R i) (V i)) = false := h i hi
    simpa using h2
  · intro h i hi
    show (!okR q (R i) (V i)) = false
    rw [h i hi]; rfl
def cntD (W s : Nat) : Nat := if lvs W s = 0 then s else lvs W s
def dpt (W s : Nat) : Nat := min (lvs W s) 1
def okD (W : Nat) (q len dep : Int) (n : Nat) (R V : Nat -> Int) : Bool :=
  decide (0 <= len /\ len <= (mst W : Int) /\ dep = ((dpt W (up len.toNat W) : Nat) : Int) /\ n = cntD W (up len.toNat W) /\ okL q n R V = true)
theorem okD_true {W : Nat} {q len dep : Int} {n : Nat} {R V : Nat -> Int} (h : okD W q len dep n R V = true) : 0 <= len /\ len <= (mst W : Int) /\ dep = ((dpt W (up len.toNat W) : Nat) : Int) /\ n = cntD W (up len.toNat W) /\ okL q n R V = true := of_decide_eq_true h
theorem cntD_few {W len : Nat} (h : 32 <= W) (hl : len <= mst W) : cntD W (up len W) <= dir W := by
  unfold cntD
  split
  · rename_i h0
    have := (lvs_pos (s := up len W) h)
    omega
  · exact Nat.le_trans (lvs_mono (up_mono hl)) (lvs_top h)
theorem dir_room {W : Nat} (h : 32 <= W) : 7 + 6 * dir W <= W := by unfold dir; omega
theorem lea_room (W : Nat) : 6 * lea W <= W := by unfold lea; omega
theorem okD_few {W : Nat} {q len dep : Int} {n : Nat} {R V : Nat -> Int} (hW : 32 <= W) (h : okD W q len dep n R V = true) : n <= dir W /\ len.toNat <= 32768 /\ 0 <= len /\ (dep = 0 \/ dep = 1) /\ okL q n R V = true := by
  obtain ⟨h1, h2, h3, h4, h5⟩ := okD_true h
  have hm := mst_le W
  refine ⟨by rw [h4]; exact cntD_few hW (by omega), by omega, h1, ?_, h5⟩
  rw [h3]
  unfold dpt
  omega
def rdR (F : Nat -> UInt8) (o i : Nat) : Int := ((nm F (o + 6 * i) 2 : Nat) : Int)
def rdV (F : Nat -> UInt8) (o i : Nat) : Int := ((nm F (o + 6 * i + 2) 4 : Nat) : Int)
def isL (W : Nat) (q : Int) (n : Nat) (F : Nat -> UInt8) : Bool := decide (okL q n (rdR F 0) (rdV F 0) = true /\ ∀ j, j < W -> 6 * n <= j -> F j = 0)
def isD (W : Nat) (q : Int) (F : Nat -> UInt8) : Bool := decide (okD W q ((nm F 0 4 : Nat) : Int) ((nm F 4 1 : Nat) : Int) (nm F 5 2) (rdR F 7) (rdV F 7) = true /\ ∀ j, j < W -> 7 + 6 * nm F 5 2 <= j -> F j = 0)
theorem isD_true {W : Nat} {q : Int} {F : Nat -> UInt8} (h : isD W q F = true) : okD W q ((nm F 0 4 : Nat) : Int) ((nm F 4 1 : Nat) : Int) (nm F 5 2) (rdR F 7) (rdV F 7) = true /\ ∀ j, j < W -> 7 + 6 * nm F 5 2 <= j -> F j = 0 := of_decide_eq_true h
def erB (y : Int) (W : Nat) (q : Int) (m : Nat) (F : Nat -> UInt8) : Int := if y = 0 then (if m = W then (if isD W q F = true then 0 else 150) else 20) else y
def erR (y : Int) (W : Nat) (q : Int) (m : Nat) (n : Int) (F : Nat -> UInt8) : Int := if y = 0 then (if m = W then (if n < 1 \/ (lea W : Int) < n then 20 else if isL W q n.toNat F = true then 0 else 150) else 20) else y
end Go.Proofs.YtmoenmpbkockoaaGreat.De
namespace Go.Proofs.YtmoenmpbkockoaaGreat.De
open Go.RowKit
def RdR (w : World) (ao : Option Addr) (n : Nat) (R V : Nat -> Int) : Prop :=
  0 < n -> ∃ b off, ao = some ⟨b, off, none⟩ /\ ∀ i, i < n -> w.cell? ⟨b, off + i * 2, none⟩ = some (.int .i64 (R i)) /\ w.cell? ⟨b, off + i * 2 + 1, none⟩ = some (.int .i64 (V i))
theorem RdR.below {w w' : World} {ao : Option Addr} {n : Nat} {R V : Nat -> Int} (h : RdR w ao n R V) (ho : Below w.heap.size w w') : RdR w' ao n R V := by
  intro hn
  obtain ⟨b, off, rfl, hc⟩ := h hn
  exact ⟨b, off, rfl, fun i hi => ⟨held (hc i hi).1 ho, held (hc i hi).2 ho⟩⟩
structure Rec (w : World) (ao : Option Addr) (n cap : Nat) (R V : Nat -> Int) : Prop where
  rd : RdR w ao n R V
  nil : ao = none -> n = 0 /\ cap = 0
  room : n <= cap
theorem Rec.below {w w' : World} {ao : Option Addr} {n cap : Nat} {R V : Nat -> Int} (h : Rec w ao n cap R V) (ho : Below w.heap.size w w') : Rec w' ao n cap R V := ⟨h.rd.below ho, h.nil, h.room⟩
theorem rec_nil (w : World) (R V : Nat -> Int) : Rec w none 0 0 R V := ⟨fun h => absurd h (Nat.lt_irrefl 0), fun _ => ⟨rfl, rfl⟩, Nat.le_refl _⟩
def rvl (R V : Nat -> Int) : Nat -> List Value
  | 0 => []
  | n + 1 => rvl R V n ++ [.int .i64 (R n), .int .i64 (V n)]
theorem rvl_length (R V : Nat -> Int) (n : Nat) : (rvl R V n).length = n * 2 := by
  induction n with
  | zero => rfl
  | succ n ih => rw [rvl, List.length_append, ih, Nat.succ_mul]; rfl
theorem rvl_get (R V : Nat -> Int) (n i : Nat) (hi : i < n) : (rvl R V n)[i * 2]? = some (.int .i64 (R i)) /\ (rvl R V n)[i * 2 + 1]? = some (.int .i64 (V i)) := by
  induction n with
  | zero => omega
  | succ n ih =>
    have hl := rvl_length R V n
    rw [rvl]
    by_cases h : i < n
    · rw [List.getElem?_append_left (by omega), List.getElem?_append_left (by omega)]; exact ih h
    · obtain rfl : i = n := by omega
      rw [List.getElem?_append_right (by omega), List.getElem?_append_right (by omega), hl, Nat.sub_self, show i * 2 + 1 - i * 2 = 1 by omega]
      exact ⟨rfl, rfl⟩
theorem rvl_one (R V : Nat -> Int) (n : Nat) : ∀ v ∈ rvl R V n, v.oneCell' = true := by
  induction n with
  | zero => intro v hv; cases hv
  | succ n ih =>
    intro v hv
    rw [rvl, List.mem_append] at hv
    rcases hv with hv | hv
    · exact ih v hv
    · simp at hv; rcases hv with rfl | rfl <;> rfl
theorem rvl_congr {R V R' V' : Nat -> Int} {n : Nat} (h : ∀ i, i < n -> R i = R' i /\ V i = V' i) : rvl R V n = rvl R' V' n := by
  induction n with
  | zero => rfl
  | succ n ih => rw [rvl, rvl, ih (fun i hi => h i (by omega)), (h n (by omega)).1, (h n (by omega)).2]
theorem rvl_ext {R V : Nat -> Int} {n : Nat} {l : List Value} (hl : l.length = n * 2) (h : ∀ i, i < n -> l[i * 2]? = some (.int .i64 (R i)) /\ l[i * 2 + 1]? = some (.int .i64 (V i))) : l = rvl R V n := by
  apply List.ext_getElem?
  intro j
  by_cases hj : j < n * 2
  · obtain ⟨i, hi⟩ : ∃ i, i = j / 2 := ⟨_, rfl⟩
    rcases (show j = i * 2 \/ j = i * 2 + 1 by omega) with e | e
    · rw [e, (h i (by omega)).1, (rvl_get R V n i (by omega)).1]
    · rw [e, (h i (by omega)).2, (rvl_get R V n i (by omega)).2]
  · rw [List.getElem?_eq_none (by omega), List.getElem?_eq_none (by rw [rvl_length]; omega)]
def OwR (B : Nat) (w : World) (ao : Option Addr) (n cap : Nat) (R V : Nat -> Int) : Prop := w.ownsRow B 63 2 (.slice ao n cap) n (rvl R V n)
theorem owr_nil (B : Nat) (w : World) (R V : Nat -> Int) : OwR B w none 0 0 R V := World.ownsRow_nil _ _ _ _
theorem OwR.congr {B : Nat} {w : World} {ao : Option Addr} {n cap : Nat} {R V R' V' : Nat -> Int} (h : OwR B w ao n cap R V) (e : ∀ i, i < n -> R i = R' i /\ V i = V' i) : OwR B w ao n cap R' V' := by
  unfold OwR at *; rw [<- rvl_congr e]; exact h
theorem OwR.rec {B : Nat} {w : World} {ao : Option Addr} {n cap : Nat} {R V : Nat -> Int} (h : OwR B w ao n cap R V) : Rec w ao n cap R V := by
  have h0 := h
  rcases h.2 with ⟨h1, h2⟩ | ⟨g, cap', cur, h1, _, _, h4, _⟩
  · cases h1; exact rec_nil _ _ _
  · cases h1
    refine ⟨fun hp => ⟨g, 0, rfl, fun i hi => ?_⟩, (fun e => by cases e), h4⟩
    have c0 := World.ownsRow.cells h0 (g := g) rfl (i * 2) _ (rvl_get R V n i hi).1
    have c1 := World.ownsRow.cells h0 (g := g) rfl (i * 2 + 1) _ (rvl_get R V n i hi).2
    rw [Addr.add_lit] at c0 c1
    exact ⟨c0, c1⟩
theorem OwR.stay {B : Nat} {w w' : World} {ao : Option Addr} {n cap : Nat} {R V : Nat -> Int} (h : OwR B w ao n cap R V) (hb : ∀ g, B <= g -> g < w.heap.size -> w'.heap[g]? = w.heap[g]?) : OwR B w' ao n cap R V := by
  refine ⟨h.1, ?_⟩
  rcases h.2 with h1 | ⟨g, cap', cur, h1, h2, h3, h4⟩
  · exact .inl h1
  · exact .inr ⟨g, cap', cur, h1, h2, by rw [hb g h2 (Array.getElem?_eq_some_iff.1 h3).1]; exact h3, h4⟩
theorem OwR.below {B : Nat} {w w' : World} {ao : Option Addr} {n cap : Nat} {R V : Nat -> Int} (h : OwR B w ao n cap R V) (hb : Below w.heap.size w w') : OwR B w' ao n cap R V := h.stay fun g _ hg => hb.block g hg
theorem OwR.mono {B B' : Nat} {w : World} {ao : Option Addr} {n cap : Nat} {R V : Nat -> Int} (h : OwR B w ao n cap R V) (hb : B' <= B) : OwR B' w ao n cap R V := by
  refine ⟨h.1, ?_⟩
  rcases h.2 with h1 | ⟨g, cap', cur, h1, h2, h3⟩
  · exact .inl h1
  · exact .inr ⟨g, cap', cur, h1, by omega, h3⟩
theorem OwR.at_ {B : Nat} {w : World} {ao : Option Addr} {n cap : Nat} {R V : Nat -> Int} (h : OwR B w ao n cap R V) (hn : 0 < n) : ∃ g, ao = some ⟨g, 0, none⟩ /\ B <= g /\ g < w.heap.size := by
  rcases h.2 with ⟨_, h2⟩ | ⟨g, cap', cur, h1, h2, h3, h4⟩
  · omega
  · cases h1; exact ⟨g, rfl, h2, (Array.getElem?_eq_some_iff.1 h3).1⟩
theorem OwR.cell {B : Nat} {w : World} {g n cap : Nat} {R V : Nat -> Int} (h : OwR B w (some ⟨g, 0, none⟩) n cap R V) {i : Nat} (hi : i < n) : w.cell? ⟨g, i * 2, none⟩ = some (.int .i64 (R i)) /\ w.cell? ⟨g, i * 2 + 1, none⟩ = some (.int .i64 (V i)) := by
  rw [World.ownsRow.cellAt h (i * 2) (by omega), World.ownsRow.cellAt h (i * 2 + 1) (by omega)]; exact rvl_get _ _ _ _ hi
theorem info27 : (Tryz.prog.info? 63).map (fun i => (i.zero, i.size, i.bytes)) = some (some (.agg #[.int .i64 0, .int .i64 0]), 2, 16) := by kernel_rfl
end Go.Proofs.YtmoenmpbkockoaaGreat.De
namespace Go.Proofs.YtmoenmpbkockoaaGreat.De
open Go.RowKit
theorem bec_behind {w : World} {b off n cp k : Nat} {F : Nat -> UInt8} (h : Bec w (some ⟨b, off, none⟩) n cp F) (hk : k <= n) : Bec w (some ⟨b, off + k, none⟩) (n - k) (cp - k) (fun j => F (k + j)) := by
  refine ⟨fun hn => ?_, (fun e => by cases e), by have := h.room; omega⟩
  obtain ⟨b', off', e, hc⟩ := h.rd (by omega)
  cases e
  exact ⟨b, off + k, rfl, fun j hj => by rw [Nat.add_assoc]; exact hc (k + j) (by omega)⟩
set_option maxHeartbeats 2000000 in
set_option maxRecDepth 100000 in
theorem takeNumber_any (w : World) (ao : Option Addr) (n cp k : Nat) (F : Nat -> UInt8) (h : Bec w ao n cp F) (hk : k <= n) (hk1 : 1 <= k) (hk4 : k <= 4) :
    Calls Tryz.prog 155 #[.slice ao n cp, .int .i64 (k : Int)] w fun e w' => ∃ bo, e = .returned (.tuple #[.int .i64 ((nm F 0 k : Nat) : Int), .slice bo (n - k) (cp - k)]) /\ (∀ u, Bec u ao n cp F -> Bec u bo (n - k) (cp - k) (fun j => F (k + j))) /\ Below w.heap.size w w' := by
  obtain ⟨b, off, rfl, hr⟩ := h.rd (by omega)
  have HR : Hid (∀ j, j < n -> w.cell? ⟨b, off + j, none⟩ = some (.int .u8 (((F j).toNat : Nat) : Int))) := hr
  have HB : Hid (∀ j, j <= k -> nm F 0 j < 4294967296) := fun j hj => Nat.lt_of_lt_of_le (nm_lt F 0 j) (by
    rcases (show j = 0 \/ j = 1 \/ j = 2 \/ j = 3 \/ j = 4 by omega) with rfl | rfl | rfl | rfl | rfl <;> decide)
  have HS : Hid (∀ j, nm F 0 (j + 1) = nm F 0 j * 256 + (F j).toNat) := fun j => by show _ = _; rw [nm, Nat.zero_add]
  have HL : Hid (∀ j, (F j).toNat < 256) := fun j => (F j).toNat_lt
  have HX : Hid (Bec w (some ⟨b, off, none⟩) n cp F) := h
  have hroom := h.room
  clear hr h
  have k0 : (0 : Int) <= (k : Int) := by omega
  have k1 : (k : Int) <= (cp : Int) := by omega
  have k2 : (k : Int) <= (n : Int) := by omega
  by_cases hcap : cp = k
  · obtain rfl : n = k := by omega
    subst hcap
    go_enter Tryz.func155, Tryz.ntmps155
    go_wp2
    go_loop [6, 13] (fun y x => ∃ i : Nat, i <= cp /\ x = .int .i64 (i : Int) /\ ∃ z : Nat, y = .int .i64 (z : Int) /\ Hid (z = nm F 0 i)) (fun _ x => cp - (intOf x).toNat)
    case atStart => exact ⟨0, Nat.zero_le _, rfl, 0, rfl, rfl⟩
    case round =>
      obtain ⟨i, hi, rfl, z, rfl, hz⟩ := hrel
      by_cases hlt : i < cp
      · have ck := HR.out i (by omega)
        have hb := HB.out i (by omega)
        have hs := HS.out i
        have hl := HL.out i
        rw [<- hz.out] at hb hs
        obtain ⟨u, hu⟩ : ∃ u : Nat, (F i).toNat = u := ⟨_, rfl⟩
        rw [hu] at ck hs hl
        have HN : Hid (nm F 0 (i + 1) = z * 256 + u) := hs
        have hor : bits .or .i64 ((z : Int) * 256) (u : Int) = ((z * 256 + u : Nat) : Int) := by
          rw [show (z : Int) * 256 = ((z * 256 : Nat) : Int) by omega, i64_or_nat _ _ (by omega) (by omega), or_mul _ _ hl]
        have i1 : (0 : Int) <= (i : Int) := by omega
        have i2 : (i : Int) < (cp : Int) := by omega
        clear hs hu hz
        go_wp2
        go_round
        case rel => exact ⟨i + 1, by omega, by go_num, z * 256 + u, by go_num, HN.out.symm⟩
        case measure => simp [intOf]; omega
      · obtain rfl : i = cp := by omega
        go_wp2_with fail
        go_quiet (fail)
        go_wp2
        go_ret2
        refine ⟨some ⟨b, off, none⟩, ?_, ?_, below_drewN _ _ _⟩
        · rw [hz.out, Nat.sub_self]; rfl
        · intro u _; rw [Nat.sub_self]; exact ⟨fun h => absurd h (Nat.lt_irrefl 0), (fun e => by cases e), Nat.le_refl _⟩
  · have hcap2 : ¬ (k : Int) = (cp : Int) := by omega
    go_enter Tryz.func155, Tryz.ntmps155
    go_wp2
    go_loop [6, 13] (fun y x => ∃ i : Nat, i <= k /\ x = .int .i64 (i : Int) /\ ∃ z : Nat, y = .int .i64 (z : Int) /\ Hid (z = nm F 0 i)) (fun _ x => k - (intOf x).toNat)
    case atStart => exact ⟨0, Nat.zero_le _, rfl, 0, rfl, rfl⟩
    case round =>
      obtain ⟨i, hi, rfl, z, rfl, hz⟩ := hrel
      by_cases hlt : i < k
      · have ck := HR.out i (by omega)
        have hb := HB.out i (by omega)
        have hs := HS.out i
        have hl := HL.out i
        rw [<- hz.out] at hb hs
        obtain ⟨u, hu⟩ : ∃ u : Nat, (F i).toNat = u := ⟨_, rfl⟩
        rw [hu] at ck hs hl
        have HN : Hid (nm F 0 (i + 1) = z * 256 + u) := hs
        have hor : bits .or .i64 ((z : Int) * 256) (u : Int) = ((z * 256 + u : Nat) : Int) := by
          rw [show (z : Int) * 256 = ((z * 256 : Nat) : Int) by omega, i64_or_nat _ _ (by omega) (by omega), or_mul _ _ hl]
        have i1 : (0 : Int) <= (i : Int) := by omega
        have i2 : (i : Int) < (k : Int) := by omega
        clear hs hu hz
        go_wp2
        go_round
        case rel => exact ⟨i + 1, by omega, by go_num, z * 256 + u, by go_num, HN.out.symm⟩
        case measure => simp [intOf]; omega
      · obtain rfl : i = k := by omega
        go_wp2_with fail
        go_quiet (fail)
        go_wp2
        go_ret2
        exact ⟨some ⟨b, off + i, none⟩, by rw [hz.out]; rfl, fun u hu => bec_behind hu hk, below_drewN _ _ _⟩
end Go.Proofs.YtmoenmpbkockoaaGreat.De
