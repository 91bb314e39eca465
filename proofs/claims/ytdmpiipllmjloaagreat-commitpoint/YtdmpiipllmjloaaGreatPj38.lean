import Derived.Laws.AppendOwnNone
import Derived.Laws.OwnMore
import Derived.Laws.BytesArg
import Derived.Laws.CopyOwn
import Derived.Laws.IdiomStrings
import Derived.Laws.Rows
import Derived.Laws.BitsAllLaws
import Derived.Deep.AppendLies
import Derived.Deep.OwnRows
import Derived.Deep.RegionLawGrows
import Derived.Lib.SliceRun
import Derived.BigQuiet
import Derived.StillTailTactics
import Derived.WalkMore
import Derived.Test.YtdmpiipllmjloaaGreatPj4
import Derived.Test.YtdmpiipllmjloaaGreatPj11
import Derived.Test.YtdmpiipllmjloaaGreatPj28
import Derived.Test.YtdmpiipllmjloaaGreatPj37
namespace Go.Proofs.YtdmpiipllmjloaaGreat.De
theorem nm_move (F : Nat -> UInt8) (a o k : Nat) : nm (fun j => F (a + j)) o k = nm F (a + o) k := nm_congr fun i _ => by rw [Nat.add_assoc]
theorem nm_part {F : Nat -> UInt8} {o k m : Nat} (h : ∀ i, i < k -> F (o + i) = dg m (k - 1 - i)) (hm : m < 256 ^ k) : ∀ t, t <= k -> nm F o t = m / 256 ^ (k - t)
  | 0, _ => by rw [nm, Nat.sub_zero, Nat.div_eq_of_lt hm]
  | t + 1, ht => by
    rw [nm, nm_part h hm t (by omega), h t (by omega), dg_toNat, show k - t = (k - 1 - t) + 1 by omega, <- pow_step, show k - (t + 1) = k - 1 - t by omega]
    omega
theorem nm_dg {F : Nat -> UInt8} {o k m : Nat} (h : ∀ i, i < k -> F (o + i) = dg m (k - 1 - i)) (hm : m < 256 ^ k) : nm F o k = m := by
  have := nm_part h hm k (Nat.le_refl _)
  rw [Nat.sub_self, Nat.pow_zero, Nat.div_one] at this
  exact this
def okR (q a v : Int) : Bool := decide (0 <= a /\ a < q /\ 1 <= v /\ v <= 1073741824)
theorem okR_true {q a v : Int} (h : okR q a v = true) : 0 <= a /\ a < q /\ 1 <= v /\ v <= 1073741824 := of_decide_eq_true h
def okL (q : Int) (n : Nat) (R V : Nat -> Int) : Bool := decide (∀ i, i < n -> okR q (R i) (V i) = true)
theorem okL_true {q : Int} {n : Nat} {R V : Nat -> Int} (h : okL q n R V = true) : ∀ i, i < n -> okR q (R i) (V i) = true := of_decide_eq_true h
theorem okL_congr {q : Int} {n : Nat} {R V R' V' : Nat -> Int} (h : ∀ i, i < n -> R i = R' i /\ V i = V' i) : okL q n R V = okL q n R' V' := by
  unfold okL
  apply decide_eq_decide.2
  constructor
  · intro k i hi; rw [<- (h i hi).1, <- (h i hi).2]; exact k i hi
  · intro k i hi; rw [(h i hi).1, (h i hi).2]; exact k i hi
theorem okL_any (q : Int) (n : Nat) (R V : Nat -> Int) : anyB n (fun i => !okR q (R i) (V i)) = !okL q n R V := by
  unfold anyB okL
  congr 1
  apply decide_eq_decide.2
  constructor
  · intro h i hi
    have h2 : (!okR q (R i) (V i)) = false := h i hi
    simpa using h2
  · intro h i hi
    show (!okR q (R i) (V i)) = false
    rw [h i hi]; rfl
def cntD (W s : Nat) : Nat := if lvs W s = 0 then s else lvs W s
def dpt (W s : Nat) : Nat := min (lvs W s) 1
def okD (W : Nat) (q len dep : Int) (n : Nat) (R V : Nat -> Int) : Bool :=
  decide (0 <= len /\ len <= (mst W : Int) /\ dep = ((dpt W (up len.toNat W) : Nat) : Int) /\ n = cntD W (up len.toNat W) /\ okL q n R V = true)
theorem okD_true {W : Nat} {q len dep : Int} {n : Nat} {R V : Nat -> Int} (h : okD W q len dep n R V = true) : 0 <= len /\ len <= (mst W : Int) /\ dep = ((dpt W (up len.toNat W) : Nat) : Int) /\ n = cntD W (up len.toNat W) /\ okL q n R V = true := of_decide_eq_true h
theorem okD_congr {W : Nat} {q len dep : Int} {n : Nat} {R V R' V' : Nat -> Int} (h : ∀ i, i < n -> R i = R' i /\ V i = V' i) : okD W q len dep n R V = okD W q len dep n R' V' := by
  unfold okD; rw [okL_congr h]
theorem cntD_few {W len : Nat} (h : 32 <= W) (hl : len <= mst W) : cntD W (up len W) <= dir W := by
  unfold cntD
  split
  · rename_i h0
    have := (lvs_pos (s := up len W) h)
    omega
  · exact Nat.le_trans (lvs_mono (up_mono hl)) (lvs_top h)
theorem dir_room {W : Nat} (h : 32 <= W) : 7 + 6 * dir W <= W := by unfold dir; omega
theorem okD_few {W : Nat} {q len dep : Int} {n : Nat} {R V : Nat -> Int} (hW : 32 <= W) (h : okD W q len dep n R V = true) : n <= dir W /\ len.toNat <= 32768 /\ 0 <= len /\ (dep = 0 \/ dep = 1) /\ okL q n R V = true := by
  obtain ⟨h1, h2, h3, h4, h5⟩ := okD_true h
  have hm := mst_le W
  refine ⟨by rw [h4]; exact cntD_few hW (by omega), by omega, h1, ?_, h5⟩
  rw [h3]
  unfold dpt
  omega
def rfB (R V : Nat -> Int) (j : Nat) : UInt8 := if j % 6 < 2 then dg (R (j / 6)).toNat (1 - j % 6) else dg (V (j / 6)).toNat (5 - j % 6)
def lfB (n : Nat) (R V : Nat -> Int) (j : Nat) : UInt8 := if j < 6 * n then rfB R V j else 0
def deB (len dep : Int) (n : Nat) (R V : Nat -> Int) (j : Nat) : UInt8 := if j < 4 then dg len.toNat (3 - j) else if j < 5 then dg dep.toNat 0 else if j < 7 then dg n (6 - j) else lfB n R V (j - 7)
theorem rfB_row {R V : Nat -> Int} {i t : Nat} (ht : t < 2) : rfB R V (6 * i + t) = dg (R i).toNat (2 - 1 - t) := by
  unfold rfB; rw [if_pos (by omega), show (6 * i + t) / 6 = i by omega, show (6 * i + t) % 6 = t by omega]
theorem rfB_ver {R V : Nat -> Int} {i t : Nat} (ht : t < 4) : rfB R V (6 * i + 2 + t) = dg (V i).toNat (4 - 1 - t) := by
  unfold rfB; rw [if_neg (by omega), show (6 * i + 2 + t) / 6 = i by omega, show (6 * i + 2 + t) % 6 = 2 + t by omega, show 5 - (2 + t) = 4 - 1 - t by omega]
def rdR (F : Nat -> UInt8) (o i : Nat) : Int := ((nm F (o + 6 * i) 2 : Nat) : Int)
def rdV (F : Nat -> UInt8) (o i : Nat) : Int := ((nm F (o + 6 * i + 2) 4 : Nat) : Int)
theorem rd_rfB {F : Nat -> UInt8} {o n : Nat} {q : Int} {R V : Nat -> Int} (hq : q <= 256) (hok : okL q n R V = true) (hF : ∀ j, j < 6 * n -> F (o + j) = rfB R V j) (i : Nat) (hi : i < n) : rdR F o i = R i /\ rdV F o i = V i := by
  obtain ⟨h1, h2, h3, h4⟩ := okR_true (okL_true hok i hi)
  constructor
  · unfold rdR
    rw [nm_dg (m := (R i).toNat) (fun t ht => by rw [Nat.add_assoc, hF (6 * i + t) (by omega)]; exact rfB_row ht) (by omega)]
    omega
  · unfold rdV
    rw [nm_dg (m := (V i).toNat) (fun t ht => by rw [Nat.add_assoc, Nat.add_assoc, hF (6 * i + (2 + t)) (by omega), <- Nat.add_assoc]; exact rfB_ver ht) (by omega)]
    omega
def isD (W : Nat) (q : Int) (F : Nat -> UInt8) : Bool := decide (okD W q ((nm F 0 4 : Nat) : Int) ((nm F 4 1 : Nat) : Int) (nm F 5 2) (rdR F 7) (rdV F 7) = true /\ ∀ j, j < W -> 7 + 6 * nm F 5 2 <= j -> F j = 0)
theorem isD_true {W : Nat} {q : Int} {F : Nat -> UInt8} (h : isD W q F = true) : okD W q ((nm F 0 4 : Nat) : Int) ((nm F 4 1 : Nat) : Int) (nm F 5 2) (rdR F 7) (rdV F 7) = true /\ ∀ j, j < W -> 7 + 6 * nm F 5 2 <= j -> F j = 0 := of_decide_eq_true h
theorem desc_back {W : Nat} {q len dep : Int} {n : Nat} {R V : Nat -> Int} {F : Nat -> UInt8} (hW : 32 <= W) (hW2 : W <= 768) (hq : q <= 256) (hok : okD W q len dep n R V = true) (hF : ∀ j, j < W -> F j = deB len dep n R V j) :
    isD W q F = true /\ ((nm F 0 4 : Nat) : Int) = len /\ ((nm F 4 1 : Nat) : Int) = dep /\ nm F 5 2 = n /\ ∀ i, i < n -> rdR F 7 i = R i /\ rdV F 7 i = V i := by
  obtain ⟨h1, h2, h3, h4, h5⟩ := okD_few hW hok
  have hd := dir_room hW
  have hd2 := dir_le hW2
  have e1 : nm F 0 4 = len.toNat := nm_dg (fun t ht => by rw [Nat.zero_add, hF t (by omega)]; unfold deB; rw [if_pos ht]) (by omega)
  have e2 : nm F 4 1 = dep.toNat := nm_dg (fun t ht => by
    obtain rfl : t = 0 := by omega
    rw [hF 4 (by omega)]; rfl) (by omega)
  have e3 : nm F 5 2 = n := nm_dg (fun t ht => by rw [hF (5 + t) (by omega)]; unfold deB; rw [if_neg (by omega), if_neg (by omega), if_pos (by omega), show 6 - (5 + t) = 2 - 1 - t by omega]) (by omega)
  have h := rd_rfB (F := F) (o := 7) hq h5 (fun j hj => by rw [hF (7 + j) (by omega)]; unfold deB lfB; rw [if_neg (by omega), if_neg (by omega), if_neg (by omega), show 7 + j - 7 = j by omega, if_pos hj])
  have e4 : ((nm F 0 4 : Nat) : Int) = len := by omega
  have e5 : ((nm F 4 1 : Nat) : Int) = dep := by omega
  refine ⟨decide_eq_true ⟨?_, fun j hj hj2 => ?_⟩, e4, e5, e3, h⟩
  · rw [e4, e5, e3, okD_congr h]; exact hok
  · rw [e3] at hj2
    rw [hF j hj]; unfold deB lfB; rw [if_neg (by omega), if_neg (by omega), if_neg (by omega), if_neg (by omega)]
def erD (y : Int) (W : Nat) (q len dep : Int) (n : Nat) (R V : Nat -> Int) : Int := if y = 0 then (if okD W q len dep n R V = true then 0 else 150) else y
def erB (y : Int) (W : Nat) (q : Int) (m : Nat) (F : Nat -> UInt8) : Int := if y = 0 then (if m = W then (if isD W q F = true then 0 else 150) else 20) else y
theorem erD_of {y : Int} {W : Nat} {q len dep : Int} {n : Nat} {R V : Nat -> Int} (h : erD y W q len dep n R V = 0) : y = 0 /\ okD W q len dep n R V = true := by
  unfold erD at h
  by_cases hy : y = 0
  · rw [if_pos hy] at h
    by_cases ho : okD W q len dep n R V = true
    · exact ⟨hy, ho⟩
    · rw [if_neg ho] at h; cases h
  · rw [if_neg hy] at h; exact absurd h hy
theorem erB_of {y : Int} {W : Nat} {q : Int} {m : Nat} {F : Nat -> UInt8} (h : erB y W q m F = 0) : y = 0 /\ m = W /\ isD W q F = true := by
  unfold erB at h
  by_cases hy : y = 0
  · rw [if_pos hy] at h
    by_cases hm : m = W
    · rw [if_pos hm] at h
      by_cases ho : isD W q F = true
      · exact ⟨hy, hm, ho⟩
      · rw [if_neg ho] at h; cases h
    · rw [if_neg hm] at h; cases h
  · rw [if_neg hy] at h; exact absurd h hy
end Go.Proofs.YtdmpiipllmjloaaGreat.De
namespace Go.Proofs.YtdmpiipllmjloaaGreat.De
open Go.RowKit
theorem wpList_append_bytes {w : World} {ops : Array Oper} {rest : List Oper} {o : Oper} {a : Act} {Q : Exit -> Act -> World -> Prop} (hgd : o.guard = none) (s x : Operand)
    (ho : o.op = .call { callee := .builtin .append, args := #[s, x], argTypes := #[55, 55] }) (B k n ca cb : Nat) (ao bo : Option Addr) (F G : Nat -> UInt8)
    (hs : a.eval s = .slice ao k ca) (hx : a.eval x = .slice bo n cb) (h : OwU B w ao k ca F) (hv : Bec w bo n cb G) (hk : k + n <= 140737488355328) (hB : B <= w.heap.size)
    (cont : ∀ ao' c' w', OwU B w' ao' (k + n) c' (upR F k n G) -> w.grownBy w' (Value.slice ao k ca).ownBlock -> wpList Tryz.prog ops Q rest (a.put o.dst (.slice ao' (k + n) c')) w') : wpList Tryz.prog ops Q (o :: rest) a w := by
  obtain ⟨j0, hj, hj0, hj1, hj2⟩ := info_parts info5
  have hl : byF k F ++ byF n G = byF (k + n) (upR F k n G) := by
    rw [byF_add, byF_congr (F := upR F k n G) (G := F) (fun i hi => upR_out (by omega)), byF_congr (F := fun i => upR F k n G (k + i)) (G := G) (fun i hi => by rw [upR_in (by omega), show k + i - k = i by omega])]
  cases bo with
  | none =>
    obtain ⟨rfl, rfl⟩ := hv.nil rfl
    have := cont ao ca w (by refine OwU.congr h fun i hi => (upR_out (by omega)).symm) ⟨rfl, rfl, rfl, Nat.le_refl _, fun _ _ _ => rfl⟩
    exact wpList_append_own_none hgd s x 55 ho B 5 j0 1 Tryz.underlying55 hj (.slice ao k ca) k (byF k F) hs h hx this
  | some ad =>
    refine wpList_append_own w hgd s x 55 ho B 5 j0 (.int .u8 0) 1 1 Tryz.underlying55 hj hj0 hj1 hj2 rfl (by decide) (.slice ao k ca) k (byF k F) hs h ad n cb (byF n G) hx (by rw [byF_length, Nat.mul_one]) (bec_news hv) (byF_one _ _) (by unfold maxLen; omega) (by omega) hB ?_
    intro v' w' h1 h2 _
    obtain ⟨ao', c', rfl⟩ : ∃ ao' c', v' = .slice ao' (k + n) c' := by
      rcases h1.2 with ⟨rfl, e⟩ | ⟨g, cap, cur, rfl, _⟩
      · rw [e]; exact ⟨none, 0, rfl⟩
      · exact ⟨_, cap, rfl⟩
    rw [hl] at h1
    exact cont ao' c' w' h1 h2
theorem own_ge {B : Nat} {w : World} {ao : Option Addr} {n cap : Nat} {F : Nat -> UInt8} (h : OwU B w ao n cap F) : ∀ g, (Value.slice ao n cap).ownBlock = some g -> B <= g := fun g hg => (World.ownsRow.lt h g hg).1
def RdR (w : World) (ao : Option Addr) (n : Nat) (R V : Nat -> Int) : Prop :=
  0 < n -> ∃ b off, ao = some ⟨b, off, none⟩ /\ ∀ i, i < n -> w.cell? ⟨b, off + i * 2, none⟩ = some (.int .i64 (R i)) /\ w.cell? ⟨b, off + i * 2 + 1, none⟩ = some (.int .i64 (V i))
theorem RdR.below {w w' : World} {ao : Option Addr} {n : Nat} {R V : Nat -> Int} (h : RdR w ao n R V) (ho : Below w.heap.size w w') : RdR w' ao n R V := by
  intro hn
  obtain ⟨b, off, rfl, hc⟩ := h hn
  exact ⟨b, off, rfl, fun i hi => ⟨held (hc i hi).1 ho, held (hc i hi).2 ho⟩⟩
structure Rec (w : World) (ao : Option Addr) (n cap : Nat) (R V : Nat -> Int) : Prop where
  rd : RdR w ao n R V
  nil : ao = none -> n = 0 /\ cap = 0
  room : n <= cap
theorem Rec.below {w w' : World} {ao : Option Addr} {n cap : Nat} {R V : Nat -> Int} (h : Rec w ao n cap R V) (ho : Below w.heap.size w w') : Rec w' ao n cap R V := ⟨h.rd.below ho, h.nil, h.room⟩
theorem rec_nil (w : World) (R V : Nat -> Int) : Rec w none 0 0 R V := ⟨fun h => absurd h (Nat.lt_irrefl 0), fun _ => ⟨rfl, rfl⟩, Nat.le_refl _⟩
def rvl (R V : Nat -> Int) : Nat -> List Value
  | 0 => []
  | n + 1 => rvl R V n ++ [.int .i64 (R n), .int .i64 (V n)]
theorem rvl_length (R V : Nat -> Int) (n : Nat) : (rvl R V n).length = n * 2 := by
  induction n with
  | zero => rfl
  | succ n ih => rw [rvl, List.length_append, ih, Nat.succ_mul]; rfl
theorem rvl_get (R V : Nat -> Int) (n i : Nat) (hi : i < n) : (rvl R V n)[i * 2]? = some (.int .i64 (R i)) /\ (rvl R V n)[i * 2 + 1]? = some (.int .i64 (V i)) := by
  induction n with
  | zero => omega
  | succ n ih =>
    have hl := rvl_length R V n
    rw [rvl]
    by_cases h : i < n
    · rw [List.getElem?_append_left (by omega), List.getElem?_append_left (by omega)]; exact ih h
    · obtain rfl : i = n := by omega
      rw [List.getElem?_append_right (by omega), List.getElem?_append_right (by omega), hl, Nat.sub_self, show i * 2 + 1 - i * 2 = 1 by omega]
      exact ⟨rfl, rfl⟩
theorem rvl_one (R V : Nat -> Int) (n : Nat) : ∀ v ∈ rvl R V n, v.oneCell' = true := by
  induction n with
  | zero => intro v hv; cases hv
  | succ n ih =>
    intro v hv
    rw [rvl, List.mem_append] at hv
    rcases hv with hv | hv
    · exact ih v hv
    · simp at hv; rcases hv with rfl | rfl <;> rfl
theorem rvl_congr {R V R' V' : Nat -> Int} {n : Nat} (h : ∀ i, i < n -> R i = R' i /\ V i = V' i) : rvl R V n = rvl R' V' n := by
  induction n with
  | zero => rfl
  | succ n ih => rw [rvl, rvl, ih (fun i hi => h i (by omega)), (h n (by omega)).1, (h n (by omega)).2]
theorem rvl_ext {R V : Nat -> Int} {n : Nat} {l : List Value} (hl : l.length = n * 2) (h : ∀ i, i < n -> l[i * 2]? = some (.int .i64 (R i)) /\ l[i * 2 + 1]? = some (.int .i64 (V i))) : l = rvl R V n := by
  apply List.ext_getElem?
  intro j
  by_cases hj : j < n * 2
  · obtain ⟨i, hi⟩ : ∃ i, i = j / 2 := ⟨_, rfl⟩
    rcases (show j = i * 2 \/ j = i * 2 + 1 by omega) with e | e
    · rw [e, (h i (by omega)).1, (rvl_get R V n i (by omega)).1]
    · rw [e, (h i (by omega)).2, (rvl_get R V n i (by omega)).2]
  · rw [List.getElem?_eq_none (by omega), List.getElem?_eq_none (by rw [rvl_length]; omega)]
def OwR (B : Nat) (w : World) (ao : Option Addr) (n cap : Nat) (R V : Nat -> Int) : Prop := w.ownsRow B 81 2 (.slice ao n cap) n (rvl R V n)
theorem owr_nil (B : Nat) (w : World) (R V : Nat -> Int) : OwR B w none 0 0 R V := World.ownsRow_nil _ _ _ _
theorem OwR.congr {B : Nat} {w : World} {ao : Option Addr} {n cap : Nat} {R V R' V' : Nat -> Int} (h : OwR B w ao n cap R V) (e : ∀ i, i < n -> R i = R' i /\ V i = V' i) : OwR B w ao n cap R' V' := by
  unfold OwR at *; rw [<- rvl_congr e]; exact h
theorem OwR.rec {B : Nat} {w : World} {ao : Option Addr} {n cap : Nat} {R V : Nat -> Int} (h : OwR B w ao n cap R V) : Rec w ao n cap R V := by
  have h0 := h
  rcases h.2 with ⟨h1, h2⟩ | ⟨g, cap', cur, h1, _, _, h4, _⟩
  · cases h1; exact rec_nil _ _ _
  · cases h1
    refine ⟨fun hp => ⟨g, 0, rfl, fun i hi => ?_⟩, (fun e => by cases e), h4⟩
    have c0 := World.ownsRow.cells h0 (g := g) rfl (i * 2) _ (rvl_get R V n i hi).1
    have c1 := World.ownsRow.cells h0 (g := g) rfl (i * 2 + 1) _ (rvl_get R V n i hi).2
    rw [Addr.add_lit] at c0 c1
    exact ⟨c0, c1⟩
theorem OwR.stay {B : Nat} {w w' : World} {ao : Option Addr} {n cap : Nat} {R V : Nat -> Int} (h : OwR B w ao n cap R V) (hb : ∀ g, B <= g -> g < w.heap.size -> w'.heap[g]? = w.heap[g]?) : OwR B w' ao n cap R V := by
  refine ⟨h.1, ?_⟩
  rcases h.2 with h1 | ⟨g, cap', cur, h1, h2, h3, h4⟩
  · exact .inl h1
  · exact .inr ⟨g, cap', cur, h1, h2, by rw [hb g h2 (Array.getElem?_eq_some_iff.1 h3).1]; exact h3, h4⟩
theorem OwR.below {B : Nat} {w w' : World} {ao : Option Addr} {n cap : Nat} {R V : Nat -> Int} (h : OwR B w ao n cap R V) (hb : Below w.heap.size w w') : OwR B w' ao n cap R V := h.stay fun g _ hg => hb.block g hg
theorem OwR.mono {B B' : Nat} {w : World} {ao : Option Addr} {n cap : Nat} {R V : Nat -> Int} (h : OwR B w ao n cap R V) (hb : B' <= B) : OwR B' w ao n cap R V := by
  refine ⟨h.1, ?_⟩
  rcases h.2 with h1 | ⟨g, cap', cur, h1, h2, h3⟩
  · exact .inl h1
  · exact .inr ⟨g, cap', cur, h1, by omega, h3⟩
theorem info27 : (Tryz.prog.info? 81).map (fun i => (i.zero, i.size, i.bytes)) = some (some (.agg #[.int .i64 0, .int .i64 0]), 2, 16) := by kernel_rfl
theorem made_bytes (n : Nat) : madeCells #[Value.int .u8 0] n = (byF n (fun _ => 0)).toArray := by
  apply Array.ext'
  apply List.ext_getElem?
  intro i
  by_cases hi : i < n
  · rw [List.toList_toArray, byF_get _ _ _ hi]
    simp [madeCells, hi, Nat.mod_one]
  · rw [List.getElem?_eq_none (by simp [madeCells]; omega), List.getElem?_eq_none (by simp [byF_length]; omega)]
end Go.Proofs.YtdmpiipllmjloaaGreat.De
namespace Go.Proofs.YtdmpiipllmjloaaGreat
open Go.RowKit
theorem rows_set {N d : Nat} (T : Nat -> Option Addr) (L U : Nat -> Nat) (a : Option Addr) (l u : Nat) : (Cod.rowsOf N T L U).set d (.slice a l u) = Cod.rowsOf N (Cod.put d a T) (Cod.put d l L) (Cod.put d u U) := by
  apply List.ext_getElem?
  intro i
  rw [List.getElem?_set]
  by_cases hi : i < N
  · rw [Cod.rowsOf_get N (Cod.put d a T) _ _ i hi]
    by_cases e : d = i
    · subst e; rw [if_pos rfl, if_pos (by rw [Cod.rowsOf_length]; exact hi), Cod.put_at, Cod.put_at, Cod.put_at]
    · rw [if_neg e, Cod.rowsOf_get _ _ _ _ _ hi, Cod.put_ne _ _ (fun h => e h.symm), Cod.put_ne _ _ (fun h => e h.symm), Cod.put_ne _ _ (fun h => e h.symm)]
  · have h1 : (Cod.rowsOf N (Cod.put d a T) (Cod.put d l L) (Cod.put d u U))[i]? = none := List.getElem?_eq_none (by rw [Cod.rowsOf_length]; omega)
    rw [h1]
    by_cases e : d = i
    · subst e; rw [if_pos rfl, if_neg (by rw [Cod.rowsOf_length]; exact hi)]
    · rw [if_neg e, List.getElem?_eq_none (by rw [Cod.rowsOf_length]; omega)]
end Go.Proofs.YtdmpiipllmjloaaGreat
