/- Descriptors and leaves as plain numbers and bytes: which may be, their bytes, what bytes are read as. No program here. -/
import Derived.Test.YtjncnojplkljnaaLayMath
namespace Go.Proofs.Ytjncnojplkljnaa

def put {α : Type} (i : Nat) (v : α) (R : Nat → α) : Nat → α := fun j => if j = i then v else R j
theorem put_at {α : Type} (i : Nat) (v : α) (R : Nat → α) : put i v R i = v := if_pos rfl
theorem put_ne {α : Type} {i j : Nat} (v : α) (R : Nat → α) (h : j ≠ i) : put i v R j = R j := if_neg h
theorem first_bad {p : Nat → Prop} : ∀ n, ¬ p n → ∃ k, k ≤ n ∧ ¬ p k ∧ ∀ i, i < k → p i := by
  intro n
  induction n using Nat.strongRecOn with
  | ind n ih =>
    intro h
    by_cases hall : ∀ i, i < n → p i
    · exact ⟨n, Nat.le_refl _, h, hall⟩
    · obtain ⟨i, hi⟩ := Classical.not_forall.1 hall
      obtain ⟨h1, h2⟩ := Classical.not_imp.1 hi
      obtain ⟨k, hk, h3, h4⟩ := ih i h1 h2
      exact ⟨k, by omega, h3, h4⟩
theorem first_not {p : Nat → Prop} {n : Nat} (h : ¬ ∀ i, i < n → p i) : ∃ q, q < n ∧ ¬ p q ∧ ∀ i, i < q → p i := by
  obtain ⟨i, hi⟩ := Classical.not_forall.1 h
  obtain ⟨p1, p2⟩ := Classical.not_imp.1 hi
  obtain ⟨k, hk, p3, p4⟩ := first_bad (p := p) i p2
  exact ⟨k, by omega, p3, p4⟩
/-- Is one of them marked? -/
def anyB (n : Nat) (P : Nat → Bool) : Bool := !decide (∀ i, i < n → P i = false)

/-! ### numbers as bytes, the great end first -/
def dg (m i : Nat) : UInt8 := UInt8.ofNat (m / 256 ^ i)
theorem dg_toNat (m i : Nat) : (dg m i).toNat = m / 256 ^ i % 256 := by unfold dg; simp
/-- The number that k bytes from o on are. -/
def nm (F : Nat → UInt8) (o : Nat) : Nat → Nat
  | 0 => 0
  | k + 1 => nm F o k * 256 + (F (o + k)).toNat
theorem nm_lt (F : Nat → UInt8) (o : Nat) : ∀ k, nm F o k < 256 ^ k
  | 0 => by rw [nm]; decide
  | k + 1 => by
    have h := nm_lt F o k
    have h2 : (F (o + k)).toNat < 256 := (F (o + k)).toNat_lt
    rw [nm, Nat.pow_succ]
    omega
theorem nm_congr {F G : Nat → UInt8} {o p : Nat} : ∀ {k : Nat}, (∀ i, i < k → F (o + i) = G (p + i)) → nm F o k = nm G p k
  | 0, _ => rfl
  | k + 1, h => by rw [nm, nm, nm_congr (k := k) (fun i hi => h i (by omega)), h k (by omega)]
theorem nm_move (F : Nat → UInt8) (a o k : Nat) : nm (fun j => F (a + j)) o k = nm F (a + o) k := nm_congr fun i _ => by rw [Nat.add_assoc]
theorem nm_top (F : Nat → UInt8) (o : Nat) (t : Nat) : ∀ k, nm F o (t + k) / 256 ^ k = nm F o t
  | 0 => by simp
  | k + 1 => by
    have h2 : (F (o + (t + k))).toNat < 256 := (F (o + (t + k))).toNat_lt
    rw [← nm_top F o t k, show t + (k + 1) = (t + k) + 1 by omega, nm, Nat.pow_succ, Nat.mul_comm (256 ^ k), ← Nat.div_div_eq_div_mul, show (nm F o (t + k) * 256 + (F (o + (t + k))).toNat) / 256 = nm F o (t + k) by omega]
theorem dg_nm (F : Nat → UInt8) (o k i : Nat) (hi : i < k) : dg (nm F o k) (k - 1 - i) = F (o + i) := by
  apply UInt8.toNat_inj.1
  have h := nm_top F o (i + 1) (k - 1 - i)
  rw [show i + 1 + (k - 1 - i) = k by omega] at h
  have h2 : (F (o + i)).toNat < 256 := (F (o + i)).toNat_lt
  rw [dg_toNat, h, nm]
  omega
theorem pow_step (m t : Nat) : m / 256 ^ t / 256 = m / 256 ^ (t + 1) := by rw [Nat.div_div_eq_div_mul, Nat.pow_succ]
theorem nm_part {F : Nat → UInt8} {o k m : Nat} (h : ∀ i, i < k → F (o + i) = dg m (k - 1 - i)) (hm : m < 256 ^ k) : ∀ t, t ≤ k → nm F o t = m / 256 ^ (k - t)
  | 0, _ => by rw [nm, Nat.sub_zero, Nat.div_eq_of_lt hm]
  | t + 1, ht => by
    rw [nm, nm_part h hm t (by omega), h t (by omega), dg_toNat, show k - t = (k - 1 - t) + 1 by omega, ← pow_step, show k - (t + 1) = k - 1 - t by omega]
    omega
theorem nm_dg {F : Nat → UInt8} {o k m : Nat} (h : ∀ i, i < k → F (o + i) = dg m (k - 1 - i)) (hm : m < 256 ^ k) : nm F o k = m := by
  have := nm_part h hm k (Nat.le_refl _)
  rw [Nat.sub_self, Nat.pow_zero, Nat.div_one] at this
  exact this
/-- Some bytes written over others. -/
def upR (G : Nat → UInt8) (o k : Nat) (H : Nat → UInt8) : Nat → UInt8 := fun j => if o ≤ j ∧ j < o + k then H (j - o) else G j
theorem upR_in {G : Nat → UInt8} {o k : Nat} {H : Nat → UInt8} {j : Nat} (h : o ≤ j ∧ j < o + k) : upR G o k H j = H (j - o) := if_pos h
theorem upR_out {G : Nat → UInt8} {o k : Nat} {H : Nat → UInt8} {j : Nat} (h : ¬ (o ≤ j ∧ j < o + k)) : upR G o k H j = G j := if_neg h

/-! ### refs, leaves, descriptors -/
/-- May a ref be, of q rows? -/
def okR (q a v : Int) : Bool := decide (0 ≤ a ∧ a < q ∧ 1 ≤ v ∧ v ≤ 1073741824)
theorem okR_true {q a v : Int} (h : okR q a v = true) : 0 ≤ a ∧ a < q ∧ 1 ≤ v ∧ v ≤ 1073741824 := of_decide_eq_true h
def okL (q : Int) (n : Nat) (R V : Nat → Int) : Bool := decide (∀ i, i < n → okR q (R i) (V i) = true)
theorem okL_true {q : Int} {n : Nat} {R V : Nat → Int} (h : okL q n R V = true) : ∀ i, i < n → okR q (R i) (V i) = true := of_decide_eq_true h
theorem okL_congr {q : Int} {n : Nat} {R V R' V' : Nat → Int} (h : ∀ i, i < n → R i = R' i ∧ V i = V' i) : okL q n R V = okL q n R' V' := by
  unfold okL
  apply decide_eq_decide.2
  constructor
  · intro k i hi; rw [← (h i hi).1, ← (h i hi).2]; exact k i hi
  · intro k i hi; rw [(h i hi).1, (h i hi).2]; exact k i hi
theorem okL_any (q : Int) (n : Nat) (R V : Nat → Int) : anyB n (fun i => !okR q (R i) (V i)) = !okL q n R V := by
  unfold anyB okL
  congr 1
  apply decide_eq_decide.2
  constructor
  · intro h i hi
    have h2 : (!okR q (R i) (V i)) = false := h i hi
    simpa using h2
  · intro h i hi
    show (!okR q (R i) (V i)) = false
    rw [h i hi]; rfl
/-- How many refs a descriptor has, of an object of s stripes; its depth. -/
def cntD (W s : Nat) : Nat := if lvs W s = 0 then s else lvs W s
def dpt (W s : Nat) : Nat := min (lvs W s) 1
/-- May a descriptor be, of parameters that may? -/
def okD (W : Nat) (q len dep : Int) (n : Nat) (R V : Nat → Int) : Bool :=
  decide (0 ≤ len ∧ len ≤ (mst W : Int) ∧ dep = ((dpt W (up len.toNat W) : Nat) : Int) ∧ n = cntD W (up len.toNat W) ∧ okL q n R V = true)
theorem okD_true {W : Nat} {q len dep : Int} {n : Nat} {R V : Nat → Int} (h : okD W q len dep n R V = true) : 0 ≤ len ∧ len ≤ (mst W : Int) ∧ dep = ((dpt W (up len.toNat W) : Nat) : Int) ∧ n = cntD W (up len.toNat W) ∧ okL q n R V = true := of_decide_eq_true h
theorem okD_congr {W : Nat} {q len dep : Int} {n : Nat} {R V R' V' : Nat → Int} (h : ∀ i, i < n → R i = R' i ∧ V i = V' i) : okD W q len dep n R V = okD W q len dep n R' V' := by
  unfold okD; rw [okL_congr h]
theorem cntD_few {W len : Nat} (h : 32 ≤ W) (hl : len ≤ mst W) : cntD W (up len W) ≤ dir W := by
  unfold cntD
  split
  · rename_i h0
    have := (lvs_pos (s := up len W) h)
    omega
  · exact Nat.le_trans (lvs_mono (up_mono hl)) (lvs_top h)
theorem dir_room {W : Nat} (h : 32 ≤ W) : 7 + 6 * dir W ≤ W := by unfold dir; omega
theorem lea_room (W : Nat) : 6 * lea W ≤ W := by unfold lea; omega
theorem okD_few {W : Nat} {q len dep : Int} {n : Nat} {R V : Nat → Int} (hW : 32 ≤ W) (h : okD W q len dep n R V = true) : n ≤ dir W ∧ len.toNat ≤ 32768 ∧ 0 ≤ len ∧ (dep = 0 ∨ dep = 1) ∧ okL q n R V = true := by
  obtain ⟨h1, h2, h3, h4, h5⟩ := okD_true h
  have hm := mst_le W
  refine ⟨by rw [h4]; exact cntD_few hW (by omega), by omega, h1, ?_, h5⟩
  rw [h3]
  unfold dpt
  omega
/-- Refs as bytes; a leaf's; a descriptor's. -/
def rfB (R V : Nat → Int) (j : Nat) : UInt8 := if j % 6 < 2 then dg (R (j / 6)).toNat (1 - j % 6) else dg (V (j / 6)).toNat (5 - j % 6)
def lfB (n : Nat) (R V : Nat → Int) (j : Nat) : UInt8 := if j < 6 * n then rfB R V j else 0
def deB (len dep : Int) (n : Nat) (R V : Nat → Int) (j : Nat) : UInt8 := if j < 4 then dg len.toNat (3 - j) else if j < 5 then dg dep.toNat 0 else if j < 7 then dg n (6 - j) else lfB n R V (j - 7)
theorem rfB_congr {n : Nat} {R V R' V' : Nat → Int} (h : ∀ i, i < n → R i = R' i ∧ V i = V' i) {j : Nat} (hj : j < 6 * n) : rfB R V j = rfB R' V' j := by
  unfold rfB; rw [(h (j / 6) (by omega)).1, (h (j / 6) (by omega)).2]
theorem lfB_congr {n : Nat} {R V R' V' : Nat → Int} (h : ∀ i, i < n → R i = R' i ∧ V i = V' i) (j : Nat) : lfB n R V j = lfB n R' V' j := by
  unfold lfB
  split
  · rename_i hj; exact rfB_congr h hj
  · rfl
theorem deB_congr {len dep : Int} {n : Nat} {R V R' V' : Nat → Int} (h : ∀ i, i < n → R i = R' i ∧ V i = V' i) (j : Nat) : deB len dep n R V j = deB len dep n R' V' j := by
  unfold deB; rw [lfB_congr h]
theorem rfB_row {R V : Nat → Int} {i t : Nat} (ht : t < 2) : rfB R V (6 * i + t) = dg (R i).toNat (2 - 1 - t) := by
  unfold rfB; rw [if_pos (by omega), show (6 * i + t) / 6 = i by omega, show (6 * i + t) % 6 = t by omega]
theorem rfB_ver {R V : Nat → Int} {i t : Nat} (ht : t < 4) : rfB R V (6 * i + 2 + t) = dg (V i).toNat (4 - 1 - t) := by
  unfold rfB; rw [if_neg (by omega), show (6 * i + 2 + t) / 6 = i by omega, show (6 * i + 2 + t) % 6 = 2 + t by omega, show 5 - (2 + t) = 4 - 1 - t by omega]
/-- What refs bytes are, from o on. -/
def rdR (F : Nat → UInt8) (o i : Nat) : Int := ((nm F (o + 6 * i) 2 : Nat) : Int)
def rdV (F : Nat → UInt8) (o i : Nat) : Int := ((nm F (o + 6 * i + 2) 4 : Nat) : Int)
theorem rd_rfB {F : Nat → UInt8} {o n : Nat} {q : Int} {R V : Nat → Int} (hq : q ≤ 256) (hok : okL q n R V = true) (hF : ∀ j, j < 6 * n → F (o + j) = rfB R V j) (i : Nat) (hi : i < n) : rdR F o i = R i ∧ rdV F o i = V i := by
  obtain ⟨h1, h2, h3, h4⟩ := okR_true (okL_true hok i hi)
  constructor
  · unfold rdR
    rw [nm_dg (m := (R i).toNat) (fun t ht => by rw [Nat.add_assoc, hF (6 * i + t) (by omega)]; exact rfB_row ht) (by omega)]
    omega
  · unfold rdV
    rw [nm_dg (m := (V i).toNat) (fun t ht => by rw [Nat.add_assoc, Nat.add_assoc, hF (6 * i + (2 + t)) (by omega), ← Nat.add_assoc]; exact rfB_ver ht) (by omega)]
    omega
theorem rfB_rd (F : Nat → UInt8) (o j : Nat) : rfB (rdR F o) (rdV F o) j = F (o + j) := by
  unfold rfB rdR rdV
  by_cases h : j % 6 < 2
  · rw [if_pos h, Int.toNat_natCast, show 1 - j % 6 = 2 - 1 - j % 6 by omega, dg_nm F _ 2 (j % 6) h, show o + 6 * (j / 6) + j % 6 = o + j by omega]
  · rw [if_neg h, Int.toNat_natCast, show 5 - j % 6 = 4 - 1 - (j % 6 - 2) by omega, dg_nm F _ 4 (j % 6 - 2) (by omega), show o + 6 * (j / 6) + 2 + (j % 6 - 2) = o + j by omega]
/-- Are W bytes a leaf of n refs that may be? -/
def isL (W : Nat) (q : Int) (n : Nat) (F : Nat → UInt8) : Bool := decide (okL q n (rdR F 0) (rdV F 0) = true ∧ ∀ j, j < W → 6 * n ≤ j → F j = 0)
theorem isL_true {W : Nat} {q : Int} {n : Nat} {F : Nat → UInt8} (h : isL W q n F = true) : okL q n (rdR F 0) (rdV F 0) = true ∧ ∀ j, j < W → 6 * n ≤ j → F j = 0 := of_decide_eq_true h
theorem lfB_rd {W : Nat} {q : Int} {n : Nat} {F : Nat → UInt8} (h : isL W q n F = true) {j : Nat} (hj : j < W) : lfB n (rdR F 0) (rdV F 0) j = F j := by
  unfold lfB
  split
  · rw [rfB_rd, Nat.zero_add]
  · exact ((isL_true h).2 j hj (by omega)).symm
theorem leaf_back {W : Nat} {q : Int} {n : Nat} {R V : Nat → Int} {F : Nat → UInt8} (hq : q ≤ 256) (hn : 6 * n ≤ W) (hok : okL q n R V = true) (hF : ∀ j, j < W → F j = lfB n R V j) : isL W q n F = true ∧ ∀ i, i < n → rdR F 0 i = R i ∧ rdV F 0 i = V i := by
  have h := rd_rfB (F := F) (o := 0) hq hok (fun j hj => by rw [Nat.zero_add, hF j (by omega)]; unfold lfB; rw [if_pos hj])
  refine ⟨decide_eq_true ⟨by rw [okL_congr h]; exact hok, fun j hj hj2 => by rw [hF j hj]; unfold lfB; rw [if_neg (by omega)]⟩, h⟩
/-- Are the W bytes F a descriptor that may be? -/
def isD (W : Nat) (q : Int) (F : Nat → UInt8) : Bool := decide (okD W q ((nm F 0 4 : Nat) : Int) ((nm F 4 1 : Nat) : Int) (nm F 5 2) (rdR F 7) (rdV F 7) = true ∧ ∀ j, j < W → 7 + 6 * nm F 5 2 ≤ j → F j = 0)
theorem isD_true {W : Nat} {q : Int} {F : Nat → UInt8} (h : isD W q F = true) : okD W q ((nm F 0 4 : Nat) : Int) ((nm F 4 1 : Nat) : Int) (nm F 5 2) (rdR F 7) (rdV F 7) = true ∧ ∀ j, j < W → 7 + 6 * nm F 5 2 ≤ j → F j = 0 := of_decide_eq_true h
theorem deB_rd (F : Nat → UInt8) (j : Nat) : deB ((nm F 0 4 : Nat) : Int) ((nm F 4 1 : Nat) : Int) (nm F 5 2) (rdR F 7) (rdV F 7) j = if j < 7 + 6 * nm F 5 2 then F j else 0 := by
  unfold deB
  rw [Int.toNat_natCast, Int.toNat_natCast]
  by_cases h4 : j < 4
  · rw [if_pos h4, if_pos (by omega), show 3 - j = 4 - 1 - j by omega, dg_nm F 0 4 j h4, Nat.zero_add]
  rw [if_neg h4]
  by_cases h5 : j < 5
  · obtain rfl : j = 4 := by omega
    rw [if_pos h5, if_pos (by omega)]
    exact dg_nm F 4 1 0 (by omega)
  rw [if_neg h5]
  by_cases h7 : j < 7
  · rw [if_pos h7, if_pos (by omega), show 6 - j = 2 - 1 - (j - 5) by omega, dg_nm F 5 2 (j - 5) (by omega), show 5 + (j - 5) = j by omega]
  rw [if_neg h7]
  unfold lfB
  by_cases h : j < 7 + 6 * nm F 5 2
  · rw [if_pos h, if_pos (by omega), rfB_rd, show 7 + (j - 7) = j by omega]
  · rw [if_neg h, if_neg (by omega)]
theorem desc_again {W : Nat} {q : Int} {F : Nat → UInt8} (h : isD W q F = true) {j : Nat} (hj : j < W) : deB ((nm F 0 4 : Nat) : Int) ((nm F 4 1 : Nat) : Int) (nm F 5 2) (rdR F 7) (rdV F 7) j = F j := by
  rw [deB_rd]
  split
  · rfl
  · exact ((isD_true h).2 j hj (by omega)).symm
theorem desc_back {W : Nat} {q len dep : Int} {n : Nat} {R V : Nat → Int} {F : Nat → UInt8} (hW : 32 ≤ W) (hW2 : W ≤ 768) (hq : q ≤ 256) (hok : okD W q len dep n R V = true) (hF : ∀ j, j < W → F j = deB len dep n R V j) :
    isD W q F = true ∧ ((nm F 0 4 : Nat) : Int) = len ∧ ((nm F 4 1 : Nat) : Int) = dep ∧ nm F 5 2 = n ∧ ∀ i, i < n → rdR F 7 i = R i ∧ rdV F 7 i = V i := by
  obtain ⟨h1, h2, h3, h4, h5⟩ := okD_few hW hok
  have hd := dir_room hW
  have hd2 := dir_le hW2
  have e1 : nm F 0 4 = len.toNat := nm_dg (fun t ht => by rw [Nat.zero_add, hF t (by omega)]; unfold deB; rw [if_pos ht]) (by omega)
  have e2 : nm F 4 1 = dep.toNat := nm_dg (fun t ht => by
    obtain rfl : t = 0 := by omega
    rw [hF 4 (by omega)]; rfl) (by omega)
  have e3 : nm F 5 2 = n := nm_dg (fun t ht => by rw [hF (5 + t) (by omega)]; unfold deB; rw [if_neg (by omega), if_neg (by omega), if_pos (by omega), show 6 - (5 + t) = 2 - 1 - t by omega]) (by omega)
  have h := rd_rfB (F := F) (o := 7) hq h5 (fun j hj => by rw [hF (7 + j) (by omega)]; unfold deB lfB; rw [if_neg (by omega), if_neg (by omega), if_neg (by omega), show 7 + j - 7 = j by omega, if_pos hj])
  have e4 : ((nm F 0 4 : Nat) : Int) = len := by omega
  have e5 : ((nm F 4 1 : Nat) : Int) = dep := by omega
  refine ⟨decide_eq_true ⟨?_, fun j hj hj2 => ?_⟩, e4, e5, e3, h⟩
  · rw [e4, e5, e3, okD_congr h]; exact hok
  · rw [e3] at hj2
    rw [hF j hj]; unfold deB lfB; rw [if_neg (by omega), if_neg (by omega), if_neg (by omega), if_neg (by omega)]
/-- Errors: of a descriptor, of a leaf's refs, of bytes. -/
def erD (y : Int) (W : Nat) (q len dep : Int) (n : Nat) (R V : Nat → Int) : Int := if y = 0 then (if okD W q len dep n R V = true then 0 else 150) else y
def erL (y : Int) (W : Nat) (q : Int) (n : Nat) (R V : Nat → Int) : Int := if y = 0 then (if n < 1 ∨ lea W < n then 20 else if okL q n R V = true then 0 else 150) else y
def erB (y : Int) (W : Nat) (q : Int) (m : Nat) (F : Nat → UInt8) : Int := if y = 0 then (if m = W then (if isD W q F = true then 0 else 150) else 20) else y
def erR (y : Int) (W : Nat) (q : Int) (m : Nat) (n : Int) (F : Nat → UInt8) : Int := if y = 0 then (if m = W then (if n < 1 ∨ (lea W : Int) < n then 20 else if isL W q n.toNat F = true then 0 else 150) else 20) else y
theorem erD_of {y : Int} {W : Nat} {q len dep : Int} {n : Nat} {R V : Nat → Int} (h : erD y W q len dep n R V = 0) : y = 0 ∧ okD W q len dep n R V = true := by
  unfold erD at h
  by_cases hy : y = 0
  · rw [if_pos hy] at h
    by_cases ho : okD W q len dep n R V = true
    · exact ⟨hy, ho⟩
    · rw [if_neg ho] at h; cases h
  · rw [if_neg hy] at h; exact absurd h hy
theorem erL_of {y : Int} {W : Nat} {q : Int} {n : Nat} {R V : Nat → Int} (h : erL y W q n R V = 0) : y = 0 ∧ 1 ≤ n ∧ n ≤ lea W ∧ okL q n R V = true := by
  unfold erL at h
  by_cases hy : y = 0
  · rw [if_pos hy] at h
    by_cases hn : n < 1 ∨ lea W < n
    · rw [if_pos hn] at h; cases h
    · rw [if_neg hn] at h
      by_cases ho : okL q n R V = true
      · exact ⟨hy, by omega, by omega, ho⟩
      · rw [if_neg ho] at h; cases h
  · rw [if_neg hy] at h; exact absurd h hy
theorem erB_of {y : Int} {W : Nat} {q : Int} {m : Nat} {F : Nat → UInt8} (h : erB y W q m F = 0) : y = 0 ∧ m = W ∧ isD W q F = true := by
  unfold erB at h
  by_cases hy : y = 0
  · rw [if_pos hy] at h
    by_cases hm : m = W
    · rw [if_pos hm] at h
      by_cases ho : isD W q F = true
      · exact ⟨hy, hm, ho⟩
      · rw [if_neg ho] at h; cases h
    · rw [if_neg hm] at h; cases h
  · rw [if_neg hy] at h; exact absurd h hy
theorem erR_of {y : Int} {W : Nat} {q : Int} {m : Nat} {n : Int} {F : Nat → UInt8} (h : erR y W q m n F = 0) : y = 0 ∧ m = W ∧ 1 ≤ n ∧ n ≤ (lea W : Int) ∧ isL W q n.toNat F = true := by
  unfold erR at h
  by_cases hy : y = 0
  · rw [if_pos hy] at h
    by_cases hm : m = W
    · rw [if_pos hm] at h
      by_cases hn : n < 1 ∨ (lea W : Int) < n
      · rw [if_pos hn] at h; cases h
      · rw [if_neg hn] at h
        by_cases ho : isL W q n.toNat F = true
        · exact ⟨hy, hm, by omega, by omega, ho⟩
        · rw [if_neg ho] at h; cases h
    · rw [if_neg hm] at h; cases h
  · rw [if_neg hy] at h; exact absurd h hy
end Go.Proofs.Ytjncnojplkljnaa
