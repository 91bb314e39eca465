import Derived.WalkKit
import Derived.WalkSpells
import Derived.WalkLawsBesides
import Derived.Below
import Derived.Deep.RegionHeld3
import GoSem.Claim
import Derived.JoinedTies
import Derived.KernelRfl
import Derived.Test.YtngcdlodcdgcaaaGreatProg
namespace Go.Proofs.YtngcdlodcdgcaaaGreat.Dr
abbrev Nm := List UInt8
abbrev En := Nm × Int
theorem nlt_irrefl (a : Nm) : ¬ a < a := List.lt_irrefl a
theorem nlt_trans {a b c : Nm} (h : a < b) (g : b < c) : a < c := List.lt_trans h g
def mayN (l : Nm) : Bool := decide (1 <= l.length /\ l.length <= 24)
def gN (l : List En) (i : Nat) : Nm := (l.getD i ([], 0)).1
def gR (l : List En) (i : Nat) : Int := (l.getD i ([], 0)).2
theorem gN_eq {l : List En} {i : Nat} (h : i < l.length) : gN l i = (l[i]'h).1 := by unfold gN; rw [List.getD_eq_getElem?_getD, List.getElem?_eq_getElem h]; rfl
theorem gR_eq {l : List En} {i : Nat} (h : i < l.length) : gR l i = (l[i]'h).2 := by unfold gR; rw [List.getD_eq_getElem?_getD, List.getElem?_eq_getElem h]; rfl
def inR (q r : Int) : Bool := decide (0 <= r /\ r < q)
def oneE (q : Int) (x : En) : Bool := mayN x.1 && inR q x.2
def okI (q : Int) (l : List En) (i : Nat) : Bool := oneE q (gN l i, gR l i) && (decide (i = 0) || decide (gN l (i - 1) < gN l i))
def mayE (q : Int) (l : List En) : Bool := (List.range l.length).all (okI q l)
theorem mayE_iff (q : Int) (l : List En) : mayE q l = true ↔ ∀ i, i < l.length -> okI q l i = true := by simp [mayE]
theorem mayE_no {q : Int} {l : List En} {i : Nat} (h : i < l.length) (g : okI q l i = false) : mayE q l = false := by
 rw [Bool.eq_false_iff]; intro e
 rw [(mayE_iff q l).1 e i h] at g; cases g
def Ri (l : List En) : Prop := l.Pairwise fun a b => a.1 < b.1
theorem ri_of {q : Int} {l : List En} (h : mayE q l = true) : Ri l := by
 have h0 := (mayE_iff q l).1 h
 have stp1 : ∀ i, i + 1 < l.length -> gN l i < gN l (i + 1) := fun i hi => by
  have := h0 (i + 1) hi
  unfold okI at this
  rw [Bool.and_eq_true] at this
  have h2 := this.2
  rw [show i + 1 - 1 = i from rfl] at h2
  simpa using h2
 have far : ∀ d i, i + d + 1 < l.length -> gN l i < gN l (i + d + 1) := fun d => by
  induction d with
  | zero => exact fun i hi => stp1 i hi
  | succ d ih => exact fun i hi => nlt_trans (ih i (by omega)) (stp1 (i + d + 1) hi)
 unfold Ri
 rw [List.pairwise_iff_getElem]
 intro i j hi hj hij
 have := far (j - i - 1) i (by omega)
 rw [show i + (j - i - 1) + 1 = j by omega, gN_eq hi, gN_eq hj] at this
 exact this
theorem one_of {q : Int} {l : List En} (h : mayE q l = true) : ∀ x ∈ l, oneE q x = true := fun x hx => by
 obtain ⟨i, hi, rfl⟩ := List.mem_iff_getElem.1 hx
 have := (mayE_iff q l).1 h i hi
 unfold okI at this
 rw [Bool.and_eq_true] at this
 rw [gN_eq hi, gR_eq hi] at this
 exact this.1
def tw (l : List En) (s : Nm) : List En := l.takeWhile fun y => decide (y.1 < s)
def dw (l : List En) (s : Nm) : List En := l.dropWhile fun y => decide (y.1 < s)
def posE (l : List En) (s : Nm) : Nat := (tw l s).length
def isE (l : List En) (s : Nm) : Bool := decide (posE l s < l.length) && (gN l (posE l s) == s)
theorem tw_dw (l : List En) (s : Nm) : tw l s ++ dw l s = l := List.takeWhile_append_dropWhile
theorem posE_le (l : List En) (s : Nm) : posE l s <= l.length := by
 have := congrArg List.length (tw_dw l s)
 rw [List.length_append] at this
 unfold posE; omega
theorem take_pos (l : List En) (s : Nm) : l.take (posE l s) = tw l s := by
 have h := tw_dw l s
 unfold posE
 generalize tw l s = a at h ⊢
 generalize dw l s = b at h ⊢
 subst h
 simp
theorem drop_pos (l : List En) (s : Nm) : l.drop (posE l s) = dw l s := by
 have h := tw_dw l s
 unfold posE
 generalize tw l s = a at h ⊢
 generalize dw l s = b at h ⊢
 subst h
 simp
theorem tw_mem {l : List En} {s : Nm} {y : En} (h : y ∈ tw l s) : y.1 < s := by
 unfold tw at h
 have := List.all_takeWhile (p := fun y : En => decide (y.1 < s)) (l := l)
 rw [List.all_eq_true] at this
 simpa using this y h
theorem pos_lt {l : List En} {s : Nm} {j : Nat} (h : j < posE l s) : gN l j < s := by
 have hl := posE_le l s
 have hj : j < (tw l s).length := h
 rw [gN_eq (show j < l.length by omega)]
 have e : l[j]'(by omega) = (tw l s)[j]'hj := by
  have := take_pos l s
  have h2 : (l.take (posE l s))[j]? = (tw l s)[j]? := by rw [this]
  rw [List.getElem?_take_of_lt h, List.getElem?_eq_getElem (show j < l.length by omega), List.getElem?_eq_getElem hj] at h2
  exact Option.some.inj h2
 rw [e]
 exact tw_mem (List.getElem_mem hj)
theorem pos_not {l : List En} {s : Nm} (h : posE l s < l.length) : ¬ gN l (posE l s) < s := by
 intro g
 rw [gN_eq h] at g
 have hd := drop_pos l s
 have : dw l s = l[posE l s] :: l.drop (posE l s + 1) := by rw [<- hd]; exact List.drop_eq_getElem_cons h
 have h2 := List.head?_dropWhile_not (fun y : En => decide (y.1 < s)) l
 have h3 : (l.dropWhile fun y : En => decide (y.1 < s)) = dw l s := rfl
 rw [h3, this, List.head?_cons] at h2
 exact absurd g (by simpa using h2)
theorem pos_of {l : List En} {s : Nm} {i : Nat} (hi : i <= l.length) (h1 : ∀ j, j < i -> gN l j < s) (h2 : i < l.length -> ¬ gN l i < s) : posE l s = i := by
 have hl := posE_le l s
 rcases Nat.lt_trichotomy (posE l s) i with h | h | h
 ·exact absurd (h1 _ h) (pos_not (by omega))
 ·exact h
 ·exact absurd (pos_lt h) (h2 (by omega))
theorem ri_lt {l : List En} (h : Ri l) {i j : Nat} (hij : i < j) (hj : j < l.length) : gN l i < gN l j := by
 rw [gN_eq hj, gN_eq (show i < l.length by omega)]
 exact List.pairwise_iff_getElem.1 h i j (by omega) hj hij
theorem ri_mid {l : List En} (h : Ri l) {A B : List En} {y : En} (e : l = A ++ y :: B) : tw l y.1 = A /\ dw l y.1 = y :: B /\ isE l y.1 = true := by
 subst e
 obtain ⟨h1, h2, h3⟩ := List.pairwise_append.1 h
 have ht : tw (A ++ y :: B) y.1 = A := by
  unfold tw
  rw [List.takeWhile_append_of_pos (fun a ha => by simpa using h3 a ha y (List.mem_cons_self ..))]
  simp [nlt_irrefl]
 have hd : dw (A ++ y :: B) y.1 = y :: B := by
  have := tw_dw (A ++ y :: B) y.1
  rw [ht] at this
  exact List.append_cancel_left this
 refine ⟨ht, hd, ?_⟩
 unfold isE posE
 rw [ht]
 simp [gN, List.getD_eq_getElem?_getD]
theorem is_iff {l : List En} (h : Ri l) (s : Nm) : isE l s = true ↔ ∃ y ∈ l, y.1 = s := by
 constructor
 ·intro g
  unfold isE at g
  rw [Bool.and_eq_true] at g
  have h1 : posE l s < l.length := by simpa using g.1
  have h2 : gN l (posE l s) = s := by simpa using g.2
  rw [gN_eq h1] at h2
  exact ⟨_, List.getElem_mem h1, h2⟩
 ·rintro ⟨y, hy, rfl⟩
  obtain ⟨A, B, e⟩ := List.append_of_mem hy
  exact (ri_mid h e).2.2
theorem found {l : List En} (h : Ri l) {i : Nat} (hi : i < l.length) : posE l (gN l i) = i /\ isE l (gN l i) = true := by
 have hp : posE l (gN l i) = i := pos_of (by omega) (fun j hj => ri_lt h hj hi) (fun _ => nlt_irrefl _)
 refine ⟨hp, ?_⟩
 unfold isE
 rw [hp]
 simp [hi]
theorem found_mem {l : List En} (h : Ri l) {y : En} (hy : y ∈ l) : isE l y.1 = true /\ posE l y.1 < l.length /\ gR l (posE l y.1) = y.2 := by
 obtain ⟨i, hi, rfl⟩ := List.mem_iff_getElem.1 hy
 have := found h hi
 rw [gN_eq hi] at this
 rw [this.1, gR_eq hi]
 exact ⟨this.2, hi, rfl⟩
def szE (l : List En) : Nat := (l.map fun x => x.1.length + 3).sum
theorem sz_nil : szE [] = 0 := rfl
theorem sz_cons (x : En) (l : List En) : szE (x :: l) = x.1.length + 3 + szE l := by simp [szE]
theorem sz_append (a b : List En) : szE (a ++ b) = szE a + szE b := by simp [szE, List.sum_append]
theorem sz_take {l : List En} {i : Nat} (h : i < l.length) : szE (l.take (i + 1)) = szE (l.take i) + ((gN l i).length + 3) := by
 rw [List.take_succ_eq_append_getElem h, sz_append, sz_cons, sz_nil, gN_eq h]
theorem sz_take_le (l : List En) (i : Nat) : szE (l.take i) <= szE l := by
 conv => rhs; rw [<- List.take_append_drop i l]
 rw [sz_append]; omega
def rb (r : Int) : List UInt8 := [UInt8.ofNat (r / 256).toNat, UInt8.ofNat (r % 256).toNat]
def byE (x : En) : List UInt8 := UInt8.ofNat x.1.length :: (x.1 ++ rb x.2)
def bys (l : List En) : List UInt8 := l.flatMap byE
theorem by_length (x : En) : (byE x).length = x.1.length + 3 := by simp [byE, rb]
theorem bys_length (l : List En) : (bys l).length = szE l := by
 induction l with
 | nil => rfl
 | cons x l ih => rw [sz_cons, <- ih]; simp [bys, by_length]
theorem bys_cons (x : En) (b : List En) : bys (x :: b) = byE x ++ bys b := by simp [bys]
def Wf (x : En) : Prop := x.1.length <= 255 /\ 0 <= x.2 /\ x.2 < 65536
def Cut (b : List UInt8) : Prop := b ≠ [] /\ b.length < (b.getD 0 0).toNat + 3
def Prs (b : List UInt8) (l : List En) (rest : List UInt8) : Prop := b = bys l ++ rest /\ (∀ x ∈ l, Wf x) /\ (rest = [] \/ Cut rest)
theorem rb_row (a b : UInt8) : rb ((a.toNat : Int) * 256 + (b.toNat : Int)) = [a, b] := by
 have ha := a.toNat_lt
 have hb := b.toNat_lt
 unfold rb
 rw [show ((a.toNat : Int) * 256 + (b.toNat : Int)) / 256 = (a.toNat : Int) by omega, show ((a.toNat : Int) * 256 + (b.toNat : Int)) % 256 = (b.toNat : Int) by omega]
 simp
theorem prs_ex : ∀ (n : Nat) (b : List UInt8), b.length <= n -> ∃ l rest, Prs b l rest
 | 0, b, h => ⟨[], [], by rw [List.eq_nil_of_length_eq_zero (by omega : b.length = 0)]; rfl, by simp, .inl rfl⟩
 | n + 1, [], _ => ⟨[], [], rfl, by simp, .inl rfl⟩
 | n + 1, c :: t, h => by
  have hc := c.toNat_lt
  by_cases hs : t.length < c.toNat + 2
  ·exact ⟨[], c :: t, rfl, by simp, .inr ⟨by simp, by simp; omega⟩⟩
  ·rw [List.length_cons] at h
   obtain ⟨l, rest, h1, h2, h3⟩ := prs_ex n (t.drop (c.toNat + 2)) (by rw [List.length_drop]; omega)
   have ht : t = t.take c.toNat ++ ([t[c.toNat]'(by omega), t[c.toNat + 1]'(by omega)] ++ t.drop (c.toNat + 2)) := by
    conv => lhs; rw [<- List.take_append_drop c.toNat t]
    rw [List.drop_eq_getElem_cons (show c.toNat < t.length by omega), List.drop_eq_getElem_cons (show c.toNat + 1 < t.length by omega)]
    rfl
   obtain ⟨u, hu⟩ : ∃ u, u = t[c.toNat]'(by omega) := ⟨_, rfl⟩
   obtain ⟨v, hv⟩ : ∃ v, v = t[c.toNat + 1]'(by omega) := ⟨_, rfl⟩
   have hul := u.toNat_lt
   have hvl := v.toNat_lt
   have hlen : (t.take c.toNat).length = c.toNat := by rw [List.length_take]; omega
   refine ⟨(t.take c.toNat, (u.toNat : Int) * 256 + (v.toNat : Int)) :: l, rest, ?_, ?_, h3⟩
   ·rw [bys_cons, List.append_assoc, <- h1]
    unfold byE
    rw [rb_row, hlen, hu, hv]
    conv => lhs; rw [ht]
    simp
   ·intro x hx
    rcases List.mem_cons.1 hx with rfl | hx
    ·exact ⟨by simp only [hlen]; omega, by simp only; omega, by simp only; omega⟩
    ·exact h2 x hx
theorem prs_of (b : List UInt8) : ∃ l rest, Prs b l rest := prs_ex b.length b (Nat.le_refl _)
theorem prs_sz {b rest : List UInt8} {l : List En} (h : Prs b l rest) : b.length = szE l + rest.length := by
 rw [h.1, List.length_append, bys_length]
def allR (q : Int) (L : List Int) : Bool := L.all (inR q)
def okT (q : Int) (L : List Int) : Bool := allR q L && decide (L.length = 4)
def rwB (b : List UInt8) (i : Nat) : Int := ((b.getD (2 * i) 0).toNat : Int) * 256 + ((b.getD (2 * i + 1) 0).toNat : Int)
def rws (b : List UInt8) : List Int := [rwB b 0, rwB b 1, rwB b 2, rwB b 3]
theorem rb_get {r : Int} (h0 : 0 <= r) (h1 : r < 65536) : (((rb r).getD 0 0).toNat : Int) * 256 + (((rb r).getD 1 0).toNat : Int) = r := by
 unfold rb
 simp only [List.getD_eq_getElem?_getD, List.getElem?_cons_zero, List.getElem?_cons_succ, Option.getD_some]
 rw [UInt8.toNat_ofNat', UInt8.toNat_ofNat']
 omega
def erC (e : Int) (M : Nat) (q : Int) (l : List En) : Int := if e = 0 then (if mayE q l = true then (if M < szE l then 3 else 0) else 220) else e
def erN (E : Int) (s : Nm) : Int := if E = 0 then (if mayN s = true then 0 else 6) else E
def erB (e : Int) (M : Nat) (q : Int) (n : Nat) (l : List En) (rest : List UInt8) : Int := if e = 0 then (if M < n then 3 else if rest = [] /\ mayE q l = true then 0 else 220) else e
def erU (e : Int) (q : Int) (b : List UInt8) : Int := if e = 0 then (if b.length = 8 /\ allR q (rws b) = true then 0 else 220) else e
theorem erC_zero {e : Int} {M : Nat} {q : Int} {l : List En} (h : erC e M q l = 0) : e = 0 /\ mayE q l = true /\ szE l <= M := by
 unfold erC at h
 split at h
 ·next h0 =>
  split at h
  ·next h1 =>
   split at h
   ·cases h
   ·next h2 => exact ⟨h0, h1, by omega⟩
  ·cases h
 ·next h0 => exact absurd h h0
theorem erC_good {e : Int} {M : Nat} {q : Int} {l : List En} (h0 : e = 0) (h1 : mayE q l = true) (h2 : szE l <= M) : erC e M q l = 0 := by
 unfold erC; rw [if_pos h0, if_pos h1, if_neg (by omega)]
end Go.Proofs.YtngcdlodcdgcaaaGreat.Dr
namespace Go.Proofs.YtngcdlodcdgcaaaGreat
def may (k r c q : Int) : Bool := decide (1 <= k /\ k <= 12 /\ 0 <= r /\ r <= 4 /\ 8 <= c /\ c <= 64 /\ 32 <= k * c /\ 8 <= q /\ q <= 256)
theorem may_true {k r c q : Int} (h : may k r c q = true) : 1 <= k /\ k <= 12 /\ 0 <= r /\ r <= 4 /\ 8 <= c /\ c <= 64 /\ 32 <= k * c /\ 8 <= q /\ q <= 256 := of_decide_eq_true h
theorem may_wide {k c : Int} (h1 : 1 <= k) (h2 : k <= 12) (h3 : 8 <= c) (h4 : c <= 64) : 8 <= k * c /\ k * c <= 768 := by
  have a := Int.mul_le_mul h2 h4 (by omega) (by omega)
  have b := Int.mul_le_mul h1 h3 (by omega) (by omega)
  omega
def dir (w : Nat) : Nat := (w - 7) / 6
def lea (w : Nat) : Nat := w / 6
def mst (w : Nat) : Nat := min 32768 (dir w * lea w * w)
theorem dir_le {w : Nat} (h : w <= 768) : dir w <= 126 := by unfold dir; omega
theorem lea_le {w : Nat} (h : w <= 768) : lea w <= 128 := by unfold lea; omega
theorem lea_ge {w : Nat} (h : 32 <= w) : 5 <= lea w := by unfold lea; omega
theorem dl_le {w : Nat} (h : w <= 768) : dir w * lea w <= 16128 := Nat.mul_le_mul (dir_le h) (lea_le h)
theorem dlw_le {w : Nat} (h : w <= 768) : dir w * lea w * w <= 12386304 := Nat.mul_le_mul (dl_le h) h
theorem mst_le (w : Nat) : mst w <= 32768 := Nat.min_le_left _ _
theorem mst_dlw (w : Nat) : mst w <= dir w * lea w * w := Nat.min_le_right _ _
def up (a b : Nat) : Nat := (a + b - 1) / b
theorem up_room {a b : Nat} (hb : 0 < b) : a <= up a b * b := by
  unfold up
  have h := Nat.div_add_mod (a + b - 1) b
  have h2 := Nat.mod_lt (a + b - 1) hb
  rw [Nat.mul_comm] at h
  omega
theorem up_less {a b : Nat} (hb : 0 < b) (h0 : 0 < up a b) : (up a b - 1) * b < a := by
  unfold up at h0 ⊢
  have h := Nat.div_add_mod (a + b - 1) b
  rw [Nat.mul_comm] at h
  have e : ((a + b - 1) / b - 1) * b + b = (a + b - 1) / b * b := by
    rw [<- Nat.succ_mul]; congr 1; omega
  omega
theorem up_mono {a a' b : Nat} (h : a <= a') : up a b <= up a' b := Nat.div_le_div_right (by omega)
theorem up_le {a b m : Nat} (h : a <= m * b) (hb : 0 < b) : up a b <= m := by
  unfold up
  have : (a + b - 1) / b < m + 1 := (Nat.div_lt_iff_lt_mul hb).2 (by rw [Nat.succ_mul]; omega)
  omega
theorem up_pos {a b : Nat} (ha : 0 < a) (hb : 0 < b) : 0 < up a b := Nat.div_pos (by omega) hb
theorem up_self (a b : Nat) (hb : 0 < b) : up a b <= a := up_le (Nat.le_mul_of_pos_right a hb) hb
def lvs (w s : Nat) : Nat := if s <= dir w then 0 else up s (lea w)
theorem lvs_mono {w s t : Nat} (h : s <= t) : lvs w s <= lvs w t := by
  unfold lvs
  split
  · omega
  · rw [if_neg (by omega)]; exact up_mono h
theorem lvs_top {w : Nat} (h : 32 <= w) : lvs w (up (mst w) w) <= dir w := by
  unfold lvs
  split
  · omega
  · exact up_le (up_le (by rw [Nat.mul_assoc]; exact (by rw [<- Nat.mul_assoc]; exact mst_dlw w)) (by omega)) (by have := lea_ge h; omega)
theorem lvs_pos {w s : Nat} (h : 32 <= w) : 0 < lvs w s ↔ dir w < s := by
  unfold lvs
  have := lea_ge h
  split
  · omega
  · exact ⟨fun _ => by omega, fun _ => up_pos (by omega) (by omega)⟩
theorem lvs_le {w s : Nat} (h : 32 <= w) : lvs w s <= s := by
  unfold lvs
  split
  · omega
  · exact up_self _ _ (by have := lea_ge h; omega)
end Go.Proofs.YtngcdlodcdgcaaaGreat
namespace Go.Proofs.YtngcdlodcdgcaaaGreat
open Go.RowKit
theorem below_step {B : Nat} {a b c : World} (h : Below B a b) (k : Below b.heap.size b c) (hB : B <= b.heap.size) : Below B a c := h.trans (k.mono hB)
theorem below_then {a b c : World} (h : Below a.heap.size a b) (k : Below b.heap.size b c) : Below a.heap.size a c := below_step h k h.size
theorem below_alloc (w : World) (o : Obj) : Below w.heap.size w (w.alloc o) := (Below.refl _ w).alloc (Nat.le_refl _) o
theorem below_drew (B : Nat) (w : World) : Below B w w.drew := ⟨rfl, rfl, rfl, Nat.le_refl _, fun _ _ => rfl⟩
theorem held {w w' : World} {a : Addr} {v : Value} (h : w.cell? a = some v) (hb : Below w.heap.size w w') : w'.cell? a = some v := (hb.cell (World.block_lt_of_cell? w _ h)).trans h
theorem ret_int {k : IntKind} {a b : Int} (h : a = b) : Ending.returned (.int k a) = .returned (.int k b) := by rw [h]
theorem ret_bool {a b : Bool} (h : a = b) : Ending.returned (.bool a) = .returned (.bool b) := by rw [h]
theorem blk_held {w w0 w1 : World} {cs : Array Value} {t : TypeId} (h0 : w0 = w.alloc (.cells cs t)) (hb : Below w0.heap.size w0 w1) (i : Nat) {v : Value} (hi : cs[i]? = some v) : w1.cell? ⟨w.heap.size, i, none⟩ = some v := by
  subst h0
  rw [World.cell?_of_block (hb.block w.heap.size (by simp)), cell_of_row _ _ _ _ _ _ (heap_alloc_new w _)]
  exact hi
theorem blk_free {w w0 w1 : World} {cs : Array Value} {t : TypeId} (h0 : w0 = w.alloc (.cells cs t)) (hb : Below w0.heap.size w0 w1) (i : Nat) : w1.frozen? ⟨w.heap.size, i, none⟩ = false := by
  subst h0
  rw [World.frozen?_of_block (hb.block w.heap.size (by simp))]
  unfold World.frozen?
  rw [heap_alloc_new w _]
  simp
theorem par_held {w w0 w1 : World} {x0 x1 x2 x3 : Value} {t : TypeId} (h0 : w0 = w.alloc (.cells #[x0, x1, x2, x3] t)) (hb : Below w0.heap.size w0 w1) :
    w1.cell? ⟨w.heap.size, 0, none⟩ = some x0 /\ w1.cell? ⟨w.heap.size, 1, none⟩ = some x1 /\ w1.cell? ⟨w.heap.size, 2, none⟩ = some x2 /\ w1.cell? ⟨w.heap.size, 3, none⟩ = some x3 :=
  ⟨blk_held h0 hb 0 rfl, blk_held h0 hb 1 rfl, blk_held h0 hb 2 rfl, blk_held h0 hb 3 rfl⟩
theorem mea_held {w w0 w1 : World} {x0 x1 x2 x3 x4 : Value} {t : TypeId} (h0 : w0 = w.alloc (.cells #[x0, x1, x2, x3, x4] t)) (hb : Below w0.heap.size w0 w1) :
    w1.cell? ⟨w.heap.size, 0, none⟩ = some x0 /\ w1.cell? ⟨w.heap.size, 1, none⟩ = some x1 /\ w1.cell? ⟨w.heap.size, 2, none⟩ = some x2 /\ w1.cell? ⟨w.heap.size, 3, none⟩ = some x3 /\ w1.cell? ⟨w.heap.size, 4, none⟩ = some x4 :=
  ⟨blk_held h0 hb 0 rfl, blk_held h0 hb 1 rfl, blk_held h0 hb 2 rfl, blk_held h0 hb 3 rfl, blk_held h0 hb 4 rfl⟩
theorem w64 (n : Int) (h : -9223372036854775808 <= n /\ n <= 9223372036854775807) : wrap64 n = n := by unfold wrap64; omega
theorem wrap_wide {k c : Int} (h1 : 1 <= k) (h2 : k <= 12) (h3 : 8 <= c) (h4 : c <= 64) : wrap64 (k * c) = k * c := by
  have := may_wide h1 h2 h3 h4
  unfold wrap64; omega
set_option maxHeartbeats 400000 in
theorem within_any (n a b : Int) (w : World) :
    Calls Tryz.prog 90 #[.int .i64 n, .int .i64 a, .int .i64 b] w fun e w' => e = .returned (.bool (decide (a <= n /\ n <= b))) /\ w' = w := by
  rw [Bool.decide_and]
  go_enter Tryz.func90, Tryz.ntmps90
  go_wp2
  · go_ret
    exact ⟨ret_bool (by rw [decide_eq_true (show a <= n by omega)]; rfl), rfl⟩
  · go_ret
    exact ⟨ret_bool (by rw [decide_eq_false (show ¬ a <= n by omega)]; rfl), rfl⟩
theorem may_decide (k r c q : Int) : may k r c q = decide (1 <= k /\ k <= 12 /\ 0 <= r /\ r <= 4 /\ 8 <= c /\ c <= 64 /\ 32 <= k * c /\ 8 <= q /\ q <= 256) := rfl
def erP (k r c q : Int) : Int := if may k r c q = true then 0 else 2
set_option maxHeartbeats 400000 in
set_option maxRecDepth 100000 in
theorem Check_any (k r c q : Int) (w : World) :
    Calls Tryz.prog 58 #[.agg #[.int .i64 k, .int .i64 r, .int .i64 c, .int .i64 q]] w fun e w' => e = .returned (.int .i64 (erP k r c q)) /\ Below w.heap.size w w' := by
  have HW : Hid (1 <= k -> k <= 12 -> 8 <= c -> c <= 64 -> wrap64 (k * c) = k * c) := wrap_wide
  go_enter Tryz.func58, Tryz.ntmps58
  go_wp2_with (go_at_call 90; refine (within_any _ _ _ _).mono ?_; rintro e w' ⟨rfl, hw'⟩; obtain rfl := hw'.symm)
  all_goals (go_ret; have := HW.out; refine ⟨ret_int ?_, below_alloc _ _⟩; unfold erP; rw [may_decide]; first | (rw [if_pos (decide_eq_true (by omega))]; done) | (rw [if_neg (by rw [decide_eq_true_eq]; omega)]; done))
def Par (k r c q : Int) (N W : Nat) (e : Int) : Prop := (may k r c q = true /\ (W : Int) = k * c /\ (N : Int) = k + r /\ e = 0) \/ (may k r c q = false /\ W = 0 /\ N = 0 /\ e = 2)
theorem Par.wide {k r c q : Int} {N W : Nat} {e : Int} (h : Par k r c q N W e) : W <= 768 := by
  rcases h with ⟨h, h0, _⟩ | ⟨_, h0, _⟩
  · obtain ⟨h1, h2, h3, h4, h5, h6, h7, h8, h9⟩ := may_true h
    have := may_wide h1 h2 h5 h6
    omega
  · omega
end Go.Proofs.YtngcdlodcdgcaaaGreat
namespace Go.Proofs.YtngcdlodcdgcaaaGreat
open Go.RowKit
set_option maxHeartbeats 400000 in
set_option maxRecDepth 100000 in
theorem measure_good (k r c q : Int) (w : World) (W N : Nat) (h : wrap64 (k * c) = (W : Int)) (h1 : 32 <= W) (h2 : W <= 768) (he : erP k r c q = 0) (hN : (N : Int) = k + r) (hk : N <= 16) :
    Calls Tryz.prog 97 #[.agg #[.int .i64 k, .int .i64 r, .int .i64 c, .int .i64 q]] w fun e w' => e = .returned (.tuple #[.agg #[.int .i64 (N : Int), .int .i64 (W : Int), .int .i64 ((dir W : Nat) : Int), .int .i64 ((lea W : Nat) : Int), .int .i64 ((mst W : Nat) : Int)], .int .i64 0]) /\ Below w.heap.size w w' := by
  have HC := fun w => Check_any k r c q w
  rw [he] at HC
  have HE : Hid (mst W = min 32768 (dir W * lea W * W)) := rfl
  have hd : ((W : Int) - 7) / 6 = ((dir W : Nat) : Int) := by unfold dir; omega
  have hl : (W : Int) / 6 = ((lea W : Nat) : Int) := by unfold lea; omega
  have HD : Hid (((W : Int) - 7) / 6 = ((dir W : Nat) : Int)) := hd
  have HL : Hid ((W : Int) / 6 = ((lea W : Nat) : Int)) := hl
  have HN : Hid (k + r = (N : Int)) := hN.symm
  have p1 := dl_le h2
  have p2 := dlw_le h2
  obtain ⟨p, hp, hpm, hpp⟩ : ∃ p : Nat, wrap64 (wrap64 (((W : Int) - 7) / 6 * ((W : Int) / 6)) * (W : Int)) = (p : Int) /\ mst W = min 32768 p /\ p <= 12386304 := by
    refine ⟨dir W * lea W * W, ?_, rfl, p2⟩
    rw [hd, hl, <- Int.natCast_mul, w64 ((dir W * lea W : Nat) : Int) (by omega), <- Int.natCast_mul, w64 _ (by omega)]
  have HPM : Hid (mst W = min 32768 p) := hpm
  clear hpm hd hl p1 p2 HE
  obtain ⟨w0, hw0⟩ : ∃ w0, w0 = w.alloc (.cells #[.int .i64 k, .int .i64 r, .int .i64 c, .int .i64 q] 23) := ⟨_, rfl⟩
  obtain ⟨w1, hw1⟩ : ∃ w1, w1 = w0.alloc (.cells #[.int .i64 0, .int .i64 0, .int .i64 0, .int .i64 0, .int .i64 0] 159) := ⟨_, rfl⟩
  have b0 : Below w.heap.size w w0 := by rw [hw0]; exact below_alloc _ _
  have b1 : Below w0.heap.size w0 w1 := by rw [hw1]; exact below_alloc _ _
  have z0 : w0.heap.size = w.heap.size + 1 := by rw [hw0]; simp
  go_enter Tryz.func97, Tryz.ntmps97
  go_wp2_with fail
  rw [<- hw0, <- hw1]
  refine (HC _).mono ?_
  rintro e wa ⟨rfl, ha⟩
  obtain ⟨s0, s1, s2, s3⟩ := par_held hw0 (below_then b1 ha)
  obtain ⟨m0, m1, m2, m3, m4⟩ := mea_held hw1 ha
  have f := blk_free hw1 ha
  rw [z0] at m0 m1 m2 m3 m4 f
  have n0 : ∀ o, (wa.alloc o).cell? ⟨w.heap.size + 1, 0, none⟩ = some (.int .i64 0) := fun o => held m0 (below_alloc _ _)
  have n1 : ∀ o, (wa.alloc o).cell? ⟨w.heap.size + 1, 1, none⟩ = some (.int .i64 0) := fun o => held m1 (below_alloc _ _)
  have n2 : ∀ o, (wa.alloc o).cell? ⟨w.heap.size + 1, 2, none⟩ = some (.int .i64 0) := fun o => held m2 (below_alloc _ _)
  have n3 : ∀ o, (wa.alloc o).cell? ⟨w.heap.size + 1, 3, none⟩ = some (.int .i64 0) := fun o => held m3 (below_alloc _ _)
  have n4 : ∀ o, (wa.alloc o).cell? ⟨w.heap.size + 1, 4, none⟩ = some (.int .i64 0) := fun o => held m4 (below_alloc _ _)
  have f' : ∀ o i, (wa.alloc o).frozen? ⟨w.heap.size + 1, i, none⟩ = false := fun o i => (World.frozen?_of_block (a := ⟨w.heap.size + 1, i, none⟩) (Below.heap_alloc _ _ _ (World.block_lt_of_cell? wa ⟨w.heap.size + 1, 0, none⟩ m0))).trans (f i)
  clear hw0 hw1 f m0 m1 m2 m3 m4
  by_cases hlt : (p : Int) < 32768
  · go_wp2_with fail
    refine bodyPost_ret (v := .tuple #[.agg #[.int .i64 (k + r), .int .i64 (W : Int), .int .i64 (((W : Int) - 7) / 6), .int .i64 ((W : Int) / 6), .int .i64 (p : Int)], .int .i64 0]) (by simp [results, Tryz.results97, go_sem, n0, n1, n2, n3, n4]) rfl ⟨?_, ?_⟩
    · rw [HN.out, HD.out, HL.out, HPM.out]
      rw [show min 32768 p = p by omega]
    · have hB := below_then (below_then b0 b1) ha
      exact (((((hB.alloc hB.size _).setCell (Nat.le_succ _) _).setCell (Nat.le_succ _) _).setCell (Nat.le_succ _) _).setCell (Nat.le_succ _) _).setCell (Nat.le_succ _) _
  · go_wp2_with fail
    refine bodyPost_ret (v := .tuple #[.agg #[.int .i64 (k + r), .int .i64 (W : Int), .int .i64 (((W : Int) - 7) / 6), .int .i64 ((W : Int) / 6), .int .i64 32768], .int .i64 0]) (by simp [results, Tryz.results97, go_sem, n0, n1, n2, n3, n4]) rfl ⟨?_, ?_⟩
    · rw [HN.out, HD.out, HL.out, HPM.out]
      rw [show min 32768 p = 32768 by omega]; rfl
    · have hB := below_then (below_then b0 b1) ha
      exact (((((hB.alloc hB.size _).setCell (Nat.le_succ _) _).setCell (Nat.le_succ _) _).setCell (Nat.le_succ _) _).setCell (Nat.le_succ _) _).setCell (Nat.le_succ _) _
set_option maxHeartbeats 400000 in
set_option maxRecDepth 100000 in
theorem measure_bad (k r c q : Int) (w : World) (he : erP k r c q = 2) :
    Calls Tryz.prog 97 #[.agg #[.int .i64 k, .int .i64 r, .int .i64 c, .int .i64 q]] w fun e w' => e = .returned (.tuple #[.agg #[.int .i64 0, .int .i64 0, .int .i64 0, .int .i64 0, .int .i64 0], .int .i64 2]) /\ Below w.heap.size w w' := by
  have HC := fun w => Check_any k r c q w
  rw [he] at HC
  obtain ⟨w0, hw0⟩ : ∃ w0, w0 = w.alloc (.cells #[.int .i64 k, .int .i64 r, .int .i64 c, .int .i64 q] 23) := ⟨_, rfl⟩
  have b0 : Below w.heap.size w w0 := by rw [hw0]; exact below_alloc _ _
  have z0 : w0.heap.size = w.heap.size + 1 := by rw [hw0]; simp
  obtain ⟨w1, hw1⟩ : ∃ w1, w1 = w0.alloc (.cells #[.int .i64 0, .int .i64 0, .int .i64 0, .int .i64 0, .int .i64 0] 159) := ⟨_, rfl⟩
  have b1 : Below w0.heap.size w0 w1 := by rw [hw1]; exact below_alloc _ _
  go_enter Tryz.func97, Tryz.ntmps97
  go_wp2_with fail
  rw [<- hw0, <- hw1]
  refine (HC _).mono ?_
  rintro e wa ⟨rfl, ha⟩
  obtain ⟨m0, m1, m2, m3, m4⟩ := mea_held hw1 ha
  have f := blk_free hw1 ha
  rw [z0] at m0 m1 m2 m3 m4 f
  clear hw0 hw1
  go_wp2_with fail
  refine bodyPost_ret (v := .tuple #[.agg #[.int .i64 0, .int .i64 0, .int .i64 0, .int .i64 0, .int .i64 0], .int .i64 2]) (by simp [results, Tryz.results97, go_sem, m0, m1, m2, m3, m4]) rfl ⟨rfl, ?_⟩
  have hB := below_then (below_then b0 b1) ha
  exact ((((hB.setCell (Nat.le_succ _) _).setCell (Nat.le_succ _) _).setCell (Nat.le_succ _) _).setCell (Nat.le_succ _) _).setCell (Nat.le_succ _) _
theorem measure_any {k r c q : Int} {N W : Nat} {x : Int} (h : Par k r c q N W x) (w : World) :
    Calls Tryz.prog 97 #[.agg #[.int .i64 k, .int .i64 r, .int .i64 c, .int .i64 q]] w fun e w' => e = .returned (.tuple #[.agg #[.int .i64 (N : Int), .int .i64 (W : Int), .int .i64 ((dir W : Nat) : Int), .int .i64 ((lea W : Nat) : Int), .int .i64 ((mst W : Nat) : Int)], .int .i64 x]) /\ Below w.heap.size w w' := by
  have hw := h.wide
  rcases h with ⟨h0, h1, h2, rfl⟩ | ⟨h0, rfl, rfl, rfl⟩
  · obtain ⟨p1, p2, p3, p4, p5, p6, p7, p8, p9⟩ := may_true h0
    exact measure_good k r c q w W N (by rw [h1]; exact wrap_wide p1 p2 p5 p6) (by omega) hw (by unfold erP; rw [if_pos h0]) h2 (by omega)
  · exact measure_bad k r c q w (by unfold erP; rw [if_neg (by rw [h0]; decide)])
set_option maxHeartbeats 400000 in
set_option maxRecDepth 100000 in
theorem Drives_any {k r c q : Int} {N W : Nat} {x : Int} (h : Par k r c q N W x) (w : World) :
    Calls Tryz.prog 92 #[.agg #[.int .i64 k, .int .i64 r, .int .i64 c, .int .i64 q]] w fun e w' => e = .returned (.tuple #[.int .i64 (N : Int), .int .i64 x]) /\ Below w.heap.size w w' := by
  have HC := fun w => measure_any h w
  clear h
  generalize dir W = d at *
  generalize lea W = l at *
  generalize mst W = m at *
  obtain ⟨w0, hw0⟩ : ∃ w0, w0 = w.alloc (.cells #[.int .i64 k, .int .i64 r, .int .i64 c, .int .i64 q] 23) := ⟨_, rfl⟩
  have b0 : Below w.heap.size w w0 := by rw [hw0]; exact below_alloc _ _
  go_enter Tryz.func92, Tryz.ntmps92
  go_wp2_with fail
  rw [<- hw0]
  refine (HC _).mono ?_
  rintro e wa ⟨rfl, ha⟩
  go_wp2_with fail
  go_ret2
  exact ⟨rfl, have hB := below_then b0 ha; hB.alloc hB.size _⟩
set_option maxHeartbeats 400000 in
set_option maxRecDepth 100000 in
theorem Width_any {k r c q : Int} {N W : Nat} {x : Int} (h : Par k r c q N W x) (w : World) :
    Calls Tryz.prog 88 #[.agg #[.int .i64 k, .int .i64 r, .int .i64 c, .int .i64 q]] w fun e w' => e = .returned (.tuple #[.int .i64 (W : Int), .int .i64 x]) /\ Below w.heap.size w w' := by
  have HC := fun w => measure_any h w
  clear h
  generalize dir W = d at *
  generalize lea W = l at *
  generalize mst W = m at *
  obtain ⟨w0, hw0⟩ : ∃ w0, w0 = w.alloc (.cells #[.int .i64 k, .int .i64 r, .int .i64 c, .int .i64 q] 23) := ⟨_, rfl⟩
  have b0 : Below w.heap.size w w0 := by rw [hw0]; exact below_alloc _ _
  go_enter Tryz.func88, Tryz.ntmps88
  go_wp2_with fail
  rw [<- hw0]
  refine (HC _).mono ?_
  rintro e wa ⟨rfl, ha⟩
  go_wp2_with fail
  go_ret2
  exact ⟨rfl, have hB := below_then b0 ha; hB.alloc hB.size _⟩
end Go.Proofs.YtngcdlodcdgcaaaGreat
namespace Go.Proofs.YtngcdlodcdgcaaaGreat.Im
open Go.RowKit
def upd {α : Type} (i : Nat) (v : α) (f : Nat -> α) (j : Nat) : α := if j = i then v else f j
theorem upd_at {α : Type} (i : Nat) (v : α) (f : Nat -> α) : upd i v f i = v := if_pos rfl
theorem upd_ne {α : Type} {i j : Nat} (v : α) (f : Nat -> α) (h : j ≠ i) : upd i v f j = f j := if_neg h
def plc (Q : Nat) (d r s : Int) : Nat := (d.toNat * Q + r.toNat) * 2 + s.toNat
theorem plc_cast {Q : Nat} {d r s : Int} (h1 : 0 <= d) (h2 : 0 <= r) (h3 : 0 <= s) : ((plc Q d r s : Nat) : Int) = (d * (Q : Int) + r) * 2 + s := by
  obtain ⟨a, rfl⟩ := Int.eq_ofNat_of_zero_le h1
  obtain ⟨b, rfl⟩ := Int.eq_ofNat_of_zero_le h2
  obtain ⟨c, rfl⟩ := Int.eq_ofNat_of_zero_le h3
  unfold plc
  simp
def Fit (n S : Nat) (F : Nat -> List UInt8) : Prop := ∀ i, i < n -> (F i).length = 0 \/ (F i).length = S
def Pm (k r c q : Int) (N Q S : Nat) : Prop := may k r c q = true /\ (N : Int) = k + r /\ (Q : Int) = q /\ (S : Int) = 12 + 4 * (k + r) + c
theorem pm_of {k r c q : Int} (h : may k r c q = true) : ∃ N Q S, Pm k r c q N Q S := by
  obtain ⟨h1, h2, h3, h4, h5, h6, h7, h8, h9⟩ := may_true h
  exact ⟨(k + r).toNat, q.toNat, (12 + 4 * (k + r) + c).toNat, h, by omega, by omega, by omega⟩
theorem Pm.bounds {k r c q : Int} {N Q S : Nat} (h : Pm k r c q N Q S) : 1 <= N /\ N <= 16 /\ 8 <= Q /\ Q <= 256 /\ 20 <= S /\ S <= 140 /\ 16 <= N * Q * 2 /\ N * Q * 2 <= 8192 := by
  obtain ⟨h0, hN, hQ, hS⟩ := h
  obtain ⟨h1, h2, h3, h4, h5, h6, h7, h8, h9⟩ := may_true h0
  have a1 : 1 <= N := by omega
  have a2 : N <= 16 := by omega
  have a3 : 8 <= Q := by omega
  have a4 : Q <= 256 := by omega
  have b1 : 1 * 8 <= N * Q := Nat.mul_le_mul a1 a3
  have b2 : N * Q <= 16 * 256 := Nat.mul_le_mul a2 a4
  exact ⟨a1, a2, a3, a4, by omega, by omega, by omega, by omega⟩
def Ck (k r c q : Int) (n : Nat) (F : Nat -> List UInt8) (x : Int) (N Q S : Nat) : Prop :=
  (x = 0 /\ Pm k r c q N Q S /\ n = N * Q * 2 /\ Fit n S F) \/ (x = 2 /\ may k r c q = false /\ N = 0 /\ Q = 0 /\ S = 0) \/ (x = 90 /\ N = 0 /\ Q = 0 /\ S = 0 /\ ∃ N' Q' S', Pm k r c q N' Q' S' /\ ¬ (n = N' * Q' * 2 /\ Fit n S' F))
theorem ck_ex (k r c q : Int) (n : Nat) (F : Nat -> List UInt8) : ∃ x N Q S, Ck k r c q n F x N Q S := by
  cases hm : may k r c q with
  | false => exact ⟨2, 0, 0, 0, .inr (.inl ⟨rfl, hm, rfl, rfl, rfl⟩)⟩
  | true =>
    obtain ⟨N, Q, S, hp⟩ := pm_of hm
    by_cases h : n = N * Q * 2 /\ Fit n S F
    · exact ⟨0, N, Q, S, .inl ⟨rfl, hp, h.1, h.2⟩⟩
    · exact ⟨90, 0, 0, 0, .inr (.inr ⟨rfl, rfl, rfl, rfl, N, Q, S, hp, h⟩)⟩
theorem Ck.ok {k r c q : Int} {n : Nat} {F : Nat -> List UInt8} {x : Int} {N Q S : Nat} (h : Ck k r c q n F x N Q S) (hx : x = 0) : Pm k r c q N Q S /\ n = N * Q * 2 /\ Fit n S F := by
  subst hx
  rcases h with ⟨_, h⟩ | ⟨h, _⟩ | ⟨h, _⟩
  · exact h
  · cases h
  · cases h
end Go.Proofs.YtngcdlodcdgcaaaGreat.Im
