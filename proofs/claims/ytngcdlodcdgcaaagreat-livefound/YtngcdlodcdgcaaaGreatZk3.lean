import Derived.Lib.AppendZeros
import Derived.Test.YtngcdlodcdgcaaaGreatZk2
namespace Go.Proofs.YtngcdlodcdgcaaaGreat.Dr
open Go.RowKit Go.Sort
theorem ri_not {l : List En} (h : Ri l) {s : Nm} {i j : Nat} (hij : i <= j) (hj : j < l.length) (g : ¬ gN l i < s) : ¬ gN l j < s := by
 intro e
 rcases Nat.lt_or_ge i j with h1 | h1
 ·exact g (nlt_trans (ri_lt h h1 hj) e)
 ·obtain rfl : i = j := by omega
  exact g e
set_option maxHeartbeats 2000000 in
set_option maxRecDepth 100000 in
theorem search_any (w : World) (ao : Option Addr) (l : List En) (ca : Nat) (hv : Ren w ao l ca) (hn : l.length <= 1000000) (hri : Ri l) (s : Nm) :
  Calls Tryz.prog 81 #[.slice ao l.length ca, .string ⟨s.toArray⟩] w fun e w' => e = .returned (.tuple #[.int .i64 (posE l s : Int), .bool (isE l s)]) /\ RowKit.Below w.heap.size w w' := by
 have HV : Hid (Ren w ao l ca) := hv
 have HRI : Hid (Ri l) := hri
 have HL := fun i => Less_any (gN l i) s
 have hn2 : (l.length : Int) <= 1000000 := by omega
 clear hv hri
 go_enter Tryz.func81, Tryz.ntmps81
 go_wp2_with fail
 go_loopw [4, 6] (fun x y wr => ∃ p b : Nat, p <= b /\ b <= l.length /\ x = .int .i64 (p : Int) /\ y = .int .i64 (b : Int) /\ Hid (∀ j, j < p -> gN l j < s) /\ Hid (∀ j, b <= j -> j < l.length -> ¬ gN l j < s) /\ wr = w) (fun x y _ => (intOf y).toNat - (intOf x).toNat)
 case atStart => exact ⟨0, l.length, Nat.zero_le _, Nat.le_refl _, rfl, rfl, fun j hj => absurd hj (by omega), fun j h1 h2 => absurd h1 (by omega), rfl⟩
 case round =>
  obtain ⟨p, b, hpb, hb, rfl, rfl, hlo, hhi, rfl⟩ := hrel
  by_cases hlt : p < b
  ·obtain ⟨m, hm⟩ : ∃ m, m = (p + b) / 2 := ⟨_, rfl⟩
   obtain ⟨g, off, rfl, hc⟩ := HV.out.at_ (by omega)
   obtain ⟨c0, c1⟩ := hc m (by omega)
   have m1 : p <= m := by omega
   have m2 : m < b := by omega
   have m3 : ((p : Int) + (b : Int)) / 2 = (m : Int) := by omega
   have i1 : (0 : Int) <= (m : Int) := by omega
   have i2 : (m : Int) < (l.length : Int) := by omega
   have i3 : (p : Int) < (b : Int) := by omega
   have i4 : Int.tdiv ((p : Int) + (b : Int)) 2 = (m : Int) := by rw [Int.tdiv_eq_ediv_of_nonneg (by omega)]; exact m3
   have hLL := HL m
   clear hc hm
   cases hd : decide (gN l m < s)
   ·have HHI : Hid (∀ j, m <= j -> j < l.length -> ¬ gN l j < s) := fun j h1 h2 => ri_not HRI.out h1 h2 (of_decide_eq_false hd)
    rw [hd] at hLL
    clear hd
    go_wp2_with fail
    refine (hLL _).mono ?_
    rintro _ w2 ⟨rfl, rfl⟩
    go_wp2
    go_roundw
    case rel => exact ⟨p, m, by omega, by omega, rfl, rfl, hlo, HHI, trivial⟩
    case measure => simp [intOf]; omega
   ·have HLO : Hid (∀ j, j < m + 1 -> gN l j < s) := fun j h1 => by
     rcases Nat.lt_or_ge j m with h2 | h2
     ·exact nlt_trans (ri_lt HRI.out h2 (by omega)) (of_decide_eq_true hd)
     ·obtain rfl : j = m := by omega
      exact of_decide_eq_true hd
    rw [hd] at hLL
    clear hd
    go_wp2_with fail
    refine (hLL _).mono ?_
    rintro _ w2 ⟨rfl, rfl⟩
    go_wp2
    go_roundw
    case rel => exact ⟨m + 1, b, by omega, by omega, by go_num, rfl, HLO, hhi, trivial⟩
    case measure => simp [intOf]; omega
  ·obtain rfl : p = b := by omega
   have hp : posE l s = p := pos_of hb hlo.out fun h => hhi.out p (Nat.le_refl _) h
   have HIS : Hid (isE l s = (decide (p < l.length) && (gN l p == s))) := by show _ = _; unfold isE; rw [hp]
   have HP : Hid (posE l s = p) := hp
   clear hp
   have d0 : decide ((p : Int) < (p : Int)) = false := by simp
   by_cases he : p < l.length
   ·obtain ⟨g, off, rfl, hc⟩ := HV.out.at_ (by omega)
    obtain ⟨c0, c1⟩ := hc p he
    obtain ⟨N, hN⟩ : ∃ N, N = gN l p := ⟨_, rfl⟩
    rw [<- hN] at c0 HIS
    have i1 : (0 : Int) <= (p : Int) := by omega
    have i2 : (p : Int) < (l.length : Int) := by omega
    have d1 : decide ((p : Int) < (l.length : Int)) = true := by simp; omega
    have d2 : decide (p < l.length) = true := by simp; omega
    clear hc hN
    cases hq : (N == s)
    ·go_wp2
     go_big_quiet (fail)
     go_wp2
     go_ret2
     exact ⟨by rw [HP.out, HIS.out, hq, d2]; rfl, below_drewN _ _ _⟩
    ·go_wp2
     go_big_quiet (fail)
     go_wp2
     go_ret2
     exact ⟨by rw [HP.out, HIS.out, hq, d2]; rfl, below_drewN _ _ _⟩
   ·have d1 : decide ((p : Int) < (l.length : Int)) = false := by simp; omega
    have d2 : decide (p < l.length) = false := by simp; omega
    have d3 : ¬ (p : Int) < (l.length : Int) := by omega
    go_wp2
    go_big_quiet (fail)
    go_wp2
    go_ret2
    exact ⟨by rw [HP.out, HIS.out, d2]; rfl, below_drewN _ _ _⟩
end Go.Proofs.YtngcdlodcdgcaaaGreat.Dr
namespace Go.Proofs.YtngcdlodcdgcaaaGreat.Dr
open Go.RowKit Go.Sort
def asP (E : Int) (l : List En) (s : Nm) : Nat := if E = 0 then posE l s else 0
def asI (E : Int) (l : List En) (s : Nm) : Bool := decide (E = 0) && isE l s
set_option maxHeartbeats 1000000 in
set_option maxRecDepth 100000 in
theorem asked_any {k r c q : Int} {M : Nat} {e : Int} (hp : PP k r c q M e) (w : World) (ao : Option Addr) (l : List En) (ca : Nat) (hv : Ren w ao l ca) (hf : Few l) (s : Nm) :
  Calls Tryz.prog 45 #[.agg #[.int .i64 k, .int .i64 r, .int .i64 c, .int .i64 q], .slice ao l.length ca, .string ⟨s.toArray⟩] w fun e' w' =>
   ∃ E, E = erN (erC e M q l) s /\ e' = .returned (.tuple #[.int .i64 (asP E l s : Int), .bool (asI E l s), .int .i64 E]) /\ RowKit.Below w.heap.size w w' := by
 obtain ⟨w0, hw0⟩ : ∃ w0, w0 = w.alloc (.cells #[.int .i64 k, .int .i64 r, .int .i64 c, .int .i64 q] 23) := ⟨_, rfl⟩
 have b0 : RowKit.Below w.heap.size w w0 := by rw [hw0]; exact below_alloc _ _
 have HB0 : Hid (RowKit.Below w.heap.size w w0) := b0
 have HC := Check_e hp w0 ao l ca (hv.below b0) hf
 obtain ⟨x0, x1, x2, x3⟩ := par_held hw0 (Below.refl _ _)
 have HN := NCheck_any s
 by_cases he : erC e M q l = 0
 ·have HS : Hid (∀ u, RowKit.Below w0.heap.size w0 u -> Calls Tryz.prog 81 #[.slice ao l.length ca, .string ⟨s.toArray⟩] u fun e w' => e = .returned (.tuple #[.int .i64 (posE l s : Int), .bool (isE l s)]) /\ RowKit.Below u.heap.size u w') := fun u hu =>
   search_any u ao l ca ((hv.below b0).below hu) hf.1 (ri_of (erC_zero he).2.1) s
  rw [he] at HC ⊢
  clear he hv hf b0 hp
  cases hm : mayN s
  ·rw [erM_bad hm] at HN
   go_enter Tryz.func45, Tryz.ntmps45
   go_wp2_with fail
   rw [<- hw0]
   clear hw0
   refine HC.mono ?_
   rintro _ w1 ⟨rfl, h1⟩
   go_wp2_with fail
   refine (HN _).mono ?_
   rintro _ w2 ⟨rfl, rfl⟩
   go_wp2
   go_ret3
   exact ⟨6, by unfold erN; rw [hm]; rfl, rfl, below_then HB0.out h1⟩
  ·rw [erM_good hm] at HN
   go_enter Tryz.func45, Tryz.ntmps45
   go_wp2_with fail
   rw [<- hw0]
   clear hw0
   refine HC.mono ?_
   rintro _ w1 ⟨rfl, h1⟩
   go_wp2_with fail
   refine (HN _).mono ?_
   rintro _ w2 ⟨rfl, rfl⟩
   have hS := HS.out w2 h1
   go_wp2_with fail
   refine hS.mono ?_
   rintro _ w3 ⟨rfl, h3⟩
   go_wp2
   go_ret3
   exact ⟨0, by unfold erN; rw [hm]; rfl, rfl, below_then (below_then HB0.out h1) h3⟩
 ·have hz : (erC e M q l != 0) = true := by simpa using he
  have HE : Hid (erC e M q l ≠ 0) := he
  obtain ⟨E, hE⟩ : ∃ E, E = erC e M q l := ⟨_, rfl⟩
  rw [<- hE] at HC he hz HE ⊢
  clear hE
  go_enter Tryz.func45, Tryz.ntmps45
  go_wp2_with fail
  rw [<- hw0]
  clear hw0
  refine HC.mono ?_
  rintro _ w1 ⟨rfl, h1⟩
  go_wp2
  go_ret3
  refine ⟨E, by unfold erN; rw [if_neg HE.out], ?_, below_then HB0.out h1⟩
  unfold asP asI
  rw [if_neg HE.out, decide_eq_false HE.out]
  rfl
end Go.Proofs.YtngcdlodcdgcaaaGreat.Dr
namespace Go.Proofs.YtngcdlodcdgcaaaGreat.Dr
open Go.RowKit Go.Sort
def fiR (E : Int) (l : List En) (s : Nm) : Int := if asI E l s = true then gR l (posE l s) else 0
theorem asI_lt {E : Int} {l : List En} {s : Nm} (h : asI E l s = true) : E = 0 /\ isE l s = true /\ posE l s < l.length := by
 unfold asI at h
 rw [Bool.and_eq_true] at h
 have h2 := h.2
 unfold isE at h2
 rw [Bool.and_eq_true] at h2
 exact ⟨by simpa using h.1, h.2, by simpa using h2.1⟩
set_option maxHeartbeats 1000000 in
set_option maxRecDepth 100000 in
theorem Find_any {k r c q : Int} {M : Nat} {e : Int} (hp : PP k r c q M e) (w : World) (ao : Option Addr) (l : List En) (ca : Nat) (hv : Ren w ao l ca) (hf : Few l) (s : Nm) :
  Calls Tryz.prog 29 #[.agg #[.int .i64 k, .int .i64 r, .int .i64 c, .int .i64 q], .slice ao l.length ca, .string ⟨s.toArray⟩] w fun e' w' =>
   ∃ E, E = erN (erC e M q l) s /\ e' = .returned (.tuple #[.int .i64 (fiR E l s), .bool (asI E l s), .int .i64 E]) /\ RowKit.Below w.heap.size w w' := by
 obtain ⟨w0, hw0⟩ : ∃ w0, w0 = w.alloc (.cells #[.int .i64 k, .int .i64 r, .int .i64 c, .int .i64 q] 23) := ⟨_, rfl⟩
 have b0 : RowKit.Below w.heap.size w w0 := by rw [hw0]; exact below_alloc _ _
 have HB0 : Hid (RowKit.Below w.heap.size w w0) := b0
 have HC := asked_any hp w0 ao l ca (hv.below b0) hf s
 obtain ⟨x0, x1, x2, x3⟩ := par_held hw0 (Below.refl _ _)
 have HV : Hid (Ren w0 ao l ca) := hv.below b0
 clear hv hf b0 hp
 go_enter Tryz.func29, Tryz.ntmps29
 go_wp2_with fail
 rw [<- hw0]
 clear hw0
 refine HC.mono ?_
 rintro _ w1 ⟨E, hE, rfl, h1⟩
 have HE : Hid (E = erN (erC e M q l) s) := hE
 have HB1 : Hid (RowKit.Below w0.heap.size w0 w1) := h1
 clear hE h1 HC x0 x1 x2 x3
 cases hi : asI E l s
 ·by_cases h0 : E = 0
  ·subst h0
   go_wp2
   go_ret3
   exact ⟨0, HE.out, by unfold fiR; rw [hi]; rfl, below_then HB0.out HB1.out⟩
  ·have hz : (E != 0) = true := by simpa using h0
   have H0 : Hid (E ≠ 0) := h0
   clear h0
   go_wp2
   go_ret3
   exact ⟨E, HE.out, by unfold fiR; rw [hi]; rfl, below_then HB0.out HB1.out⟩
 ·obtain ⟨h0, h2, h3⟩ := asI_lt hi
  subst h0
  obtain ⟨b, off, rfl, hc⟩ := (HV.out.below HB1.out).at_ (by omega)
  obtain ⟨c0, c1⟩ := hc _ h3
  have HR : Hid (fiR 0 l s = gR l (posE l s)) := by show _ = _; unfold fiR; rw [hi]; rfl
  have HI : Hid (asI 0 l s = true) := hi
  have HAP : Hid (asP 0 l s = posE l s) := rfl
  rw [HAP.out]
  obtain ⟨p, hp⟩ : ∃ p, p = posE l s := ⟨_, rfl⟩
  rw [<- hp] at c0 c1 h3 HR ⊢
  obtain ⟨R, hR⟩ : ∃ R, R = gR l p := ⟨_, rfl⟩
  rw [<- hR] at c1 HR
  have i1 : (0 : Int) <= (p : Int) := by omega
  have i2 : (p : Int) < (l.length : Int) := by omega
  clear hc hp hR hi h2 h3 HAP
  go_wp2
  go_ret3
  exact ⟨0, HE.out, by rw [HR.out, HI.out]; rfl, below_then HB0.out HB1.out⟩
end Go.Proofs.YtngcdlodcdgcaaaGreat.Dr
namespace Go.Proofs.YtngcdlodcdgcaaaGreat.Dr
open Go.RowKit Go.Sort
theorem allR_iff (q : Int) (L : List Int) : allR q L = true ↔ ∀ i, i < L.length -> inR q (L.getD i 0) = true := by
 unfold allR
 rw [List.all_eq_true]
 constructor
 ·intro h i hi
  rw [List.getD_eq_getElem?_getD, List.getElem?_eq_getElem hi]
  exact h _ (List.getElem_mem hi)
 ·intro h x hx
  obtain ⟨i, hi, rfl⟩ := List.mem_iff_getElem.1 hx
  have := h i hi
  rw [List.getD_eq_getElem?_getD, List.getElem?_eq_getElem hi] at this
  exact this
theorem allR_no {q : Int} {L : List Int} {i : Nat} (h : i < L.length) (g : inR q (L.getD i 0) = false) : allR q L = false := by
 rw [Bool.eq_false_iff]; intro e
 rw [(allR_iff q L).1 e i h] at g; cases g
set_option maxHeartbeats 1000000 in
set_option maxRecDepth 100000 in
theorem ofBuckets_any (k r c q : Int) (w : World) (ao : Option Addr) (L : List Int) (ca : Nat) (hv : Rei w ao L ca) (hn : L.length <= 1000000) :
  Calls Tryz.prog 60 #[.agg #[.int .i64 k, .int .i64 r, .int .i64 c, .int .i64 q], .slice ao L.length ca] w fun e w' => e = .returned (.bool (okT q L)) /\ RowKit.Below w.heap.size w w' := by
 obtain ⟨w0, hw0⟩ : ∃ w0, w0 = w.alloc (.cells #[.int .i64 k, .int .i64 r, .int .i64 c, .int .i64 q] 23) := ⟨_, rfl⟩
 have b0 : RowKit.Below w.heap.size w w0 := by rw [hw0]; exact below_alloc _ _
 have HPAR : Hid (∀ v, RowKit.Below w0.heap.size w0 v -> v.cell? ⟨w.heap.size, 0, none⟩ = some (.int .i64 k) /\ v.cell? ⟨w.heap.size, 1, none⟩ = some (.int .i64 r) /\ v.cell? ⟨w.heap.size, 2, none⟩ = some (.int .i64 c) /\ v.cell? ⟨w.heap.size, 3, none⟩ = some (.int .i64 q)) := fun v hv => par_held hw0 hv
 have HV : Hid (Rei w0 ao L ca) := hv.below b0
 have HT := there_any k r c q
 have HB0 : Hid (RowKit.Below w.heap.size w w0) := b0
 have HY : Hid ((∀ i, i < L.length -> inR q (L.getD i 0) = true) -> okT q L = decide (L.length = 4)) := fun h => by unfold okT; rw [(allR_iff q L).2 h]; rfl
 have HN : Hid (∀ i, i < L.length -> inR q (L.getD i 0) = false -> okT q L = false) := fun i hi g => by unfold okT; rw [allR_no hi g]; rfl
 obtain ⟨M, hM⟩ : ∃ M, M = okT q L := ⟨_, rfl⟩
 rw [<- hM] at HY HN ⊢
 have hn2 : (L.length : Int) <= 1000000 := by omega
 clear hv b0 hM
 go_enter Tryz.func60, Tryz.ntmps60
 go_wp2_with fail
 rw [<- hw0]
 clear hw0
 go_loopw [9] (fun x wr => ∃ i : Nat, i <= L.length /\ x = .int .i64 (i : Int) /\ Hid (∀ j, j < i -> inR q (L.getD j 0) = true) /\ Hid (RowKit.Below w0.heap.size w0 wr)) (fun x _ => L.length - (intOf x).toNat)
 case atStart => exact ⟨0, Nat.zero_le _, rfl, fun j hj => absurd hj (by omega), Below.refl _ _⟩
 case round =>
  obtain ⟨i, hi, rfl, hok, hbel⟩ := hrel
  by_cases hlt : i < L.length
  ·obtain ⟨b, off, rfl, hc⟩ := (HV.out.below hbel.out).at_ (by omega)
   have c0 := hc i hlt
   have HNO := HN.out i hlt
   have HYES : Hid (inR q (L.getD i 0) = true -> ∀ j, j < i + 1 -> inR q (L.getD j 0) = true) := fun h j hj => by
    by_cases e : j = i
    ·rw [e]; exact h
    ·exact hok.out j (by omega)
   have hT := HT (L.getD i 0)
   obtain ⟨R, hR⟩ : ∃ R, R = L.getD i 0 := ⟨_, rfl⟩
   rw [<- hR] at c0 hT HNO HYES
   have i1 : (0 : Int) <= (i : Int) := by omega
   have i2 : (i : Int) < (L.length : Int) := by omega
   obtain ⟨x0, x1, x2, x3⟩ := HPAR.out wr hbel.out
   clear hc hR
   cases hr : inR q R
   ·rw [hr] at hT
    have HF : Hid (M = false) := HNO hr
    clear HNO hr
    go_wp2_with fail
    refine (hT _).mono ?_
    rintro _ w3 ⟨rfl, hb3⟩
    go_wp2
    go_ret
    exact ⟨ret_bool HF.out.symm, below_then HB0.out (below_then hbel.out hb3)⟩
   ·rw [hr] at hT
    have HYY : Hid (∀ j, j < i + 1 -> inR q (L.getD j 0) = true) := HYES.out hr
    clear HNO HYES hr
    go_wp2_with fail
    refine (hT _).mono ?_
    rintro _ w3 ⟨rfl, hb3⟩
    go_wp2
    go_roundw
    case rel => exact ⟨i + 1, by omega, by go_num, HYY, below_then hbel.out hb3⟩
    case measure => simp [intOf]; omega
  ·obtain rfl : i = L.length := by omega
   have HMM : Hid (M = decide (L.length = 4)) := HY.out fun j hj => hok.out j hj
   go_wp2
   go_ret
   refine ⟨ret_bool ?_, below_then HB0.out hbel.out⟩
   rw [HMM.out]
   by_cases h4 : L.length = 4
   ·simp [h4]
   ·have : ¬ (L.length : Int) = 4 := by omega
    simp [h4, this]
theorem or_bytes : ∀ (a b : Nat), a < 256 -> b < 256 -> (a * 256) ||| b = a * 256 + b := fun a b _ hb => by
 have := Nat.shiftLeft_add_eq_or_of_lt (i := 8) (b := b) (by simpa using hb) a
 rw [Nat.shiftLeft_eq] at this
 simpa using this.symm
theorem i64_or_nat (a b : Nat) (ha : a < 4611686018427387904) (hb : b < 4611686018427387904) : bits .or .i64 (a : Int) (b : Int) = ((a ||| b : Nat) : Int) := by
 have hx : a ||| b < 2 ^ 62 := Nat.or_lt_two_pow (by omega) (by omega)
 show IntKind.i64.wrap ((BitVec.ofInt 64 (a : Int) ||| BitVec.ofInt 64 (b : Int)).toNat : Int) = _
 rw [BitVec.toNat_or, ofInt_u64 a (by omega), ofInt_u64 b (by omega)]
 rw [IntKind.wrap_i64]
 omega
set_option maxHeartbeats 1000000 in
set_option maxRecDepth 100000 in
theorem rowOf_any (w : World) (g off n ca : Nat) (x y : UInt8) (hn : 2 <= n) (c0 : w.cell? ⟨g, off, none⟩ = some (.int .u8 (x.toNat : Int))) (c1 : w.cell? ⟨g, off + 1, none⟩ = some (.int .u8 (y.toNat : Int))) :
  Calls Tryz.prog 59 #[.slice (some ⟨g, off, none⟩) n ca] w fun e w' => e = .returned (.int .i64 ((x.toNat : Int) * 256 + (y.toNat : Int))) /\ RowKit.Below w.heap.size w w' := by
 have hx := x.toNat_lt
 have hy := y.toNat_lt
 obtain ⟨X, hX⟩ : ∃ X : Nat, X = x.toNat := ⟨_, rfl⟩
 obtain ⟨Y, hY⟩ : ∃ Y : Nat, Y = y.toNat := ⟨_, rfl⟩
 rw [<- hX] at c0 hx ⊢
 rw [<- hY] at c1 hy ⊢
 clear hX hY
 have i1 : (0 : Int) < (n : Int) := by omega
 have i2 : (1 : Int) < (n : Int) := by omega
 go_enter Tryz.func59, Tryz.ntmps59
 go_wp2
 go_quiet (fail)
 go_wp2
 go_ret
 refine ⟨ret_int ?_, below_drewN _ _ _⟩
 have := i64_or_nat (X * 256) Y (by omega) (by omega)
 rw [or_bytes X Y (by omega) (by omega)] at this
 rw [Int.natCast_mul, Int.natCast_add, Int.natCast_mul] at this
 exact this
end Go.Proofs.YtngcdlodcdgcaaaGreat.Dr
namespace Go.Proofs.YtngcdlodcdgcaaaGreat.Dr
open Go.RowKit Go.Sort
theorem rei_lit {w w0 : World} (v : Int) (h0 : w0 = w.alloc (.cells #[.int .i64 v] 3)) : Rei w0 (some ⟨w.heap.size, 0, none⟩) [v] 1 := by
 refine ⟨fun _ => ⟨_, _, rfl, fun j u hj => ?_⟩, (fun e => by cases e), Nat.le_refl _⟩
 rw [Nat.zero_add]
 refine blk_held h0 (Below.refl _ _) j ?_
 have : ivl [v] = [.int .i64 v] := rfl
 rw [this] at hj
 simpa using hj
theorem rws_take {b : List UInt8} {i : Nat} (h : i < 4) : (rws b).take (i + 1) = (rws b).take i ++ [rwB b i] := by
 rcases (show i = 0 \/ i = 1 \/ i = 2 \/ i = 3 by omega) with rfl | rfl | rfl | rfl <;> rfl
theorem okT_rws (q : Int) (b : List UInt8) : okT q (rws b) = allR q (rws b) := by unfold okT; simp [rws]
theorem erU_no {e q : Int} {b : List UInt8} (h : e ≠ 0) : erU e q b = e := by unfold erU; rw [if_neg h]
theorem erU_len {q : Int} {b : List UInt8} (h : b.length ≠ 8) : erU 0 q b = 220 := by unfold erU; rw [if_pos rfl, if_neg (fun g => h g.1)]
theorem erU_bad {q : Int} {b : List UInt8} (h : allR q (rws b) = false) : erU 0 q b = 220 := by unfold erU; rw [if_pos rfl, h, if_neg (fun g => by cases g.2)]
theorem erU_good {q : Int} {b : List UInt8} (h : b.length = 8) (g : allR q (rws b) = true) : erU 0 q b = 0 := by unfold erU; rw [if_pos rfl, if_pos ⟨h, g⟩]
set_option maxHeartbeats 4000000 in
set_option maxRecDepth 100000 in
theorem Buckets_any {k r c q : Int} {M : Nat} {e : Int} (hp : PP k r c q M e) (w : World) (ao : Option Addr) (b : List UInt8) (ca : Nat) (hv : Reb w ao b ca) :
  Calls Tryz.prog 34 #[.agg #[.int .i64 k, .int .i64 r, .int .i64 c, .int .i64 q], .slice ao b.length ca] w fun e' w' =>
   ∃ E bo cb L, E = erU e q b /\ L = (if E = 0 then rws b else []) /\ e' = .returned (.tuple #[.slice bo L.length cb, .int .i64 E]) /\ OwI w.heap.size w' bo L cb /\ RowKit.Below w.heap.size w w' := by
 obtain ⟨w0, hw0⟩ : ∃ w0, w0 = w.alloc (.cells #[.int .i64 k, .int .i64 r, .int .i64 c, .int .i64 q] 23) := ⟨_, rfl⟩
 have b0 : RowKit.Below w.heap.size w w0 := by rw [hw0]; exact below_alloc _ _
 have HPAR : Hid (∀ v, RowKit.Below w0.heap.size w0 v -> v.cell? ⟨w.heap.size, 0, none⟩ = some (.int .i64 k) /\ v.cell? ⟨w.heap.size, 1, none⟩ = some (.int .i64 r) /\ v.cell? ⟨w.heap.size, 2, none⟩ = some (.int .i64 c) /\ v.cell? ⟨w.heap.size, 3, none⟩ = some (.int .i64 q)) := fun v hv => par_held hw0 hv
 have HV : Hid (Reb w0 ao b ca) := hv.below b0
 have HB0 : Hid (RowKit.Below w.heap.size w w0) := b0
 have HC := hp.chk
 obtain ⟨x0, x1, x2, x3⟩ := HPAR.out w0 (Below.refl _ _)
 clear hv b0 hp
 by_cases he : e = 0
 ·subst he
  by_cases h8 : b.length = 8
  ·have HL8 : Hid (b.length = 8) := h8
   have hroom := Rev.room HV.out
   have hca : (8 : Int) <= (ca : Int) := by omega
   have hbl : (b.length : Int) = 8 := by omega
   have HOB := fun u uo uc hu => ofBuckets_any k r c q u uo (rws b) uc hu (by simp [rws])
   rw [okT_rws] at HOB
   go_enter Tryz.func34, Tryz.ntmps34
   go_wp2_with fail
   rw [<- hw0]
   clear hw0
   refine (HC _).mono ?_
   rintro _ w1 ⟨rfl, h1⟩
   have HB1 : Hid (RowKit.Below w0.heap.size w0 w1) := h1
   clear h1 HC x0 x1 x2 x3
   go_wp2_with fail
   go_loopw [7, 8] (fun v x wr => ∃ (i : Nat) (bo : Option Addr) (cb : Nat) (L : List Int), i <= 4 /\ x = .int .i64 ((2 * i : Nat) : Int) /\ v = .slice bo L.length cb /\ Hid (L = (rws b).take i) /\ Hid (OwI w0.heap.size wr bo L cb) /\ Hid (RowKit.Below w0.heap.size w0 wr)) (fun _ x _ => 8 - (intOf x).toNat)
   case atStart => exact ⟨0, none, 0, [], Nat.zero_le _, rfl, rfl, rfl, owi_nil _ _, HB1⟩
   case round =>
    obtain ⟨i, bo, cb, L, hi, rfl, rfl, hL, hown, hbel⟩ := hrel
    by_cases hlt : i < 4
    ·obtain ⟨g, off, rfl, _⟩ := (HV.out.below hbel.out).at_ (by have := HL8.out; omega)
     obtain ⟨g2, off2, e2, hc⟩ := (HV.out.below hbel.out).at_ (by have := HL8.out; omega)
     cases e2
     have c0 := hc (2 * i) (by have := HL8.out; omega)
     have c1 := hc (2 * i + 1) (by have := HL8.out; omega)
     have HLL : Hid (L ++ [rwB b i] = (rws b).take (i + 1)) := by show _ = _; rw [rws_take hlt, hL.out]
     have HRW : Hid (rwB b i = ((b.getD (2 * i) 0).toNat : Int) * 256 + ((b.getD (2 * i + 1) 0).toNat : Int)) := rfl
     obtain ⟨j, hj⟩ : ∃ j, j = 2 * i := ⟨_, rfl⟩
     have HJ : Hid (j = 2 * i) := hj
     rw [<- hj] at c0 c1 HRW ⊢
     have hRO := rowOf_any wr g (off + j) (8 - j) (ca - j) (b.getD j 0) (b.getD (j + 1) 0) (by have := HL8.out; omega) c0 (by rw [Nat.add_assoc]; exact c1)
     rw [<- HRW.out] at hRO
     have hLn : L.length <= 4 := by rw [hL.out, List.length_take]; omega
     obtain ⟨R, hR⟩ : ∃ R, R = rwB b i := ⟨_, rfl⟩
     rw [<- hR] at hRO HLL
     have i1 : (0 : Int) <= (j : Int) := by omega
     have i2 : (j : Int) < 8 := by omega
     have i3 : (j : Int) <= (ca : Int) := by omega
     have i4 : (j : Int) <= (b.length : Int) := by omega
     have i5 : ¬ ca = j := by omega
     have i6 : (j : Int) < (b.length : Int) := by omega
     clear hc hR hj c0 c1
     go_wp2_with fail
     refine hRO.mono ?_
     rintro _ w2 ⟨rfl, h2⟩
     have HB2 : Hid (RowKit.Below w0.heap.size w0 w2) := below_then hbel.out h2
     have hown2 := hown.out.below h2
     obtain ⟨w3, hw3⟩ : ∃ w3, w3 = w2.alloc (.cells #[.int .i64 R] 3) := ⟨_, rfl⟩
     have hb3 : RowKit.Below w2.heap.size w2 w3 := by rw [hw3]; exact below_alloc _ _
     have hlit : Rei w3 (some ⟨w2.heap.size, 0, none⟩) [R] 1 := rei_lit R hw3
     have HB3 : Hid (RowKit.Below w0.heap.size w0 w3) := below_then HB2.out hb3
     have hown3 := hown2.below hb3
     have hsz3 := HB3.out.size
     clear h2 hb3 hRO hown2
     go_wp2_with (rw [<- hw3]; at_builtin; refine append_ints (by rfl) (.tmp 23) (.tmp 28) (by rfl) w0.heap.size cb 1 bo (some ⟨w2.heap.size, 0, none⟩) L [R] (by rfl) (by rfl) hown3 hlit (by simp; omega) hsz3 ?_; intro bo4 cb4 w4 L4 hL4 hown4 hg4; have HL4 : Hid (L4 = L ++ [R]) := hL4; clear hL4)
     go_roundw
     case rel => exact ⟨i + 1, bo4, cb4, L4, by omega, by have := HJ.out; go_num, rfl, by show _ = _; rw [<- HLL.out, HL4.out], hown4, HB3.out.grown hg4 hsz3 hown3.ge⟩
     case measure => simp [intOf]; have := HJ.out; omega
    ·obtain rfl : i = 4 := by omega
     have HLE : Hid (L = rws b) := by show _ = _; rw [hL.out]; rfl
     have hlr := hown.out.rei
     rw [HLE.out] at hlr
     have hOB := HOB wr bo cb hlr
     rw [<- HLE.out] at hOB
     obtain ⟨x0, x1, x2, x3⟩ := HPAR.out wr hbel.out
     cases hm : allR q (rws b)
     ·rw [HLE.out, hm, <- HLE.out] at hOB
      have HM : Hid (allR q (rws b) = false) := hm
      clear hm hlr
      go_wp2_with fail
      refine hOB.mono ?_
      rintro _ w5 ⟨rfl, h5⟩
      go_wp2
      go_ret2
      exact ⟨220, none, 0, [], (erU_bad HM.out).symm, by rw [if_neg (by decide)], rfl, owi_nil _ _, below_then HB0.out (below_then hbel.out h5)⟩
     ·rw [HLE.out, hm, <- HLE.out] at hOB
      have HM : Hid (allR q (rws b) = true) := hm
      clear hm hlr
      go_wp2_with fail
      refine hOB.mono ?_
      rintro _ w5 ⟨rfl, h5⟩
      go_wp2
      go_ret2
      exact ⟨0, bo, cb, L, (erU_good HL8.out HM.out).symm, by rw [if_pos rfl]; exact HLE.out, rfl, (hown.out.below h5).mono HB0.out.size, below_then HB0.out (below_then hbel.out h5)⟩
  ·have hbl : ((b.length : Int) != 8) = true := by simp; omega
   have HL8 : Hid (b.length ≠ 8) := h8
   clear h8
   go_enter Tryz.func34, Tryz.ntmps34
   go_wp2_with fail
   rw [<- hw0]
   clear hw0
   refine (HC _).mono ?_
   rintro _ w1 ⟨rfl, h1⟩
   go_wp2
   go_ret2
   exact ⟨220, none, 0, [], (erU_len HL8.out).symm, by rw [if_neg (by decide)], rfl, owi_nil _ _, below_then HB0.out h1⟩
 ·have hz : (e != 0) = true := by simpa using he
  have HE : Hid (e ≠ 0) := he
  clear he
  go_enter Tryz.func34, Tryz.ntmps34
  go_wp2_with fail
  rw [<- hw0]
  clear hw0
  refine (HC _).mono ?_
  rintro _ w1 ⟨rfl, h1⟩
  go_wp2
  go_ret2
  exact ⟨e, none, 0, [], (erU_no HE.out).symm, by rw [if_neg HE.out], rfl, owi_nil _ _, below_then HB0.out h1⟩
end Go.Proofs.YtngcdlodcdgcaaaGreat.Dr
