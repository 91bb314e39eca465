import Derived.Lib.SmallJoins
import Derived.Deep.FieldsWide
import Derived.Test.YtngcdlodcdgcaaaGreatZk54
namespace Go.Proofs.YtngcdlodcdgcaaaGreat.Dr
open Go.RowKit Go.Sort
set_option maxHeartbeats 1000000 in
set_option maxRecDepth 100000 in
theorem awake_any (w : World) : Calls Tryz.prog 5 #[] w fun e w' => e = .returned (.bool true) /\ RowKit.Below w.heap.size w w' := by
 have HN : Hid (∀ u, Calls Tryz.prog 10 #[.agg #[.int .i64 0, .int .i64 0, .int .i64 0, .int .i64 0, .slice none 0 0]] u fun e w' => e = .returned (.tuple #[.int .i64 0, .int .i64 2]) /\ Below u.heap.size u w') := fun u =>
  Next_bad 2 (by decide) u none 0 0 (fun v _ => Check_img (F := fun _ => []) (x := 2) (N := 0) (Q := 0) (S := 0) (.inr (.inl ⟨rfl, by decide, rfl, rfl, rfl⟩)) none 0 (fun _ => none) (fun _ => 0) v (Im.lst_none _ _ _ _ _))
 go_enter Tryz.func5, Tryz.ntmps5
 go_wp2_with fail
 refine (HN.out _).mono ?_
 rintro e wa ⟨rfl, ha⟩
 clear HN
 go_wp2_with fail
 go_ret
 exact ⟨rfl, ha⟩
theorem found_law {k r c q : Int} {n cl : Nat} {F : Nat -> List UInt8} {lo : Option Addr} {A : Nat -> Option Addr} {C : Nat -> Nat} (w : World) (hl : Slt w lo n cl A C F) (s : Nm) :
  Calls Tryz.prog 4 #[.agg #[.int .i64 k, .int .i64 r, .int .i64 c, .int .i64 q, .slice lo n cl], .string ⟨s.toArray⟩] w fun e w' => e = .returned (.bool true) /\ RowKit.Below w.heap.size w w' := by
 obtain ⟨X, M, mv, BE, BB, SE, SL, hE⟩ := env_ex k r c q n F
 obtain ⟨bE, bL, eF, lF, d⟩ := dir_ex hE
 refine found_core w lo n cl s X bE bL d.b4 eF lF (fun o h => ⟨ri_of (d.eok o h).2.1, by have := d.elen o; omega⟩) (fun u => awake_any u) (fun u => big_any k r c q lo n cl u) (fun u hu => ?_) (fun u hu => d.bks u lo cl A C (hl.below hu)) (fun hX hb i hi u hu => ?_)
 ·have hu' := hl.below hu
  refine LFind_any u lo n cl s X bE bL d.b4 eF lF (fun v hv => hE.chk v lo cl A C (hu'.below hv)) (fun v hv => d.bks v lo cl A C (hu'.below hv)) (fun o v hv => d.ens o v lo cl A C (hu'.below hv)) (fun o ho hm v ao ca hren => ?_)
  obtain ⟨h1, h2, h3⟩ := d.eok o ho
  have hp := d.good h1
  have hfew : Few (lF o) := by
   refine ⟨by have := d.elen o; omega, by have := hp.top; omega, fun x hx => ?_⟩
   have := one_of h2 x hx
   unfold oneE at this
   rw [Bool.and_eq_true] at this
   have := (mayN_iff x.1).1 this.1
   omega
  refine (Find_any hp v ao (lF o) ca hren hfew s).mono ?_
  rintro e w' ⟨E, hEE, rfl, hb⟩
  have h0 : E = 0 := by rw [hEE, erC_good rfl h2 h3]; unfold erN; rw [if_pos rfl, if_pos hm]
  rw [h0]
  exact ⟨rfl, hb⟩
 ·have hu' := hl.below hu
  have hbk := fun v hv => d.bks v lo cl A C (hu'.below hv)
  rw [hb] at hbk
  exact Entries_good u lo n cl bL (d.b4 hb) i hi _ _ (fun v hv => by have := hE.chk v lo cl A C (hu'.below hv); rw [hX] at this; exact this) hbk (fun v hv => d.ens _ v lo cl A C (hu'.below hv))
theorem fEr_zero {f : Int -> Int} : ∀ {l : List Int}, fEr f l = 0 -> ∀ x ∈ l, f x = 0
 | [], _, x, hx => by cases hx
 | y :: l, h, x, hx => by
  have hy : f y = 0 := by
   by_cases e : f y = 0
   ·exact e
   ·have : fEr f (y :: l) = f y := if_neg e
    rw [this] at h; exact absurd h e
  have hl : fEr f l = 0 := by have : fEr f (y :: l) = fEr f l := if_pos hy; rw [<- this]; exact h
  rcases List.mem_cons.1 hx with rfl | hx
  ·exact hy
  ·exact fEr_zero hl x hx
theorem fls_at (g : Int -> List Int) (l : List Int) (i j : Nat) (hi : i < l.length) (hj : j < (g (l.getD i 0)).length) : (fLs g (l.take i)).length + j < (fLs g l).length /\ (fLs g l).getD ((fLs g (l.take i)).length + j) 0 = (g (l.getD i 0)).getD j 0 := by
 have e : fLs g l = fLs g (l.take i) ++ (g (l.getD i 0) ++ fLs g (l.drop (i + 1))) := by
  have h1 : fLs g l = fLs g (l.take (i + 1)) ++ fLs g (l.drop (i + 1)) := by
   unfold fLs; rw [<- List.flatMap_append, List.take_append_drop]
  rw [h1, fLs_take hi, List.append_assoc]
 rw [e]
 refine ⟨by simp only [List.length_append]; omega, ?_⟩
 rw [List.getD_eq_getElem?_getD, List.getElem?_append_right (by omega), show (fLs g (l.take i)).length + j - (fLs g (l.take i)).length = j by omega, List.getElem?_append_left hj]
 exact List.getD_eq_getElem?_getD.symm
theorem snds_getD (l : List En) (j : Nat) : (snds l).getD j 0 = gR l j := by
 unfold snds gR
 rw [List.getD_eq_getElem?_getD, List.getD_eq_getElem?_getD, List.getElem?_map]
 cases l[j]? <;> rfl
theorem getD_mem {l : List Int} {i : Nat} (h : i < l.length) : l.getD i 0 ∈ l := by
 rw [List.getD_eq_getElem?_getD, List.getElem?_eq_getElem h]; exact List.getElem_mem _
theorem told_of {dL bL : List Int} {SL : Int -> List Li} {lF : Int -> List En} {mv : Int} (hb : bL.length = 4) (hd : dL = 0 :: (bL ++ fLs (fun o => snds (lF o)) bL)) (hl : ∀ o, (lF o).length <= 32768) (hs : ∀ o, (SL o).length <= 5000) (hv : ∀ o x, x ∈ SL o -> x.2.1 = 2 -> x.2.2 <= mv) :
  Told dL bL (mts (gA (fLl SL dL)) (fLl SL dL).length) (fLl SL dL) SL (fun i => lF (bL.getD i 0)) (fun i => 5 + (fLs (fun o => snds (lF o)) (bL.take i)).length) (mv + 1) := by
 obtain ⟨h1, h2⟩ := mts_spec (gA (fLl SL dL)) (fLl SL dL).length
 have hsl : ∀ o, (snds (lF o)).length = (lF o).length := fun o => by unfold snds; rw [List.length_map]
 have hdl : dL.length = 5 + (fLs (fun o => snds (lF o)) bL).length := by rw [hd, List.length_cons, List.length_append, hb]; omega
 have hat : ∀ m, m < (fLs (fun o => snds (lF o)) bL).length -> dL.getD (5 + m) 0 = (fLs (fun o => snds (lF o)) bL).getD m 0 := fun m hm => by
  rw [hd, show 5 + m = (4 + m) + 1 by omega]
  rw [List.getD_eq_getElem?_getD, List.getElem?_cons_succ, List.getElem?_append_right (by omega), hb, show 4 + m - 4 = m by omega, List.getD_eq_getElem?_getD]
 refine { b4 := hb, d0 := by rw [hd]; rfl, db := fun i hi => ?_, p0 := rfl, p1 := fun i hi => ?_, p4 := ?_, px := fun i j hi hj => ?_, dn := ?_, sn := hs, ll := rfl, ver := fun i hi hk => ?_, inc := h1, mem := h2, few := mts_le _ _ }
 ·rw [hd, Nat.add_comm 1 i, List.getD_eq_getElem?_getD, List.getElem?_cons_succ, List.getElem?_append_left (by omega), List.getD_eq_getElem?_getD]
 ·show 5 + (fLs _ (bL.take (i + 1))).length = 5 + (fLs _ (bL.take i)).length + (lF (bL.getD i 0)).length
  rw [fLs_take (by omega), List.length_append, hsl]; omega
 ·show 5 + (fLs _ (bL.take 4)).length = dL.length
  rw [hdl, List.take_of_length_le (by omega)]
 ·have h := fls_at (fun o => snds (lF o)) bL i j (by omega) (by rw [hsl]; exact hj)
  refine ⟨by show 5 + _ + j < _; omega, ?_⟩
  show dL.getD (5 + (fLs (fun o => snds (lF o)) (bL.take i)).length + j) 0 = _
  rw [Nat.add_assoc, hat _ h.1, h.2, snds_getD]
 ·have := fLs_le (g := fun o => snds (lF o)) (m := 32768) (fun o => by rw [hsl]; exact hl o) bL
  rw [hb] at this
  omega
 ·have hm : (fLl SL dL)[i] ∈ fLl SL dL := List.getElem_mem _
  obtain ⟨o, _, ho⟩ := List.mem_flatMap.1 hm
  have e : (fLl SL dL).getD i (0, 0, 0) = (fLl SL dL)[i] := by rw [List.getD_eq_getElem?_getD, List.getElem?_eq_getElem hi]; rfl
  unfold gK at hk
  rw [e] at hk
  have := hv o _ ho hk
  unfold gV
  rw [e]
  omega
theorem rdn_of {w : World} {ao : Option Addr} {l : List Int} (h : RdL w ao l) : RdN w ao l := fun hn => by
 obtain ⟨b, off, e, hc⟩ := h (fun e => by rw [e] at hn; exact absurd hn (Nat.lt_irrefl 0))
 exact ⟨b, off, e, fun i hi => by rw [hc i hi, List.getD_eq_getElem?_getD, List.getElem?_eq_getElem hi]; rfl⟩
set_option maxHeartbeats 1000000 in
theorem rows_law {k r c q : Int} {n cl : Nat} {F : Nat -> List UInt8} {lo : Option Addr} {A : Nat -> Option Addr} {C : Nat -> Nat} (w : World) (hl : Slt w lo n cl A C F) :
  Calls Tryz.prog 3 #[.agg #[.int .i64 k, .int .i64 r, .int .i64 c, .int .i64 q, .slice lo n cl]] w fun e w' => e = .returned (.bool true) /\ RowKit.Below w.heap.size w w' := by
 obtain ⟨X, M, mv, BE, BB, SE, SL, hE⟩ := env_ex k r c q n F
 obtain ⟨bE, bL, eF, lF, d⟩ := dir_ex hE
 obtain ⟨dE, hdE⟩ : ∃ dE, dE = dEr bE bL eF := ⟨_, rfl⟩
 obtain ⟨dL, hdL⟩ : ∃ dL, dL = dLs bE bL eF lF := ⟨_, rfl⟩
 have hd9 : ∀ u, RowKit.Below w.heap.size w u -> Calls Tryz.prog 9 #[.agg #[.int .i64 k, .int .i64 r, .int .i64 c, .int .i64 q, .slice lo n cl]] u (AnsI u dE dL) := fun u hu => by rw [hdE, hdL]; exact d.dcs u lo cl A C (hl.below hu)
 have hdn : dE ≠ 0 -> dL = [] := fun h => by rw [hdL]; unfold dLs; rw [<- hdE, if_neg h]
 have hb4 : bL.length <= 4 := by
  by_cases h : bE = 0
  ·rw [d.b4 h]; exact Nat.le_refl _
  ·rw [d.bno h]; exact Nat.zero_le _
 have hdl : dL.length <= 1000000 := by
  rw [hdL]; unfold dLs
  split
  ·have := fLs_le (g := fun o => snds (lF o)) (m := 32768) (fun o => by unfold snds; rw [List.length_map]; exact d.elen o) bL
   have h2 := Nat.mul_le_mul_right 32768 hb4
   rw [List.length_cons, List.length_append]
   omega
  ·exact Nat.zero_le _
 have h13 : ∀ o u, RowKit.Below w.heap.size w u -> Calls Tryz.prog 13 #[.agg #[.int .i64 k, .int .i64 r, .int .i64 c, .int .i64 q, .slice lo n cl], .int .i64 o] u (AnsL u (SE o) (SL o)) := fun o u hu => hE.sts o u lo cl A C (hl.below hu)
 have h7 : ∀ u, RowKit.Below w.heap.size w u -> Calls Tryz.prog 7 #[.agg #[.int .i64 k, .int .i64 r, .int .i64 c, .int .i64 q, .slice lo n cl]] u (AnsL u (sE dE dL SE) (sL dE dL SE SL)) := fun u hu =>
  LStripes_any u lo n cl dE dL hdn hdl SE SL hE.slen (fun v hv => hd9 v (below_then hu hv)) (fun o v hv => h13 o v (below_then hu hv))
 have h10 : ∀ u, RowKit.Below w.heap.size w u -> Calls Tryz.prog 10 #[.agg #[.int .i64 k, .int .i64 r, .int .i64 c, .int .i64 q, .slice lo n cl]] u fun e w' => e = .returned (.tuple #[.int .i64 (if X = 0 then mv + 1 else 0), .int .i64 X]) /\ RowKit.Below u.heap.size u w' := fun u hu => hE.nxt u lo cl A C (hl.below hu)
 have HA := fun u => awake_any u
 have HG := fun u => big_any k r c q lo n cl u
 by_cases hEz : sE dE dL SE = 0
 ·have hL : sL dE dL SE SL = fLl SL dL := by unfold sL; rw [if_pos hEz]
  rw [hEz, hL] at h7
  have hd0 : dE = 0 := by
   by_cases h : dE = 0
   ·exact h
   ·unfold sE at hEz; rw [if_neg h] at hEz; exact absurd hEz h
  have hse : fEr SE dL = 0 := by unfold sE at hEz; rw [if_pos hd0] at hEz; exact hEz
  have hb0 : bE = 0 := by
   by_cases h : bE = 0
   ·exact h
   ·rw [hd0] at hdE; unfold dEr at hdE; rw [if_neg h] at hdE; exact absurd hdE.symm h
  have hee : fEr eF bL = 0 := by rw [hd0] at hdE; unfold dEr at hdE; rw [if_pos hb0] at hdE; exact hdE.symm
  have hX := d.bok hb0
  have hbl := d.b4 hb0
  have hdc : dL = 0 :: (bL ++ fLs (fun o => snds (lF o)) bL) := by rw [hdL]; unfold dLs; rw [if_pos (by rw [<- hdE]; exact hd0)]
  rw [hd0] at hd9
  simp only [hX, if_true] at h10
  have hl1 : 1 <= (fLl SL dL).length := by
   have h0 := hE.spos 0 (fEr_zero hse 0 (by rw [hdc]; exact List.mem_cons_self))
   rw [hdc]
   show 1 <= (((0 : Int) :: _).flatMap SL).length
   rw [List.flatMap_cons, List.length_append]
   omega
  have ht := told_of (mv := mv) hbl hdc d.elen hE.slen hE.ver
  refine rows_core w lo n cl dL bL _ _ SL _ _ (mv + 1) ht HA HG h7 (fun u hu => ?_) hd9 h10 (fun u hu => by have := d.bks u lo cl A C (hl.below hu); rw [hb0] at this; exact this) (fun i hi u hu => ?_) (fun i hi u hu => ?_)
  ·refine (LRows_good u lo n cl _ hl1 (by have := ht.ln; omega) (fun v hv => h7 v (below_then hu hv))).mono ?_
   rintro e w' ⟨ao, cap, rfl, h1, h2⟩
   exact ⟨ao, cap, rfl, rdn_of h1, h2⟩
  ·have hu' := hl.below hu
   have he0 := fEr_zero hee (bL.getD i 0) (getD_mem (by omega))
   have hbk := fun v hv => d.bks v lo cl A C (hu'.below hv)
   rw [hb0] at hbk
   have := Entries_good u lo n cl bL hbl i hi (eF (bL.getD i 0)) (lF (bL.getD i 0)) (fun v hv => by have := hE.chk v lo cl A C (hu'.below hv); rw [hX] at this; exact this) hbk (fun v hv => d.ens _ v lo cl A C (hu'.below hv))
   rw [he0] at this
   exact this
  ·have := h13 (dL.getD i 0) u hu
   rw [fEr_zero hse _ (getD_mem hi)] at this
   exact this
 ·have hL : sL dE dL SE SL = [] := by unfold sL; rw [if_neg hEz]
  rw [hL] at h7
  exact rows_bad w lo n cl _ hEz dE dL _ X HA HG h7 (fun u hu => LRows_bad u lo n cl _ hEz (fun v hv => h7 v (below_then hu hv))) hd9 h10
end Go.Proofs.YtngcdlodcdgcaaaGreat.Dr
namespace Go.Proofs.YtngcdlodcdgcaaaGreat.Im
open Go.RowKit Go.ChangeShapes Go.WideShapes Go.Deep Go.Joins

section
variable {H : Type} {enc : TypeId × Value -> H} {w : World} {held : Bool}
theorem bytes_of (s : ByteArray) : ∃ l : List UInt8, s = ⟨l.toArray⟩ := ⟨s.data.toList, by cases s; simp⟩
theorem u8_of {z : Int} (h : (Lit.int .u8 z).wf = true) : ((UInt8.ofNat z.toNat).toNat : Int) = z := by
 have b := bounds_u8 h
 rw [UInt8.toNat_ofNat']
 omega
theorem open_bytes {fuel : Nat} {v : Value} {x : DataW H × List MemPlace} (h : DataW.trod enc Tryz.prog w 0 (fun _ => true) held fuel 74 [v] = some x) :
  ∃ ao cp c, v = .slice ao (List.length c) cp /\ RdB w ao c /\ (ao = none -> c = [] /\ cp = 0) /\ c.length <= cp := by
 rcases open_ints Tryz.underlying74 Tryz.underlying5 (by kernel_rfl) h with ⟨hcs, _⟩ | ⟨a, l, cp, zs, hcs, _, hl, _, hz, _, hcell, hwz⟩
 ·simp at hcs
  exact ⟨none, 0, [], hcs, rdb_nil _ _, fun _ => ⟨rfl, rfl⟩, Nat.le_refl _⟩
 ·simp at hcs
  simp only [if_true] at hz
  have hlen : ((zs.take l).map fun z => UInt8.ofNat z.toNat).length = l := by rw [List.length_map, List.length_take]; omega
  refine ⟨some a, cp, (zs.take l).map fun z => UInt8.ofNat z.toNat, by rw [hlen]; exact hcs, fun hne => ?_, (fun e => by cases e), by rw [hlen]; exact hl⟩
  have hl0 : 0 < l := by rw [<- hlen]; exact List.length_pos_iff.2 hne
  have h0 := hcell 0 (by omega)
  obtain ⟨b, off, spot⟩ := a
  have hspot : spot = none := by simpa [Addr.add] using World.cell?_spot h0
  subst hspot
  refine ⟨b, off, rfl, fun j hj => ?_⟩
  rw [hlen] at hj
  have hj2 : j < zs.length := by omega
  have hc := hcell j hj2
  rw [add_plain] at hc
  rw [hc, List.getElem_map, List.getElem_take]
  rw [show zs.getD j 0 = zs[j] by simp [List.getD, hj2], u8_of (hwz _ (List.getElem_mem hj2))]
theorem open_lst {fuel : Nat} {v : Value} {x : DataW H × List MemPlace} (h : DataW.trod enc Tryz.prog w 0 (fun _ => true) held fuel 24 [v] = some x) :
  ∃ lo n cl A C F, v = .slice lo n cl /\ Dr.Slt w lo n cl A C F /\ (x.1 = .nil \/ ∃ e s, x.1 = .slice e s /\ e.length + s.length = cl) := by
 rcases open_slice1 Tryz.underlying24 (by kernel_rfl) h with ⟨hcs, hx⟩ | ⟨a, len, cap, m, n, V, D, Pl, hcs, _, hl, hm, hmm, hx, hc⟩
 ·simp at hcs
  exact ⟨none, 0, 0, fun _ => none, fun _ => 0, fun _ => [], hcs, ⟨⟨fun h => absurd h (Nat.lt_irrefl 0), fun i hi => absurd hi (Nat.not_lt_zero i), fun i hi => absurd hi (Nat.not_lt_zero i)⟩, Nat.le_refl _, fun i hi => absurd hi (Nat.not_lt_zero i)⟩, .inl (by rw [hx])⟩
 ·simp at hcs
  simp only [if_true] at hmm
  subst hmm
  have each : ∀ i, i < m -> ∃ y : Option Addr × Nat × List UInt8, V i = .slice y.1 y.2.2.length y.2.1 /\ RdB w y.1 y.2.2 /\ (y.1 = none -> y.2.2 = [] /\ y.2.1 = 0) /\ y.2.2.length <= y.2.1 := by
   intro i hi
   obtain ⟨ao, cp, c, h1, h2, h3, h4⟩ := open_bytes (hc i hi).2
   exact ⟨(ao, cp, c), h1, h2, h3, h4⟩
  obtain ⟨y, hy⟩ := choose_lt each
  refine ⟨some a, len, m, fun i => (y i).1, fun i => (y i).2.1, fun i => (y i).2.2, hcs, ⟨⟨fun h0 => ?_, fun i hi => (hy i (by omega)).2.1, fun i hi => (hy i (by omega)).2.2.1⟩, hl, fun i hi => (hy i (by omega)).2.2.2⟩, .inr ⟨_, _, by rw [hx], by simp; omega⟩⟩
  have k0 := (hc 0 (by omega)).1
  obtain ⟨b, off, spot⟩ := a
  have hspot : spot = none := by simpa [Addr.add] using World.cell?_spot k0
  subst hspot
  refine ⟨b, off, rfl, fun i hi => ?_⟩
  have := (hc i (by omega)).1
  rw [add_plain] at this
  rw [this, (hy i (by omega)).1]
theorem array5 {α : Type} {cs : Array α} (h : cs.size = 5) : ∃ c0 c1 c2 c3 c4, cs = #[c0, c1, c2, c3, c4] := by
 obtain ⟨l⟩ := cs
 match l, h with
 | [c0, c1, c2, c3, c4], _ => exact ⟨c0, c1, c2, c3, c4, rfl⟩
theorem cells23 : Tryz.prog.cellsOf 23 = 4 := by kernel_rfl
theorem cells24 : Tryz.prog.cellsOf 24 = 1 := by kernel_rfl
theorem cells26 : Tryz.prog.cellsOf 26 = 5 := by kernel_rfl
theorem cells3 : Tryz.prog.cellsOf 3 = 1 := by kernel_rfl
set_option maxRecDepth 100000 in
theorem open_img {r : Reach} {b0 : Nat} {v : Value} {d : DataW H} {p : List MemPlace} (hv : Value.okWide Tryz.prog w r b0 26 v) (h : DataW.Trod enc Tryz.prog w 0 (fun _ => true) held 26 v d p) :
  ∃ k ro c q lo n cl A C F, v = .agg #[.int .i64 k, .int .i64 ro, .int .i64 c, .int .i64 q, .slice lo n cl] /\ Dr.Slt w lo n cl A C F /\ ∃ y z, d = .agg [y, z] /\ (z = .nil \/ ∃ e s, z = .slice e s /\ e.length + s.length = cl) := by
 obtain ⟨cs, rfl, hsz⟩ := okWide_struct Tryz.underlying26 hv
 obtain ⟨c0, c1, c2, c3, c4, rfl⟩ := array5 (hsz.trans cells26)
 obtain ⟨fuel, hf⟩ := h
 obtain ⟨y0, y1, n, hx, _, h0, h1⟩ := trod_struct2 Tryz.underlying26 hf
 simp only [Prod.mk.injEq] at hx
 simp [Value.cells, cells23, cells24] at h0 h1
 obtain ⟨z0, z1, z2, z3, m, _, _, t0, t1, t2, t3⟩ := trod_struct4 Tryz.underlying23 h0
 simp [cells3] at t0 t1 t2 t3
 obtain ⟨a0, e0, _, _⟩ := DataW.trod_int Tryz.underlying3 t0
 obtain ⟨a1, e1, _, _⟩ := DataW.trod_int Tryz.underlying3 t1
 obtain ⟨a2, e2, _, _⟩ := DataW.trod_int Tryz.underlying3 t2
 obtain ⟨a3, e3, _, _⟩ := DataW.trod_int Tryz.underlying3 t3
 obtain ⟨lo, nn, cl, A, C, F, e4, hl, hd⟩ := open_lst h1
 simp at e0 e1 e2 e3
 subst e0 e1 e2 e3 e4
 exact ⟨a0, a1, a2, a3, lo, nn, cl, A, C, F, rfl, hl, y0.1, y1.1, hx.1, hd⟩
end
end Go.Proofs.YtngcdlodcdgcaaaGreat.Im
