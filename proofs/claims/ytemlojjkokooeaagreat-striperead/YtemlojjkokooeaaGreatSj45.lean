import Derived.Test.YtemlojjkokooeaaGreatSj35
import Derived.Test.YtemlojjkokooeaaGreatSj36
import Derived.Test.YtemlojjkokooeaaGreatSj44
set_option maxHeartbeats 4000000
set_option maxRecDepth 100000
namespace Go.Proofs.YtemlojjkokooeaaGreat
open Go.RowKit
theorem RPresent_any {k r c q : Int} {N W : Nat} {x : Int} (h : Par k r c q N W x) (w : World) (ro : Option Addr) (rn rc : Nat) (A : Nat -> Option Addr) (L C : Nat -> Nat) (F : Nat -> Nat -> UInt8) (hr : Rw w ro rn A L C F) (kd : UInt8) (v : Int) (E : Int) (hE : erK x N c rn L kd v = E) :
  Calls Tryz.prog 14 #[.agg #[.int .i64 k, .int .i64 r, .int .i64 c, .int .i64 q], .slice ro rn rc, .int .u8 ((kd.toNat : Nat) : Int), .int .i64 v] w (Ans w E (ct (zv N c L F kd v) N) (se (zv N c L F kd v) N)) := by
 have HA : Hid (∀ u, Below w.heap.size w u -> Calls Tryz.prog 69 #[.agg #[.int .i64 k, .int .i64 r, .int .i64 c, .int .i64 q], .slice ro rn rc, .int .u8 ((kd.toNat : Nat) : Int), .int .i64 v] u fun e w' => e = .returned (.int .i64 E) /\ Below u.heap.size u w') := fun u hu => RAsked_any h u ro rn rc A L C F (hr.below hu) kd v E hE
 obtain ⟨w0, hw0⟩ : ∃ w0, w0 = w.alloc (.cells #[.int .i64 k, .int .i64 r, .int .i64 c, .int .i64 q] 23) := ⟨_, rfl⟩
 have B0 : Hid (Below w.heap.size w w0) := by show Below _ _ _; rw [hw0]; exact below_alloc _ _
 have L0 : Hid (∀ v, Below w0.heap.size w0 v -> At w v w.heap.size #[.int .i64 k, .int .i64 r, .int .i64 c, .int .i64 q] 23) := fun v hv => (at_made (Below.refl _ _) hw0).below hv
 unfold Ans
 by_cases he : E = 0
 ·subst he
  obtain ⟨hR, hk, _⟩ := erK_zero hE
  obtain ⟨rfl, rfl, hL⟩ := erR_zero hR
  have hle := h.le
  obtain ⟨i0, hi, hi0, hi1, hi2⟩ := info_parts info3
  obtain ⟨z, hz⟩ : ∃ z, z = zv rn c L F kd v := ⟨_, rfl⟩
  have HZ : Hid (∀ i, i < rn -> ((z i).ce = 0 /\ (z i).dn = 0) \/ ((z i).ce ≠ 0 /\ 0 < (z i).dn)) := fun i hi => by
   obtain ⟨c1, _⟩ := h.cell rfl
   have := (zok_of (N := rn) (c := c) (L := L) (F := F) (kd := kd) (v := v)).dn i hi
   rw [<- hz] at this
   rcases this with g | ⟨g1, g2⟩
   ·exact .inl g
   ·exact .inr ⟨g1, by omega⟩
  have HT : Hid (∀ u, Below w.heap.size w u -> Calls Tryz.prog 73 #[.agg #[.int .i64 k, .int .i64 r, .int .i64 c, .int .i64 q], .slice ro rn rc, .int .u8 ((kd.toNat : Nat) : Int), .int .i64 v] u fun e w' => ∃ lo T U, e = .returned (.tuple #[.slice lo rn rn, .int .i64 ((ct z rn : Nat) : Int)]) /\ RdC w' lo rn T (fun j => (z j).dn) U /\ Below u.heap.size u w') := fun u hu => by
   refine (There_any h u ro rc A L C F (hr.below hu) hL kd hk v).mono ?_
   rintro e w' ⟨T, U, rfl, h1, _, hb⟩
   rw [<- hz] at h1 ⊢
   refine ⟨_, T, U, rfl, fun hp => ⟨u.heap.size + 1, 0, rfl, fun i hi => ?_⟩, hb⟩
   have := h1.cells (g := u.heap.size + 1) rfl i _ (Cod.rowsOf_get rn T (fun j => (z j).dn) U i hi)
   rwa [Addr.add_lit] at this
  rw [<- hz]
  rw [show lenE 0 (ct z rn) = ct z rn from rfl]
  clear h hr hE hR hL hk hz
  go_enter Tryz.func14, Tryz.ntmps14
  go_wp2_with fail
  rw [<- hw0]
  clear hw0
  refine (HA.out _ B0.out).mono ?_
  rintro e wa ⟨rfl, ha⟩
  have BA : Hid (Below w0.heap.size w0 wa) := ha
  clear ha
  have pq := L0.out wa BA.out
  have s0 := pq.cell (i := 0) rfl
  have s1 := pq.cell (i := 1) rfl
  have s2 := pq.cell (i := 2) rfl
  have s3 := pq.cell (i := 3) rfl
  clear pq
  go_wp2_with fail
  refine (HT.out _ (below_then B0.out BA.out)).mono ?_
  rintro e wt ⟨lo, T, U, rfl, hc, hb⟩
  have HC : Hid (RdC wt lo rn T (fun j => (z j).dn) U) := hc
  have HBT : Hid (Below w.heap.size w wt) := below_then (below_then B0.out BA.out) hb
  clear hc hb s0 s1 s2 s3
  go_wp2_with fail
  go_loopw [13, 14] (fun y x wr => ∃ i m : Nat, i <= rn /\ Hid (m = ct z i) /\ m <= i /\ x = .int .i64 (i : Int) /\ (∃ ao cap, y = .slice ao m cap /\ Hid (wr.ownsRow wt.heap.size 3 1 (.slice ao m cap) m (zOf m (se z i)))) /\ Hid (Below wt.heap.size wt wr)) (fun _ x _ => rn - (intOf x).toNat)
  case atStart => exact ⟨0, 0, Nat.zero_le _, rfl, Nat.le_refl _, rfl, ⟨none, 0, rfl, World.ownsRow_nil _ _ _ _⟩, Below.refl _ _⟩
  case round =>
   obtain ⟨i, m, hiN, hm, hmi, rfl, ⟨ao, cap, rfl, hown⟩, hbel⟩ := hrel
   by_cases hlt : i < rn
   ·obtain ⟨b, off, rfl, hcc⟩ := (HC.out) (by omega)
    have d0 : wr.cell? ⟨b, off + i, none⟩ = some (.slice (T i) (z i).dn (U i)) := held (hcc i hlt) hbel.out
    have i1 : (0 : Int) <= (i : Int) := by omega
    have i2 : (i : Int) < (rn : Int) := by omega
    clear hcc
    rcases HZ.out i hlt with ⟨g1, g2⟩ | ⟨g1, g2⟩
    ·rw [g2] at d0
     have HS : Hid (ct z (i + 1) = ct z i /\ se z (i + 1) = se z i) := se_skip g1
     clear g1 g2
     go_wp2_with fail
     go_roundw
     case rel => exact ⟨i + 1, m, by omega, by show _ = _; rw [HS.out.1]; exact hm.out, by omega, by go_num, ⟨ao, cap, rfl, by rw [HS.out.2]; exact hown.out⟩, hbel.out⟩
     case measure => simp [intOf]; omega
    ·obtain ⟨d, hd⟩ : ∃ d, d = (z i).dn := ⟨_, rfl⟩
     rw [<- hd] at d0 g2
     have j1 : (0 : Int) < (d : Int) := by omega
     have HS : Hid (ct z (i + 1) = ct z i + 1 /\ zOf (ct z i + 1) (se z (i + 1)) = zOf (ct z i) (se z i) ++ [.int .i64 (i : Int)]) := se_take g1
     obtain ⟨XS, hXS⟩ : ∃ X, X = zOf m (se z i) := ⟨_, rfl⟩
     have HXS : Hid (XS ++ [.int .i64 (i : Int)] = zOf (m + 1) (se z (i + 1))) := by
      show _ = _
      have := HS.out.2
      rw [<- hm.out] at this
      rw [hXS, this]
     have HM : Hid (m + 1 = ct z (i + 1)) := by show _ = _; rw [HS.out.1, <- hm.out]
     have hws := hbel.out.size
     have HOW : Hid (∀ o, (wr.alloc o).ownsRow wt.heap.size 3 1 (.slice ao m cap) m XS) := fun o => by rw [hXS]; exact owns_below hown.out (below_alloc _ _)
     clear g1 g2 hd hXS HS hown
     go_wp2_with (at_builtin; refine wpList_append_lies _ (by rfl) (.tmp 43) (.tmp 45) 27 (by rfl) wt.heap.size 3 i0 (.int .i64 0) 1 8 Tryz.underlying27 hi hi0 hi1 hi2 (by rfl) (by decide) (.slice ao m cap) m XS (by rfl) (HOW.out _) ⟨wr.heap.size, 0, none⟩ 1 1 [.int .i64 (i : Int)] (by rfl) (by rfl) (World.news_of_block (heap_alloc_new wr _)) (by simp [Value.oneCell']) (by decide) (by unfold maxLen; omega) (by omega) (by simp; omega) (wr.heap.size + 1) (by simp) ?_; intro g5 cap5 w5 hown5 hgrow5 _ _; have HO5 : Hid (w5.ownsRow wt.heap.size 3 1 (.slice (some ⟨g5, 0, none⟩) (m + 1) cap5) (m + 1) (XS ++ [.int .i64 (i : Int)])) := hown5; have B5 : Hid (Below wt.heap.size wt w5) := ((hbel.out.alloc hws _).grown hgrow5 (by simp; omega) (fun q hq => ((HOW.out (.cells #[] 3)).lt q hq).1)); clear hown5 hgrow5)
     go_roundw
     case rel => exact ⟨i + 1, m + 1, by omega, HM.out, by omega, by go_num, ⟨_, _, rfl, by rw [<- HXS.out]; exact HO5.out⟩, B5.out⟩
     case measure => simp [intOf]; omega
   ·obtain rfl : i = rn := by omega
    have HF : Hid (Own w.heap.size wr ao m cap (se z i)) := Own.mono hown.out HBT.out.size
    have HBF : Hid (Below w.heap.size w wr) := below_then HBT.out hbel.out
    have HM : Hid (ct z i = m) := hm.out.symm
    clear hown hbel hm
    go_wp2_with fail
    go_ret2
    rw [HM.out]
    exact ⟨ao, cap, rfl, HF.out, HBF.out⟩
 ·have e1 : (E != 0) = true := by simp [he]
  rw [show lenE E (ct (zv N c L F kd v) N) = 0 from if_neg he]
  clear h hr hE
  go_enter Tryz.func14, Tryz.ntmps14
  go_wp2_with fail
  rw [<- hw0]
  clear hw0
  refine (HA.out _ B0.out).mono ?_
  rintro e wa ⟨rfl, ha⟩
  go_wp2_with fail
  go_ret2
  exact ⟨none, 0, rfl, own_nil _ _ _, below_then B0.out ha⟩
theorem RCells_any {k r c q : Int} {N W : Nat} {x : Int} (h : Par k r c q N W x) (w : World) (ro : Option Addr) (rn rc : Nat) (A : Nat -> Option Addr) (L C : Nat -> Nat) (F : Nat -> Nat -> UInt8) (hr : Rw w ro rn A L C F) (kd : UInt8) (v : Int) (E : Int) (hE : erV2 (erK x N c rn L kd v) (erL k.toNat (zv N c L F kd v) N) = E) :
  Calls Tryz.prog 16 #[.agg #[.int .i64 k, .int .i64 r, .int .i64 c, .int .i64 q], .slice ro rn rc, .int .u8 ((kd.toNat : Nat) : Int), .int .i64 v] w (AnsC w E N c.toNat (cH k.toNat (zv N c L F kd v) N)) := by
 obtain ⟨D, hD⟩ : ∃ D, erK x N c rn L kd v = D := ⟨_, rfl⟩
 have HA : Hid (∀ u, Below w.heap.size w u -> Calls Tryz.prog 69 #[.agg #[.int .i64 k, .int .i64 r, .int .i64 c, .int .i64 q], .slice ro rn rc, .int .u8 ((kd.toNat : Nat) : Int), .int .i64 v] u fun e w' => e = .returned (.int .i64 D) /\ Below u.heap.size u w') := fun u hu => RAsked_any h u ro rn rc A L C F (hr.below hu) kd v D hD
 obtain ⟨w0, hw0⟩ : ∃ w0, w0 = w.alloc (.cells #[.int .i64 k, .int .i64 r, .int .i64 c, .int .i64 q] 23) := ⟨_, rfl⟩
 have B0 : Hid (Below w.heap.size w w0) := by show Below _ _ _; rw [hw0]; exact below_alloc _ _
 have L0 : Hid (∀ v, Below w0.heap.size w0 v -> At w v w.heap.size #[.int .i64 k, .int .i64 r, .int .i64 c, .int .i64 q] 23) := fun v hv => (at_made (Below.refl _ _) hw0).below hv
 rw [hD] at hE
 unfold erV2 at hE
 by_cases he : D = 0
 ·subst he
  rw [if_pos rfl] at hE
  obtain ⟨hR, hk, _⟩ := erK_zero hD
  obtain ⟨rfl, rfl, hL⟩ := erR_zero hR
  have HC : Hid (∀ u, Below w.heap.size w u -> Calls Tryz.prog 75 #[.agg #[.int .i64 k, .int .i64 r, .int .i64 c, .int .i64 q], .slice ro rn rc, .int .u8 ((kd.toNat : Nat) : Int), .int .i64 v] u (AnsC u E rn c.toNat (cH k.toNat (zv rn c L F kd v) rn))) := fun u hu => by
   rw [<- hE]; exact RWhole_any h u ro rc A L C F (hr.below hu) hL kd hk v
  generalize cH k.toNat (zv rn c L F kd v) rn = H at *
  clear h hr hE hD hR hL hk
  unfold AnsC at HC ⊢
  go_enter Tryz.func16, Tryz.ntmps16
  go_wp2_with fail
  rw [<- hw0]
  clear hw0
  refine (HA.out _ B0.out).mono ?_
  rintro e wa ⟨rfl, ha⟩
  have BA : Hid (Below w0.heap.size w0 wa) := ha
  clear ha
  have pq := L0.out wa BA.out
  have s0 := pq.cell (i := 0) rfl
  have s1 := pq.cell (i := 1) rfl
  have s2 := pq.cell (i := 2) rfl
  have s3 := pq.cell (i := 3) rfl
  clear pq
  go_wp2_with fail
  refine (HC.out _ (below_then B0.out BA.out)).mono ?_
  rintro e wf ⟨ao, cap, T, U, rfl, hc, hb⟩
  have HBB : Hid (Below w.heap.size w wa) := below_then B0.out BA.out
  go_wp2_with fail
  go_ret2
  exact ⟨ao, cap, T, U, rfl, hc.mono HBB.out.size, below_then HBB.out hb⟩
 ·rw [if_neg he] at hE
  subst hE
  have e1 : (D != 0) = true := by simp [he]
  generalize cH k.toNat (zv N c L F kd v) N = H at *
  clear h hr hD
  unfold AnsC
  rw [show lenE D N = 0 from if_neg he]
  go_enter Tryz.func16, Tryz.ntmps16
  go_wp2_with fail
  rw [<- hw0]
  clear hw0
  refine (HA.out _ B0.out).mono ?_
  rintro e wa ⟨rfl, ha⟩
  go_wp2_with fail
  go_ret2
  exact ⟨none, 0, fun _ => none, fun _ => 0, rfl, cls_nil _ _ _ _ _ _, below_then B0.out ha⟩
theorem RRead_any {k r c q : Int} {N W : Nat} {x : Int} (h : Par k r c q N W x) (w : World) (ro : Option Addr) (rn rc : Nat) (A : Nat -> Option Addr) (L C : Nat -> Nat) (F : Nat -> Nat -> UInt8) (hr : Rw w ro rn A L C F) (kd : UInt8) (v : Int) (E : Int) (hE : erV2 (erK x N c rn L kd v) (erL k.toNat (zv N c L F kd v) N) = E) :
  Calls Tryz.prog 18 #[.agg #[.int .i64 k, .int .i64 r, .int .i64 c, .int .i64 q], .slice ro rn rc, .int .u8 ((kd.toNat : Nat) : Int), .int .i64 v] w (AnsB w E (k.toNat * c.toNat) (cat2 c.toNat (cH k.toNat (zv N c L F kd v) N))) := by
 obtain ⟨D, hD⟩ : ∃ D, erK x N c rn L kd v = D := ⟨_, rfl⟩
 have HA : Hid (∀ u, Below w.heap.size w u -> Calls Tryz.prog 69 #[.agg #[.int .i64 k, .int .i64 r, .int .i64 c, .int .i64 q], .slice ro rn rc, .int .u8 ((kd.toNat : Nat) : Int), .int .i64 v] u fun e w' => e = .returned (.int .i64 D) /\ Below u.heap.size u w') := fun u hu => RAsked_any h u ro rn rc A L C F (hr.below hu) kd v D hD
 obtain ⟨w0, hw0⟩ : ∃ w0, w0 = w.alloc (.cells #[.int .i64 k, .int .i64 r, .int .i64 c, .int .i64 q] 23) := ⟨_, rfl⟩
 have B0 : Hid (Below w.heap.size w w0) := by show Below _ _ _; rw [hw0]; exact below_alloc _ _
 have L0 : Hid (∀ v, Below w0.heap.size w0 v -> At w v w.heap.size #[.int .i64 k, .int .i64 r, .int .i64 c, .int .i64 q] 23) := fun v hv => (at_made (Below.refl _ _) hw0).below hv
 rw [hD] at hE
 unfold erV2 at hE
 by_cases he : D = 0
 ·subst he
  rw [if_pos rfl] at hE
  obtain ⟨hR, hk, _⟩ := erK_zero hD
  obtain ⟨rfl, rfl, hL⟩ := erR_zero hR
  have HC : Hid (∀ u, Below w.heap.size w u -> Calls Tryz.prog 77 #[.agg #[.int .i64 k, .int .i64 r, .int .i64 c, .int .i64 q], .slice ro rn rc, .int .u8 ((kd.toNat : Nat) : Int), .int .i64 v] u (AnsB u E (k.toNat * c.toNat) (cat2 c.toNat (cH k.toNat (zv rn c L F kd v) rn)))) := fun u hu => by
   rw [<- hE]; exact RData_any h u ro rc A L C F (hr.below hu) hL kd hk v
  generalize cH k.toNat (zv rn c L F kd v) rn = H at *
  clear h hr hE hD hR hL hk
  unfold AnsB at HC ⊢
  go_enter Tryz.func18, Tryz.ntmps18
  go_wp2_with fail
  rw [<- hw0]
  clear hw0
  refine (HA.out _ B0.out).mono ?_
  rintro e wa ⟨rfl, ha⟩
  have BA : Hid (Below w0.heap.size w0 wa) := ha
  clear ha
  have pq := L0.out wa BA.out
  have s0 := pq.cell (i := 0) rfl
  have s1 := pq.cell (i := 1) rfl
  have s2 := pq.cell (i := 2) rfl
  have s3 := pq.cell (i := 3) rfl
  clear pq
  go_wp2_with fail
  refine (HC.out _ (below_then B0.out BA.out)).mono ?_
  rintro e wf ⟨ao, cap, rfl, hc, hb⟩
  have HBB : Hid (Below w.heap.size w wa) := below_then B0.out BA.out
  go_wp2_with fail
  go_ret2
  exact ⟨ao, cap, rfl, hc.mono HBB.out.size, below_then HBB.out hb⟩
 ·rw [if_neg he] at hE
  subst hE
  have e1 : (D != 0) = true := by simp [he]
  generalize cH k.toNat (zv N c L F kd v) N = H at *
  clear h hr hD
  unfold AnsB
  rw [show lenE D (k.toNat * c.toNat) = 0 from if_neg he]
  go_enter Tryz.func18, Tryz.ntmps18
  go_wp2_with fail
  rw [<- hw0]
  clear hw0
  refine (HA.out _ B0.out).mono ?_
  rintro e wa ⟨rfl, ha⟩
  go_wp2_with fail
  go_ret2
  exact ⟨none, 0, rfl, owu_nil _ _ _, below_then B0.out ha⟩
end Go.Proofs.YtemlojjkokooeaaGreat
