import Derived.Test.YtngcdlodcdgcaaaGreatZk2
import Derived.Test.YtngcdlodcdgcaaaGreatZk50
import Derived.Test.YtngcdlodcdgcaaaGreatZk51
namespace Go.Proofs.YtngcdlodcdgcaaaGreat
open Go.RowKit
def rdE (k c : Int) (N Q : Nat) (F : Nat -> List UInt8) (o v : Int) : Int := if 0 <= o /\ o < (Q : Int) then erSt k c N Q F o v else 2
set_option maxHeartbeats 4000000 in
set_option maxRecDepth 100000 in
theorem read_bad {k r c q : Int} (w : World) (lo : Option Addr) (n cl n' : Nat) (o v x : Int) (hx : x ≠ 0) (G : Nat -> List UInt8)
    (HA : Hid (∀ u, Below w.heap.size w u -> Calls Tryz.prog 39 #[.agg #[.int .i64 k, .int .i64 r, .int .i64 c, .int .i64 q, .slice lo n cl], .int .i64 o] u fun e w' => ∃ lo' A' C', e = .returned (.tuple #[.slice lo' n' n', .int .i64 x]) /\ Im.Im u.heap.size w' lo' (2 * n') A' C' G /\ Below u.heap.size u w')) (m : Nat) (D : Nat -> UInt8) :
    Calls Tryz.prog 89 #[.agg #[.int .i64 k, .int .i64 r, .int .i64 c, .int .i64 q, .slice lo n cl], .agg #[.int .i64 o, .int .i64 v]] w (AnsB w x m D) := by
  have hz : (x != 0) = true := by simpa using hx
  unfold AnsB
  rw [lenE_ne m hx]
  clear hx
  obtain ⟨w0, hw0⟩ : ∃ w0, w0 = w.alloc (.cells #[.int .i64 k, .int .i64 r, .int .i64 c, .int .i64 q, .slice lo n cl] 26) := ⟨_, rfl⟩
  obtain ⟨w1, hw1⟩ : ∃ w1, w1 = w0.alloc (.cells #[.int .i64 o, .int .i64 v] 67) := ⟨_, rfl⟩
  have b0 : Below w.heap.size w w0 := by rw [hw0]; exact below_alloc _ _
  have b1 : Below w0.heap.size w0 w1 := by rw [hw1]; exact below_alloc _ _
  go_enter Tryz.func89, Tryz.ntmps89
  go_wp2_with fail
  rw [<- hw0, <- hw1]
  refine (HA.out _ (below_then b0 b1)).mono ?_
  rintro e wa ⟨lo', A', C', rfl, _, ha⟩
  clear hw0 hw1 HA
  go_wp2_with fail
  go_ret2
  exact ⟨none, 0, rfl, owu_nil _ _ _, below_then (below_then b0 b1) ha⟩
set_option maxHeartbeats 4000000 in
set_option maxRecDepth 100000 in
theorem read_go {k r c q : Int} (N : Nat) (w : World) (lo : Option Addr) (n cl : Nat) (o v e1 : Int) (m : Nat) (G : Nat -> List UInt8) (D : Nat -> UInt8)
    (HA : Hid (∀ u, Below w.heap.size w u -> Calls Tryz.prog 39 #[.agg #[.int .i64 k, .int .i64 r, .int .i64 c, .int .i64 q, .slice lo n cl], .int .i64 o] u fun e w' => ∃ lo' A' C', e = .returned (.tuple #[.slice lo' N N, .int .i64 0]) /\ Im.Im u.heap.size w' lo' (2 * N) A' C' G /\ Below u.heap.size u w'))
    (HR : Hid (∀ u ro A C, Rw u ro N A (fun j => (G j).length) C (fun j t => (G j).getD t 0) -> Calls Tryz.prog 75 #[.agg #[.int .i64 k, .int .i64 r, .int .i64 c, .int .i64 q], .slice ro N N, .int .u8 1, .int .i64 v] u (AnsB u e1 m D))) :
    Calls Tryz.prog 89 #[.agg #[.int .i64 k, .int .i64 r, .int .i64 c, .int .i64 q, .slice lo n cl], .agg #[.int .i64 o, .int .i64 v]] w (AnsB w e1 m D) := by
  obtain ⟨w0, hw0⟩ : ∃ w0, w0 = w.alloc (.cells #[.int .i64 k, .int .i64 r, .int .i64 c, .int .i64 q, .slice lo n cl] 26) := ⟨_, rfl⟩
  obtain ⟨w1, hw1⟩ : ∃ w1, w1 = w0.alloc (.cells #[.int .i64 o, .int .i64 v] 67) := ⟨_, rfl⟩
  have b0 : Below w.heap.size w w0 := by rw [hw0]; exact below_alloc _ _
  have b1 : Below w0.heap.size w0 w1 := by rw [hw1]; exact below_alloc _ _
  have z0 : w0.heap.size = w.heap.size + 1 := by rw [hw0]; simp
  have HQ : Hid (∀ u, Below w1.heap.size w1 u -> (u.cell? ⟨w.heap.size, 0, none⟩ = some (.int .i64 k) /\ u.cell? ⟨w.heap.size, 1, none⟩ = some (.int .i64 r) /\ u.cell? ⟨w.heap.size, 2, none⟩ = some (.int .i64 c) /\ u.cell? ⟨w.heap.size, 3, none⟩ = some (.int .i64 q)) /\ u.cell? ⟨w.heap.size + 1, 1, none⟩ = some (.int .i64 v)) := fun u hu => ⟨⟨blk_held hw0 (below_then b1 hu) 0 rfl, blk_held hw0 (below_then b1 hu) 1 rfl, blk_held hw0 (below_then b1 hu) 2 rfl, blk_held hw0 (below_then b1 hu) 3 rfl⟩, by rw [<- z0]; exact blk_held hw1 hu 1 rfl⟩
  have HBB : Hid (Below w.heap.size w w1) := below_then b0 b1
  unfold AnsB at HR ⊢
  go_enter Tryz.func89, Tryz.ntmps89
  go_wp2_with fail
  rw [<- hw0, <- hw1]
  clear hw0 hw1 z0 b0 b1
  refine (HA.out _ HBB.out).mono ?_
  rintro e wa ⟨lo', A', C', rfl, hI, ha⟩
  obtain ⟨⟨s0, s1, s2, s3⟩, s4⟩ := HQ.out wa ha
  have hrw := rw_of hI
  clear hI
  go_wp2_with fail
  refine (HR.out _ _ _ _ hrw).mono ?_
  rintro e wb ⟨bo, bc, rfl, hob, hb⟩
  have HAB : Hid (Below w1.heap.size w1 wb) := below_then ha hb
  have HOW : Hid (OwU w.heap.size wb bo (lenE e1 m) bc D) := hob.mono (Nat.le_trans HBB.out.size ha.size)
  clear s0 s1 s2 s3 s4 hrw ha hb hob HA HR
  go_wp2_with fail
  go_ret2
  exact ⟨bo, bc, rfl, HOW.out, below_then HBB.out HAB.out⟩
theorem wide_eq {k r c q : Int} {N W : Nat} (hp : Par k r c q N W 0) : k.toNat * c.toNat = W := by
  rcases hp with ⟨hm, hW, _⟩ | ⟨_, _, _, h0⟩
  · obtain ⟨h1, h2, h3, h4, h5, h6, h7, h8, h9⟩ := may_true hm
    have e1 : k = (k.toNat : Int) := by omega
    have e2 : c = (c.toNat : Int) := by omega
    rw [e1, e2, <- Int.natCast_mul] at hW
    exact (Int.ofNat.inj hW).symm
  · exact absurd h0 (by decide)
theorem obRead_any {k r c q : Int} {N W Q S n : Nat} {F : Nat -> List UInt8} (hp : Par k r c q N W 0) (hck : Im.Ck k r c q n F 0 N Q S) (w : World) (lo : Option Addr) (cl : Nat) (hcl : n <= cl) (A : Nat -> Option Addr) (C : Nat -> Nat) (hl : Im.Lst w lo n A C F) (o v : Int) :
    Calls Tryz.prog 89 #[.agg #[.int .i64 k, .int .i64 r, .int .i64 c, .int .i64 q, .slice lo n cl], .agg #[.int .i64 o, .int .i64 v]] w (AnsB w (rdE k c N Q F o v) W (dat k c N Q F o v)) := by
  unfold rdE
  by_cases ho : 0 <= o /\ o < (Q : Int)
  · rw [if_pos ho]
    have hR : Im.Rww k r c q n F o 0 N (Im.rowF Q o.toNat F) := ⟨0, N, Q, S, hck, .inl ⟨rfl, ho.1, ho.2, rfl, rfl, rfl⟩⟩
    refine read_go N w lo n cl o v (erSt k c N Q F o v) W (Im.rowF Q o.toNat F) (dat k c N Q F o v) (fun u hu => Im.Row_any hR lo cl hcl A C u (hl.below hu)) (fun u ro A' C' hr => ?_)
    have h := Read_any hp u ro N N A' (gL Q F o.toNat) C' (gF Q F o.toNat) hr 1 v (erSt k c N Q F o v) rfl
    rw [wide_eq hp] at h
    exact h
  · rw [if_neg ho]
    have hR : Im.Rww k r c q n F o 2 0 (fun _ => []) := ⟨0, N, Q, S, hck, .inr ⟨⟨rfl, rfl⟩, .inr ⟨rfl, ho, rfl⟩⟩⟩
    exact read_bad w lo n cl 0 o v 2 (by decide) (fun _ => []) (fun u hu => Im.Row_any hR lo cl hcl A C u (hl.below hu)) W _
set_option maxHeartbeats 400000 in
set_option maxRecDepth 100000 in
theorem Most_any {k r c q : Int} {N W : Nat} {x : Int} (h : Par k r c q N W x) (w : World) :
    Calls Tryz.prog 67 #[.agg #[.int .i64 k, .int .i64 r, .int .i64 c, .int .i64 q]] w fun e w' => e = .returned (.tuple #[.int .i64 ((mst W : Nat) : Int), .int .i64 x]) /\ Below w.heap.size w w' := by
  have HC := fun w => measure_any h w
  clear h
  generalize dir W = d at *
  generalize lea W = l at *
  generalize mst W = m at *
  obtain ⟨w0, hw0⟩ : ∃ w0, w0 = w.alloc (.cells #[.int .i64 k, .int .i64 r, .int .i64 c, .int .i64 q] 23) := ⟨_, rfl⟩
  have b0 : Below w.heap.size w w0 := by rw [hw0]; exact below_alloc _ _
  go_enter Tryz.func67, Tryz.ntmps67
  go_wp2_with fail
  rw [<- hw0]
  refine (HC _).mono ?_
  rintro e wa ⟨rfl, ha⟩
  go_wp2_with fail
  go_ret2
  exact ⟨rfl, have hB := below_then b0 ha; hB.alloc hB.size _⟩
set_option maxHeartbeats 400000 in
theorem Check_img {k r c q : Int} {n : Nat} {F : Nat -> List UInt8} {x : Int} {N Q S : Nat} (hck : Im.Ck k r c q n F x N Q S) (lo : Option Addr) (cl : Nat) (A : Nat -> Option Addr) (C : Nat -> Nat) (w : World) (hl : Im.Lst w lo n A C F) :
    Calls Tryz.prog 24 #[.agg #[.int .i64 k, .int .i64 r, .int .i64 c, .int .i64 q, .slice lo n cl]] w fun e w' => e = .returned (.int .i64 x) /\ Below w.heap.size w w' := by
  obtain ⟨w0, hw0⟩ : ∃ w0, w0 = w.alloc (.cells #[.int .i64 k, .int .i64 r, .int .i64 c, .int .i64 q, .slice lo n cl] 26) := ⟨_, rfl⟩
  have b0 : Below w.heap.size w w0 := by rw [hw0]; exact below_alloc _ _
  have HC := Im.checked_any hck lo cl A C w0 (hl.below b0)
  clear hck hl
  go_enter Tryz.func24, Tryz.ntmps24
  go_wp2_with fail
  rw [<- hw0]
  clear hw0
  refine HC.mono ?_
  rintro e wa ⟨rfl, ha⟩
  clear HC
  go_wp2_with fail
  go_ret
  exact ⟨rfl, below_then b0 (below_then ha (below_alloc _ _))⟩
end Go.Proofs.YtngcdlodcdgcaaaGreat
namespace Go.Proofs.YtngcdlodcdgcaaaGreat
open Go.RowKit
set_option maxHeartbeats 4000000 in
set_option maxRecDepth 100000 in
theorem Bytes_bad {k r c q : Int} (w : World) (lo : Option Addr) (n cl : Nat) (o E A D y : Int) (hE : E ≠ 0) (M l s : Nat) (R V SR SV : Nat -> Int)
    (HO : Hid (∀ u, Below w.heap.size w u -> Calls Tryz.prog 27 #[.agg #[.int .i64 k, .int .i64 r, .int .i64 c, .int .i64 q, .slice lo n cl], .int .i64 o] u (AnsO u E A D M R V y l s SR SV))) (m : Nat) (G : Nat -> UInt8) :
    Calls Tryz.prog 33 #[.agg #[.int .i64 k, .int .i64 r, .int .i64 c, .int .i64 q, .slice lo n cl], .int .i64 o] w (AnsB w E m G) := by
  have hz : (E != 0) = true := by simpa using hE
  unfold AnsO at HO
  unfold AnsB
  rw [lenE_ne m hE]
  rw [lenE_ne M hE, lenE_ne l hE, lenE_ne s hE, De.lenI_not hE, De.lenI_not hE, De.lenI_not hE] at HO
  clear hE
  obtain ⟨w0, hw0⟩ : ∃ w0, w0 = w.alloc (.cells #[.int .i64 k, .int .i64 r, .int .i64 c, .int .i64 q, .slice lo n cl] 26) := ⟨_, rfl⟩
  have b0 : Below w.heap.size w w0 := by rw [hw0]; exact below_alloc _ _
  go_enter Tryz.func33, Tryz.ntmps33
  go_wp2_with fail
  rw [<- hw0]
  refine (HO.out _ b0).mono ?_
  rintro e wa ⟨ao, cp, lo1, lc, so, sc, rfl, _, _, _, ha⟩
  clear hw0 HO
  go_wp2_with fail
  go_ret2
  exact ⟨none, 0, rfl, owu_nil _ _ _, below_then b0 (below_then ha (below_alloc _ _))⟩
set_option maxHeartbeats 4000000 in
set_option maxRecDepth 100000 in
theorem Bytes_go {k r c q : Int} (w : World) (lo : Option Addr) (n cl : Nat) (o A D y : Int) (M l s : Nat) (R V SR SV : Nat -> Int) (a0 : Nat) (hA : A = (a0 : Int)) (E : Int) (G : Nat -> UInt8)
    (HO : Hid (∀ u, Below w.heap.size w u -> Calls Tryz.prog 27 #[.agg #[.int .i64 k, .int .i64 r, .int .i64 c, .int .i64 q, .slice lo n cl], .int .i64 o] u (AnsO u 0 A D M R V y l s SR SV)))
    (HB : Hid (∀ u so sc, Below w.heap.size w u -> De.Rec u so s sc SR SV -> Calls Tryz.prog 57 #[.agg #[.int .i64 k, .int .i64 r, .int .i64 c, .int .i64 q, .slice lo n cl], .slice so s sc, .int .i64 0, .int .i64 (a0 : Int)] u (AnsB u E a0 G))) :
    Calls Tryz.prog 33 #[.agg #[.int .i64 k, .int .i64 r, .int .i64 c, .int .i64 q, .slice lo n cl], .int .i64 o] w (AnsB w E a0 G) := by
  unfold AnsO at HO
  unfold AnsB at HB ⊢
  rw [lenE_zero, lenE_zero, lenE_zero, De.lenI_zero, De.lenI_zero, De.lenI_zero] at HO
  subst hA
  obtain ⟨w0, hw0⟩ : ∃ w0, w0 = w.alloc (.cells #[.int .i64 k, .int .i64 r, .int .i64 c, .int .i64 q, .slice lo n cl] 26) := ⟨_, rfl⟩
  have b0 : Below w.heap.size w w0 := by rw [hw0]; exact below_alloc _ _
  have HQ : Hid (∀ u, Below w0.heap.size w0 u -> u.cell? ⟨w.heap.size, 0, none⟩ = some (.int .i64 k) /\ u.cell? ⟨w.heap.size, 1, none⟩ = some (.int .i64 r) /\ u.cell? ⟨w.heap.size, 2, none⟩ = some (.int .i64 c) /\ u.cell? ⟨w.heap.size, 3, none⟩ = some (.int .i64 q) /\ u.cell? ⟨w.heap.size, 4, none⟩ = some (.slice lo n cl)) := fun u hu => ⟨blk_held hw0 hu 0 rfl, blk_held hw0 hu 1 rfl, blk_held hw0 hu 2 rfl, blk_held hw0 hu 3 rfl, blk_held hw0 hu 4 rfl⟩
  have HBB : Hid (Below w.heap.size w w0) := b0
  go_enter Tryz.func33, Tryz.ntmps33
  go_wp2_with fail
  rw [<- hw0]
  clear hw0 b0
  refine (HO.out _ HBB.out).mono ?_
  rintro e wa ⟨ao, cp, lo1, lc, so, sc, rfl, _, _, hS, ha⟩
  obtain ⟨wb, hwb⟩ : ∃ wb, wb = wa.alloc (.cells #[.int .i64 (a0 : Int), .int .i64 D, .slice ao M cp] 62) := ⟨_, rfl⟩
  have hab : Below wa.heap.size wa wb := by rw [hwb]; exact below_alloc _ _
  have HW : Hid (Below w0.heap.size w0 wb) := below_then ha hab
  have hrec := hS.rec.below hab
  obtain ⟨s0, s1, s2, s3, s4⟩ := HQ.out wb HW.out
  rw [hwb] at s0 s1 s2 s3 s4
  clear HO hS
  go_wp2_with fail
  rw [<- hwb]
  refine (HB.out _ _ _ (below_then HBB.out HW.out) hrec).mono ?_
  rintro e wc ⟨bo, bc, rfl, how, hc⟩
  have HOW : Hid (OwU w.heap.size wc bo (lenE E a0) bc G) := how.mono (Nat.le_trans HBB.out.size HW.out.size)
  have HWC : Hid (Below w0.heap.size w0 wc) := below_then HW.out hc
  clear how hc s0 s1 s2 s3 s4 hwb hab ha hrec HB
  go_wp2_with fail
  go_ret2
  exact ⟨bo, bc, rfl, HOW.out, below_then HBB.out HWC.out⟩
end Go.Proofs.YtngcdlodcdgcaaaGreat
namespace Go.Proofs.YtngcdlodcdgcaaaGreat.Dr
open Go.RowKit
theorem pp_par {k r c q : Int} {N W : Nat} (h : Par k r c q N W 0) : PP k r c q (mst W) 0 := by
 have h' := h
 rcases h with ⟨h1, _, _, _⟩ | ⟨_, _, _, h⟩
 ·obtain ⟨g1, g2, g3, g4, g5, g6, g7, g8, g9⟩ := may_true h1
  refine ⟨.inl rfl, fun _ => ⟨g8, g9⟩, mst_le W, fun w => Most_any h' w, fun w => ?_⟩
  have := Check_any k r c q w
  rw [show (0 : Int) = erP k r c q by unfold erP; rw [if_pos h1]]; exact this
 ·exact absurd h (by decide)
end Go.Proofs.YtngcdlodcdgcaaaGreat.Dr
namespace Go.Proofs.YtngcdlodcdgcaaaGreat.Dr
open Go.RowKit
def vIn (N : Nat) (c : Int) (Q : Nat) (F : Nat -> List UInt8) (i : Nat) : Int :=
  if isQ 0 N c (F i).length (fun t => (F i).getD t 0) = true /\ (dec N c (fun t => (F i).getD t 0)).ix = ((i / (2 * Q) : Nat) : Int) then (dec N c (fun t => (F i).getD t 0)).st else 0
set_option maxHeartbeats 4000000 in
set_option maxRecDepth 100000 in
theorem versionIn_any {k r c q : Int} {N W Q n : Nat} {F : Nat -> List UInt8} (hp : Par k r c q N W 0) (hQ : (Q : Int) = q) (hQ1 : 1 <= Q) (hQ2 : Q <= 256) (w : World) (lo : Option Addr) (cl : Nat) (A : Nat -> Option Addr) (C : Nat -> Nat) (hl : Im.Lst w lo n A C F) (hroom : ∀ i, i < n -> (F i).length <= C i) (hlen : ∀ i, i < n -> (F i).length = 0 \/ (F i).length = sz N c) (i : Nat) (hi : i < n) (hn : n <= 100000) :
    Calls Tryz.prog 25 #[.agg #[.int .i64 k, .int .i64 r, .int .i64 c, .int .i64 q, .slice lo n cl], .int .i64 (i : Int)] w fun e w' => e = .returned (.int .i64 (vIn N c Q F i)) /\ Below w.heap.size w w' := by
  obtain ⟨b, off, rfl, hc⟩ := hl.at_ (by omega)
  obtain ⟨v, hv⟩ : ∃ v, v = vIn N c Q F i := ⟨_, rfl⟩
  have HV : Hid (v = vIn N c Q F i) := hv
  rw [<- hv]
  clear hv
  have HB := hl.rd i hi
  have HP : Hid (∀ u, Below w.heap.size w u -> ∀ b z, isQ 0 N c (F i).length (fun t => (F i).getD t 0) = b -> slQ b N c (fun t => (F i).getD t 0) = z -> Calls Tryz.prog 36 #[.agg #[.int .i64 k, .int .i64 r, .int .i64 c, .int .i64 q], .slice (A i) (F i).length (C i)] u (AnsP u 0 b z)) := fun u hu b z hb hz => by
    refine (fun h => Parse_any hp u _ _ _ _ (Bec.below h hu) 0 ?_ b hb z hz) ?_
    rotate_left
    · refine ⟨?_, fun e => ?_, hroom i hi⟩
      · intro hn0
        obtain ⟨b, off, e, hc⟩ := HB (fun e => by rw [e] at hn0; exact absurd hn0 (Nat.lt_irrefl 0))
        refine ⟨b, off, e, fun t ht => ?_⟩
        rw [hc t ht]; show _ = some (Value.int .u8 (((F i).getD t 0).toNat : Int)); rw [List.getD_eq_getElem?_getD, List.getElem?_eq_getElem ht, Option.getD_some]
      · obtain ⟨e1, e2⟩ := hl.nil i hi e; rw [e1]; exact ⟨rfl, e2⟩
    · unfold erQ; rw [if_pos rfl, if_pos (hlen i hi)]
  obtain ⟨w0, hw0⟩ : ∃ w0, w0 = w.alloc (.cells #[.int .i64 k, .int .i64 r, .int .i64 c, .int .i64 q, .slice (some ⟨b, off, none⟩) n cl] 26) := ⟨_, rfl⟩
  have b0 : Below w.heap.size w w0 := by rw [hw0]; exact below_alloc _ _
  have HB0 : Hid (Below w.heap.size w w0) := b0
  have c0 := held (hc i hi) b0
  have s0 : w0.cell? ⟨w.heap.size, 0, none⟩ = some (.int .i64 k) := blk_held hw0 (Below.refl _ _) 0 rfl
  have s1 : w0.cell? ⟨w.heap.size, 1, none⟩ = some (.int .i64 r) := blk_held hw0 (Below.refl _ _) 1 rfl
  have s2 : w0.cell? ⟨w.heap.size, 2, none⟩ = some (.int .i64 c) := blk_held hw0 (Below.refl _ _) 2 rfl
  have s3 : w0.cell? ⟨w.heap.size, 3, none⟩ = some (.int .i64 q) := blk_held hw0 (Below.refl _ _) 3 rfl
  have s4 : w0.cell? ⟨w.heap.size, 4, none⟩ = some (.slice (some ⟨b, off, none⟩) n cl) := blk_held hw0 (Below.refl _ _) 4 rfl
  obtain ⟨y, hy⟩ : ∃ y, isQ 0 N c (F i).length (fun t => (F i).getD t 0) = y := ⟨_, rfl⟩
  obtain ⟨z, hz⟩ : ∃ z, slQ y N c (fun t => (F i).getD t 0) = z := ⟨_, rfl⟩
  have hP := fun u (hu : Below w0.heap.size w0 u) => HP.out u (below_then b0 hu) y z hy hz
  have HV2 : Hid (v = if y = true /\ z.ix = ((i / (2 * Q) : Nat) : Int) then z.st else 0) := by
    show v = _
    rw [HV.out]
    unfold vIn
    rw [hy]
    cases y
    · rw [if_neg (fun h => by cases h.1), if_neg (fun h => by cases h.1)]
    · unfold slQ at hz; rw [if_pos rfl] at hz; rw [hz]
  clear hy hz HV HP
  obtain ⟨ln, hln⟩ : ∃ ln, ln = (F i).length := ⟨_, rfl⟩
  obtain ⟨ai, hai⟩ : ∃ ai, ai = A i := ⟨_, rfl⟩
  obtain ⟨ci, hci⟩ : ∃ ci, ci = C i := ⟨_, rfl⟩
  rw [<- hln, <- hai, <- hci] at c0 hP
  clear hln hai hci
  obtain ⟨D, hD⟩ : ∃ D, D = 2 * Q := ⟨_, rfl⟩
  have hw1 : IntKind.i64.wrap (2 * q) = (D : Int) := by rw [IntKind.wrap_i64]; omega
  have i1 : (0 : Int) <= (i : Int) := by omega
  have i2 : (i : Int) < (n : Int) := by omega
  rw [<- hD] at HV2
  have HDD : Hid (1 <= D /\ D <= 512 /\ i <= 100000) := ⟨by omega, by omega, by omega⟩
  have KS : Hid (∀ u, RowKit.Below w0.heap.size w0 u -> u.cell? ⟨w.heap.size, 0, none⟩ = some (.int .i64 k) /\ u.cell? ⟨w.heap.size, 1, none⟩ = some (.int .i64 r) /\ u.cell? ⟨w.heap.size, 2, none⟩ = some (.int .i64 c) /\ u.cell? ⟨w.heap.size, 3, none⟩ = some (.int .i64 q) /\ u.cell? ⟨w.heap.size, 4, none⟩ = some (.slice (some ⟨b, off, none⟩) n cl) /\ u.cell? ⟨b, off + i, none⟩ = some (.slice ai ln ci)) := fun u hu => ⟨held s0 hu, held s1 hu, held s2 hu, held s3 hu, held s4 hu, held c0 hu⟩
  have HBK : Hid (∀ u, Below (w0.alloc (.cells #[.int .u8 0, .int .i64 0, .int .i64 0, .int .i64 0, .slice none 0 0, .slice none 0 0] 83)).drew.heap.size (w0.alloc (.cells #[.int .u8 0, .int .i64 0, .int .i64 0, .int .i64 0, .slice none 0 0, .slice none 0 0] 83)).drew u -> (∀ i, u.frozen? ⟨w0.heap.size, i, none⟩ = false) /\ u.cell? ⟨w0.heap.size, 0, none⟩ = some (.int .u8 0) /\ u.cell? ⟨w0.heap.size, 1, none⟩ = some (.int .i64 0) /\ u.cell? ⟨w0.heap.size, 2, none⟩ = some (.int .i64 0) /\ u.cell? ⟨w0.heap.size, 3, none⟩ = some (.int .i64 0) /\ u.cell? ⟨w0.heap.size, 4, none⟩ = some (.slice none 0 0) /\ u.cell? ⟨w0.heap.size, 5, none⟩ = some (.slice none 0 0) /\ Hid (Im.Blk u w0.heap.size 83 [.int .u8 0, .int .i64 0, .int .i64 0, .int .i64 0, .slice none 0 0, .slice none 0 0])) := fun u hu => by
    have h1 : Im.Blk (w0.alloc (.cells #[.int .u8 0, .int .i64 0, .int .i64 0, .int .i64 0, .slice none 0 0, .slice none 0 0] 83)).drew w0.heap.size 83 [.int .u8 0, .int .i64 0, .int .i64 0, .int .i64 0, .slice none 0 0, .slice none 0 0] := heap_alloc_new w0 _
    have h2 := h1.below hu
    exact ⟨fun i => h2.free i, h2.cell rfl, h2.cell rfl, h2.cell rfl, h2.cell rfl, h2.cell rfl, h2.cell rfl, h2⟩
  unfold AnsP slv at hP
  have HPP : Hid (∀ u, Below w0.heap.size w0 u -> Calls Tryz.prog 36 #[.agg #[.int .i64 k, .int .i64 r, .int .i64 c, .int .i64 q], .slice ai ln ci] u fun e w' => ∃ ao ca bo cb, e = .returned (.tuple #[.agg #[.int .u8 ((z.kd.toNat : Nat) : Int), .int .i64 z.ix, .int .i64 z.ce, .int .i64 z.st, .slice ao z.vn ca, .slice bo z.dn cb], .bool y, .int .i64 0]) /\ Got u.heap.size w' z ao ca bo cb /\ Below u.heap.size u w') := hP
  clear hP
  clear hc hl hlen hroom HB hp hQ hQ1 hQ2 hD hi hn
  go_enter Tryz.func25, Tryz.ntmps25
  go_wp2_with fail
  rw [<- hw0]
  clear hw0
  go_wp2_with fail
  go_region_held3 (fun v => v.cell? ⟨w.heap.size, 0, none⟩ = some (.int .i64 k) /\ v.cell? ⟨w.heap.size, 1, none⟩ = some (.int .i64 r) /\ v.cell? ⟨w.heap.size, 2, none⟩ = some (.int .i64 c) /\ v.cell? ⟨w.heap.size, 3, none⟩ = some (.int .i64 q) /\ v.cell? ⟨w.heap.size, 4, none⟩ = some (.slice (some ⟨b, off, none⟩) n cl) /\ v.cell? ⟨b, off + i, none⟩ = some (.slice ai ln ci))
    ((refine KS.out _ ?_; first | (with_reducible exact below_drew _ _) | (with_reducible exact HD0.out) | (with_reducible refine b_at ?_ ?_ _; with_reducible refine b_at (b_at (b_at (b_at (b_at HD0.out ?_ _) ?_ _) ?_ _) ?_ _) ?_ _ <;> exact Nat.le_refl _; exact Nat.le_refl _) | (with_reducible exact below_then HD0.out (below_alloc _ _)) | (with_reducible exact below_then (below_alloc _ _) (below_drew _ _))))
    ((first
      | (go_at_call 36; refine (HPP.out _ (by with_reducible exact below_drew _ _)).mono ?_; rintro e wd ⟨ao, ca, bo, cb, rfl, hg, hd0⟩; have HD0 : Hid (RowKit.Below w0.heap.size w0 wd) := below_then (below_drew _ _) hd0; clear hg hd0)
      | (go_at_call 36; refine (HPP.out _ (by with_reducible exact below_then (below_alloc _ _) (below_drew _ _))).mono ?_; rintro e wd ⟨ao, ca, bo, cb, rfl, hg, hd0⟩; have HD0 : Hid (RowKit.Below w0.heap.size w0 wd) := below_then (below_then (below_alloc _ _) (below_drew _ _)) hd0
         have q9 : RowKit.Below ((w0.alloc (.cells #[.int .u8 0, .int .i64 0, .int .i64 0, .int .i64 0, .slice none 0 0, .slice none 0 0] 83)).drew).heap.size ((w0.alloc (.cells #[.int .u8 0, .int .i64 0, .int .i64 0, .int .i64 0, .slice none 0 0, .slice none 0 0] 83)).drew) wd := by with_reducible exact hd0
         obtain ⟨yf, y0, y1, y2, y3, y4, y5, HK⟩ := HBK.out wd q9
         clear hg hd0)))
  rotate_left
  · have hk := (((((HK.out.set 0 (.int .u8 ((z.kd.toNat : Nat) : Int))).set 1 (.int .i64 z.ix)).set 2 (.int .i64 z.ce)).set 3 (.int .i64 z.st)).set 4 (.slice ao z.vn ca)).set 5 (.slice bo z.dn cb)
    have hbx : Below w0.heap.size w0 ((((((wd.setCell ⟨w0.heap.size, 0, none⟩ (.int .u8 ((z.kd.toNat : Nat) : Int))).setCell ⟨w0.heap.size, 1, none⟩ (.int .i64 z.ix)).setCell ⟨w0.heap.size, 2, none⟩ (.int .i64 z.ce)).setCell ⟨w0.heap.size, 3, none⟩ (.int .i64 z.st)).setCell ⟨w0.heap.size, 4, none⟩ (.slice ao z.vn ca)).setCell ⟨w0.heap.size, 5, none⟩ (.slice bo z.dn cb)) := by
      with_reducible refine b_at ?_ ?_ _
      with_reducible refine b_at (b_at (b_at (b_at (b_at HD0.out ?_ _) ?_ _) ?_ _) ?_ _) ?_ _ <;> exact Nat.le_refl _
      exact Nat.le_refl _
    generalize (((((wd.setCell ⟨w0.heap.size, 0, none⟩ (.int .u8 ((z.kd.toNat : Nat) : Int))).setCell ⟨w0.heap.size, 1, none⟩ (.int .i64 z.ix)).setCell ⟨w0.heap.size, 2, none⟩ (.int .i64 z.ce)).setCell ⟨w0.heap.size, 3, none⟩ (.int .i64 z.st)).setCell ⟨w0.heap.size, 4, none⟩ (.slice ao z.vn ca)).setCell ⟨w0.heap.size, 5, none⟩ (.slice bo z.dn cb) = wx at hk hbx ⊢
    have x1 : wx.cell? ⟨w0.heap.size, 1, none⟩ = some (.int .i64 z.ix) := hk.cell rfl
    have x3 : wx.cell? ⟨w0.heap.size, 3, none⟩ = some (.int .i64 z.st) := hk.cell rfl
    have HBX : Hid (Below w.heap.size w wx) := below_then HB0.out hbx
    clear HBK HPP KS HK hk hbx yf y0 y1 y2 y3 y4 y5 s0 s1 s2 s3 s4 c0 HD0 q9
    generalize w0.heap.size = P at x1 x3 ⊢
    obtain ⟨m, hm⟩ : ∃ m, m = i / D := ⟨_, rfl⟩
    have HV3 : Hid (v = if y = true /\ z.ix = (m : Int) then z.st else 0) := by have := HV2.out; rw [<- hm] at this; exact this
    have hDn : ¬ D = 0 := by have := HDD.out; omega
    have hq1 : Int.tdiv (i : Int) (D : Int) = (m : Int) := by rw [hm]; exact (Int.ofNat_tdiv i D).symm
    have hq2 : IntKind.i64.wrap (m : Int) = (m : Int) := by have := HDD.out; have : m <= i := by rw [hm]; exact Nat.div_le_self _ _
                                                            rw [IntKind.wrap_i64]; omega
    cases y
    · have hv0 : v = 0 := by rw [HV3.out, if_neg (fun h => by cases h.1)]
      subst hv0
      go_wp2_with fail
      go_big_quiet (fail)
      have HBQ : Hid (Below w.heap.size w (wx.drewN nq)) := below_then HBX.out (below_drewN _ _ _)
      go_wp2_with fail
      go_ret
      exact ⟨rfl, HBQ.out⟩
    · by_cases hx : z.ix = (m : Int)
      · have hv0 : v = z.st := by rw [HV3.out, if_pos ⟨rfl, hx⟩]
        subst hv0
        rw [hx] at x1
        clear hx HV2 HV3 hm
        go_wp2_with fail
        go_big_quiet (fail)
        have HBQ : Hid (Below w.heap.size w (wx.drewN nq)) := below_then HBX.out (below_drewN _ _ _)
        have x4 : (wx.drewN nq).cell? ⟨P, 3, none⟩ = some (.int .i64 z.st) := x3
        go_wp2_with fail
        go_ret
        exact ⟨rfl, HBQ.out⟩
      · have hv0 : v = 0 := by rw [HV3.out, if_neg (fun h => hx h.2)]
        subst hv0
        have hxb : (z.ix == (m : Int)) = false := by simpa using hx
        have hxc : (z.ix != (m : Int)) = true := by simpa using hx
        clear hx HV2 hm
        go_wp2_with fail
        go_big_quiet (fail)
        have HBQ : Hid (Below w.heap.size w (wx.drewN nq)) := below_then HBX.out (below_drewN _ _ _)
        go_wp2_with fail
        go_ret
        exact ⟨rfl, HBQ.out⟩
  · generalize hwx : World.alloc wd _ = wx
    have x1 : wx.cell? ⟨wd.heap.size, 1, none⟩ = some (.int .i64 z.ix) := blk_held hwx.symm (Below.refl _ _) 1 rfl
    have x3 : wx.cell? ⟨wd.heap.size, 3, none⟩ = some (.int .i64 z.st) := blk_held hwx.symm (Below.refl _ _) 3 rfl
    have HBX : Hid (Below w.heap.size w wx) := by
      show Below _ _ _
      rw [<- hwx]
      exact below_then HB0.out (below_then HD0.out (below_alloc _ _))
    clear HBK HPP KS s0 s1 s2 s3 s4 c0 HD0 hwx
    generalize wd.heap.size = P at x1 x3 ⊢
    obtain ⟨m, hm⟩ : ∃ m, m = i / D := ⟨_, rfl⟩
    have HV3 : Hid (v = if y = true /\ z.ix = (m : Int) then z.st else 0) := by have := HV2.out; rw [<- hm] at this; exact this
    have hDn : ¬ D = 0 := by have := HDD.out; omega
    have hq1 : Int.tdiv (i : Int) (D : Int) = (m : Int) := by rw [hm]; exact (Int.ofNat_tdiv i D).symm
    have hq2 : IntKind.i64.wrap (m : Int) = (m : Int) := by have := HDD.out; have : m <= i := by rw [hm]; exact Nat.div_le_self _ _
                                                            rw [IntKind.wrap_i64]; omega
    cases y
    · have hv0 : v = 0 := by rw [HV3.out, if_neg (fun h => by cases h.1)]
      subst hv0
      go_wp2_with fail
      go_big_quiet (fail)
      have HBQ : Hid (Below w.heap.size w (wx.drewN nq)) := below_then HBX.out (below_drewN _ _ _)
      go_wp2_with fail
      go_ret
      exact ⟨rfl, HBQ.out⟩
    · by_cases hx : z.ix = (m : Int)
      · have hv0 : v = z.st := by rw [HV3.out, if_pos ⟨rfl, hx⟩]
        subst hv0
        rw [hx] at x1
        clear hx HV2 HV3 hm
        go_wp2_with fail
        go_big_quiet (fail)
        have HBQ : Hid (Below w.heap.size w (wx.drewN nq)) := below_then HBX.out (below_drewN _ _ _)
        have x4 : (wx.drewN nq).cell? ⟨P, 3, none⟩ = some (.int .i64 z.st) := x3
        go_wp2_with fail
        go_ret
        exact ⟨rfl, HBQ.out⟩
      · have hv0 : v = 0 := by rw [HV3.out, if_neg (fun h => hx h.2)]
        subst hv0
        have hxb : (z.ix == (m : Int)) = false := by simpa using hx
        have hxc : (z.ix != (m : Int)) = true := by simpa using hx
        clear hx HV2 hm
        go_wp2_with fail
        go_big_quiet (fail)
        have HBQ : Hid (Below w.heap.size w (wx.drewN nq)) := below_then HBX.out (below_drewN _ _ _)
        go_wp2_with fail
        go_ret
        exact ⟨rfl, HBQ.out⟩
end Go.Proofs.YtngcdlodcdgcaaaGreat.Dr
