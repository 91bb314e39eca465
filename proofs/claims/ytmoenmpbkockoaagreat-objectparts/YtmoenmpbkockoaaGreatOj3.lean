import Derived.Test.YtmoenmpbkockoaaGreatOj2
namespace Go.Proofs.YtmoenmpbkockoaaGreat
open Go.RowKit
set_option maxHeartbeats 4000000 in
set_option maxRecDepth 100000 in
theorem Part_bad {k r c q : Int} (w : World) (lo : Option Addr) (n cl : Nat) (o off m x : Int) (hx : x ≠ 0)
    (HP : Hid (∀ u, Below w.heap.size w u -> Calls Tryz.prog 81 #[.agg #[.int .i64 k, .int .i64 r, .int .i64 c, .int .i64 q, .slice lo n cl], .int .i64 o, .int .i64 off, .int .i64 m] u fun e w' => e = .returned (.int .i64 x) /\ Below u.heap.size u w')) (l : Nat) (G : Nat -> UInt8) :
    Calls Tryz.prog 40 #[.agg #[.int .i64 k, .int .i64 r, .int .i64 c, .int .i64 q, .slice lo n cl], .int .i64 o, .int .i64 off, .int .i64 m] w (AnsB w x l G) := by
  have hz : (x != 0) = true := by simpa using hx
  unfold AnsB
  rw [lenE_ne l hx]
  clear hx
  obtain ⟨w0, hw0⟩ : ∃ w0, w0 = w.alloc (.cells #[.int .i64 k, .int .i64 r, .int .i64 c, .int .i64 q, .slice lo n cl] 51) := ⟨_, rfl⟩
  have b0 : Below w.heap.size w w0 := by rw [hw0]; exact below_alloc _ _
  go_enter Tryz.func40, Tryz.ntmps40
  go_wp2_with fail
  rw [<- hw0]
  refine (HP.out _ b0).mono ?_
  rintro e wa ⟨rfl, ha⟩
  clear hw0 HP
  go_wp2_with fail
  go_ret2
  exact ⟨none, 0, rfl, owu_nil _ _ _, below_then b0 ha⟩
set_option maxHeartbeats 1000000 in
set_option maxRecDepth 100000 in
theorem Part_go {k r c q : Int} (w : World) (lo : Option Addr) (n cl : Nat) (o A D y : Int) (M l s : Nat) (R V SR SV : Nat -> Int) (a0 of0 m0 f b : Nat) (hA : A = (a0 : Int)) (ha1 : a0 <= 1000000) (ho1 : of0 + m0 <= 1000000) (hf : f = min of0 a0) (hb : b = min (of0 + m0) a0) (E : Int) (G : Nat -> UInt8)
    (HP : Hid (∀ u, Below w.heap.size w u -> Calls Tryz.prog 81 #[.agg #[.int .i64 k, .int .i64 r, .int .i64 c, .int .i64 q, .slice lo n cl], .int .i64 o, .int .i64 (of0 : Int), .int .i64 (m0 : Int)] u fun e w' => e = .returned (.int .i64 0) /\ Below u.heap.size u w'))
    (HO : Hid (∀ u, Below w.heap.size w u -> Calls Tryz.prog 22 #[.agg #[.int .i64 k, .int .i64 r, .int .i64 c, .int .i64 q, .slice lo n cl], .int .i64 o] u (AnsO u 0 A D M R V y l s SR SV)))
    (HB : Hid (∀ u so sc, Below w.heap.size w u -> De.Rec u so s sc SR SV -> Calls Tryz.prog 79 #[.agg #[.int .i64 k, .int .i64 r, .int .i64 c, .int .i64 q, .slice lo n cl], .slice so s sc, .int .i64 (f : Int), .int .i64 (b : Int)] u (AnsB u E (b - f) G))) :
    Calls Tryz.prog 40 #[.agg #[.int .i64 k, .int .i64 r, .int .i64 c, .int .i64 q, .slice lo n cl], .int .i64 o, .int .i64 (of0 : Int), .int .i64 (m0 : Int)] w (AnsB w E (b - f) G) := by
  unfold AnsO at HO
  unfold AnsB at HB ⊢
  rw [lenE_zero, lenE_zero, lenE_zero, De.lenI_zero, De.lenI_zero, De.lenI_zero] at HO
  subst hA
  obtain ⟨nn, hnn⟩ : ∃ nn, nn = lenE E (b - f) := ⟨_, rfl⟩
  rw [<- hnn] at HB ⊢
  clear hnn
  obtain ⟨w0, hw0⟩ : ∃ w0, w0 = w.alloc (.cells #[.int .i64 k, .int .i64 r, .int .i64 c, .int .i64 q, .slice lo n cl] 51) := ⟨_, rfl⟩
  have b0 : Below w.heap.size w w0 := by rw [hw0]; exact below_alloc _ _
  have HQ : Hid (∀ u, Below w0.heap.size w0 u -> u.cell? ⟨w.heap.size, 0, none⟩ = some (.int .i64 k) /\ u.cell? ⟨w.heap.size, 1, none⟩ = some (.int .i64 r) /\ u.cell? ⟨w.heap.size, 2, none⟩ = some (.int .i64 c) /\ u.cell? ⟨w.heap.size, 3, none⟩ = some (.int .i64 q) /\ u.cell? ⟨w.heap.size, 4, none⟩ = some (.slice lo n cl)) := fun u hu => ⟨blk_held hw0 hu 0 rfl, blk_held hw0 hu 1 rfl, blk_held hw0 hu 2 rfl, blk_held hw0 hu 3 rfl, blk_held hw0 hu 4 rfl⟩
  have HBB : Hid (Below w.heap.size w w0) := b0
  have i1 : (a0 : Int) <= 1000000 := by omega
  have i2 : (of0 : Int) + (m0 : Int) <= 1000000 := by omega
  have hm1 : min (of0 : Int) (a0 : Int) = (f : Int) := by omega
  have hm2 : min ((of0 : Int) + (m0 : Int)) (a0 : Int) = (b : Int) := by omega
  clear hf hb ha1 ho1
  go_enter Tryz.func40, Tryz.ntmps40
  go_wp2_with fail
  rw [<- hw0]
  clear hw0 b0
  refine (HP.out _ HBB.out).mono ?_
  rintro e wp0 ⟨rfl, hp0⟩
  obtain ⟨s0, s1, s2, s3, s4⟩ := HQ.out wp0 hp0
  go_wp2_with fail
  refine (HO.out _ (below_then HBB.out hp0)).mono ?_
  rintro e wa ⟨ao, cp, lo1, lc, so, sc, rfl, _, _, hS, ha⟩
  clear s0 s1 s2 s3 s4
  obtain ⟨wb, hwb⟩ : ∃ wb, wb = wa.alloc (.cells #[.int .i64 (a0 : Int), .int .i64 D, .slice ao M cp] 27) := ⟨_, rfl⟩
  have hab : Below wa.heap.size wa wb := by rw [hwb]; exact below_alloc _ _
  have HW : Hid (Below w0.heap.size w0 wb) := below_then (below_then hp0 ha) hab
  have HREC : Hid (De.Rec wb so s sc SR SV) := hS.rec.below hab
  obtain ⟨s0, s1, s2, s3, s4⟩ := HQ.out wb HW.out
  rw [hwb] at s0 s1 s2 s3 s4
  clear HO hS HP
  go_wp2_with fail
  rw [<- hwb]
  refine (HB.out _ _ _ (below_then HBB.out HW.out) HREC.out).mono ?_
  rintro e wc ⟨bo, bc, rfl, how, hc⟩
  have HOW : Hid (OwU w.heap.size wc bo nn bc G) := how.mono (Nat.le_trans HBB.out.size HW.out.size)
  have HWC : Hid (Below w0.heap.size w0 wc) := below_then HW.out hc
  clear how hc s0 s1 s2 s3 s4 hwb hab ha hp0 HB
  go_wp2_with fail
  go_ret2
  exact ⟨bo, bc, rfl, HOW.out, below_then HBB.out HWC.out⟩
end Go.Proofs.YtmoenmpbkockoaaGreat
namespace Go.Proofs.YtmoenmpbkockoaaGreat
open Go.RowKit
theorem Length_ob {k r c q : Int} {n : Nat} {F : Nat -> List UInt8} {o A D : Int} {M : Nat} {R V : Nat -> Int} {y : Int} {l s : Nat} {SR SV : Nat -> Int} {E : Int} (h : Ob k r c q n F o E A D M R V y l s SR SV) (w : World) (lo : Option Addr) (cl : Nat) (hcl : n <= cl) (A0 : Nat -> Option Addr) (C0 : Nat -> Nat) (hl : Im.Lst w lo n A0 C0 F) :
    Calls Tryz.prog 36 #[.agg #[.int .i64 k, .int .i64 r, .int .i64 c, .int .i64 q, .slice lo n cl], .int .i64 o] w fun e w' => (∃ L f, e = .returned (.tuple #[.int .i64 L, .int .i64 f]) /\ (E = 0 -> L = A /\ f = 0)) /\ Below w.heap.size w w' := by
  rcases h with ⟨hE, n', G, hR⟩ | ⟨N, W, Q, S, hp, hck, ho, ⟨hA, hD, hM, hRR, hVV, hy⟩, hc⟩
  · refine (Length_bad w lo n cl n' o E hE G (fun u hu => Im.Row_any hR lo cl hcl A0 C0 u (hl.below hu))).mono ?_
    rintro e w' ⟨rfl, hb⟩
    exact ⟨⟨_, _, rfl, fun e => absurd e hE⟩, hb⟩
  · have hR : Im.Rww k r c q n F o 0 N (Im.rowF Q o.toNat F) := ⟨0, N, Q, S, hck, .inl ⟨rfl, ho.1, ho.2, rfl, rfl, rfl⟩⟩
    refine (Length_go N w lo n cl o (dE k c q N W Q F o.toNat) _ _ _ _ _ _ (Im.rowF Q o.toNat F) (fun u hu => Im.Row_any hR lo cl hcl A0 C0 u (hl.below hu)) (fun u ro A' C' hr => cRead_any hp u ro N N A' (gL Q F o.toNat) C' (gF Q F o.toNat) hr (dE k c q N W Q F o.toNat) rfl)).mono ?_
    rintro e w' ⟨rfl, hb⟩
    refine ⟨⟨_, _, rfl, fun e0 => ?_⟩, hb⟩
    have h0 : dE k c q N W Q F o.toNat = 0 := by
      rcases hc with ⟨h1, h2⟩ | ⟨h1, _⟩
      · rw [<- h2]; exact e0
      · exact h1
    rw [h0, De.lenI_zero, hA]
    exact ⟨rfl, rfl⟩
theorem ob_get {k r c q : Int} {n : Nat} {F : Nat -> List UInt8} {o A D : Int} {M : Nat} {R V : Nat -> Int} {y : Int} {l s : Nat} {SR SV : Nat -> Int} (h : Ob k r c q n F o 0 A D M R V y l s SR SV) :
    ∃ N W Q S, Par k r c q N W 0 /\ Im.Ck k r c q n F 0 N Q S /\ (0 <= o /\ o < (Q : Int)) /\ (Q : Int) = q /\ 0 <= A /\ A <= ((mst W : Nat) : Int) /\ A.toNat <= s * W /\ s <= 1024 := by
  obtain ⟨N', W', hp', hmade, _, hs⟩ := ob_good h
  rcases h with ⟨hE, _⟩ | ⟨N, W, Q, S, hp, hck, ho, _, _⟩
  · exact absurd rfl hE
  · have hW : W' = W := by rw [<- wide_eq hp, <- wide_eq hp']
    subst hW
    obtain ⟨⟨h0, hN, hQ, hS⟩, _⟩ := hck.ok rfl
    have hw := (wide_of hp).2.1
    rcases hmade with ⟨_, h1, h2, h3, _⟩ | ⟨_, _, _, _, _, h6⟩ | ⟨_, _, _, _, _, _, _, h6⟩
    · refine ⟨N, W', Q, S, hp, hck, ho, hQ, h1, h2, ?_, hs⟩
      rw [h3]; exact up_room (by omega)
    · exact absurd h6 (by decide)
    · exact absurd h6 (by decide)
theorem between_ob {k r c q : Int} {n s : Nat} {F : Nat -> List UInt8} {SR SV : Nat -> Int} {N W Q S : Nat} (hp : Par k r c q N W 0) (hck : Im.Ck k r c q n F 0 N Q S) (hs : s <= 1024) (w : World) (lo : Option Addr) (cl : Nat) (hcl : n <= cl) (A0 : Nat -> Option Addr) (C0 : Nat -> Nat) (hl : Im.Lst w lo n A0 C0 F) (so : Option Addr) (sc : Nat) (hrec : De.Rec w so s sc SR SV) (a z : Nat) (haz : a <= z) (hz : z <= s * W) :
    Calls Tryz.prog 79 #[.agg #[.int .i64 k, .int .i64 r, .int .i64 c, .int .i64 q, .slice lo n cl], .slice so s sc, .int .i64 (a : Int), .int .i64 (z : Int)] w (AnsB w (obF (obH (fun i => rdE k c N Q F (SR i) (SV i)) W a z) s) (z - a) (fun p => ctn W (fun i => dat k c N Q F (SR i) (SV i)) (a + p))) := by
  obtain ⟨_, hw1, hw2⟩ := wide_of hp
  refine between_go W (by omega) hw2 w lo n cl so s sc hs SR SV a z haz hz _ _ (fun i hi => ?_) (fun u => Width_any hp u) (fun i hi u hu => obRead_any hp hck u lo cl hcl A0 C0 (hl.below hu) (SR i) (SV i))
  obtain ⟨b, off, e, hc⟩ := hrec.rd (by omega)
  exact ⟨b, off, e, (hc i hi).1, (hc i hi).2⟩
theorem Bytes_ob {k r c q : Int} {n : Nat} {F : Nat -> List UInt8} {o A D : Int} {M : Nat} {R V : Nat -> Int} {y : Int} {l s : Nat} {SR SV : Nat -> Int} {N W Q S : Nat} (h : Ob k r c q n F o 0 A D M R V y l s SR SV) (hp : Par k r c q N W 0) (hck : Im.Ck k r c q n F 0 N Q S) (hA : 0 <= A) (hs : s <= 1024) (hz : A.toNat <= s * W) (w : World) (lo : Option Addr) (cl : Nat) (hcl : n <= cl) (A0 : Nat -> Option Addr) (C0 : Nat -> Nat) (hl : Im.Lst w lo n A0 C0 F) :
    Calls Tryz.prog 38 #[.agg #[.int .i64 k, .int .i64 r, .int .i64 c, .int .i64 q, .slice lo n cl], .int .i64 o] w (AnsB w (obF (obH (fun i => rdE k c N Q F (SR i) (SV i)) W 0 A.toNat) s) A.toNat (ctn W (fun i => dat k c N Q F (SR i) (SV i)))) := by
  refine Bytes_go w lo n cl o A D y M l s R V SR SV A.toNat (by omega) _ _ (fun u hu => Object_any h u lo cl hcl A0 C0 (hl.below hu)) (fun u so sc hu hrec => ?_)
  have hb := between_ob hp hck hs u lo cl hcl A0 C0 (hl.below hu) so sc hrec 0 A.toNat (Nat.zero_le _) hz
  rw [Nat.sub_zero] at hb
  simp only [Nat.zero_add] at hb
  exact hb
theorem hit_part {e : Nat -> Int} {W a z a0 s : Nat} (h : obF (obH e W 0 a0) s = 0) (hz : z <= a0) : obF (obH e W a z) s = 0 := by
  refine obF_all fun i hi => ?_
  have h1 := obF_zero h i hi
  unfold obH at h1 ⊢
  by_cases g : max a (i * W) < min z (i * W + W)
  · rw [if_pos g]
    rw [if_pos (by omega)] at h1
    exact h1
  · rw [if_neg g]
theorem Part_ob {k r c q : Int} {n : Nat} {F : Nat -> List UInt8} {o A D : Int} {M : Nat} {R V : Nat -> Int} {y : Int} {l s : Nat} {SR SV : Nat -> Int} {N W Q S : Nat} (h : Ob k r c q n F o 0 A D M R V y l s SR SV) (hp : Par k r c q N W 0) (hck : Im.Ck k r c q n F 0 N Q S) (hA : 0 <= A) (hA2 : A <= ((mst W : Nat) : Int)) (hs : s <= 1024) (hz : A.toNat <= s * W) (hE : obF (obH (fun i => rdE k c N Q F (SR i) (SV i)) W 0 A.toNat) s = 0) (w : World) (lo : Option Addr) (cl : Nat) (hcl : n <= cl) (A0 : Nat -> Option Addr) (C0 : Nat -> Nat) (hl : Im.Lst w lo n A0 C0 F) (off m : Int) :
    Calls Tryz.prog 40 #[.agg #[.int .i64 k, .int .i64 r, .int .i64 c, .int .i64 q, .slice lo n cl], .int .i64 o, .int .i64 off, .int .i64 m] w (AnsB w (erPt q o off m W) (min (off.toNat + m.toNat) A.toNat - min off.toNat A.toNat) (fun p => ctn W (fun i => dat k c N Q F (SR i) (SV i)) (min off.toNat A.toNat + p))) := by
  have HP := fun u (hu : Below w.heap.size w u) => checkPart_good hp hck lo cl A0 C0 u (hl.below hu) o off m
  by_cases h0 : erPt q o off m W = 0
  · rw [h0] at HP ⊢
    have hm := mst_le W
    obtain ⟨h1, h2, h3⟩ : 0 <= off /\ 0 <= m /\ off + m <= ((mst W : Nat) : Int) := by
      unfold erPt at h0
      split at h0
      · exact absurd h0 (by decide)
      · split at h0
        · exact absurd h0 (by decide)
        · omega
    obtain ⟨of0, rfl⟩ := Int.eq_ofNat_of_zero_le h1
    obtain ⟨m0, rfl⟩ := Int.eq_ofNat_of_zero_le h2
    rw [Int.toNat_natCast, Int.toNat_natCast]
    refine Part_go w lo n cl o A D y M l s R V SR SV A.toNat of0 m0 (min of0 A.toNat) (min (of0 + m0) A.toNat) (by omega) (by omega) (by omega) rfl rfl 0 _ HP (fun u hu => Object_any h u lo cl hcl A0 C0 (hl.below hu)) (fun u so sc hu hrec => ?_)
    have hb := between_ob hp hck hs u lo cl hcl A0 C0 (hl.below hu) so sc hrec (min of0 A.toNat) (min (of0 + m0) A.toNat) (by omega) (by omega)
    rw [hit_part hE (by omega)] at hb
    exact hb
  · exact Part_bad w lo n cl o off m _ h0 HP _ _
theorem Length_none (w : World) : Calls Tryz.prog 36 #[.agg #[.int .i64 0, .int .i64 0, .int .i64 0, .int .i64 0, .slice none 0 0], .int .i64 0] w fun e w' => e = .returned (.tuple #[.int .i64 0, .int .i64 2]) /\ Below w.heap.size w w' :=
  Length_bad w none 0 0 0 0 2 (by decide) (fun _ => []) (fun u hu => Im.Row_any (k := 0) (r := 0) (c := 0) (q := 0) (F := fun _ => []) ⟨2, 0, 0, 0, .inr (.inl ⟨rfl, by decide, rfl, rfl, rfl⟩), .inr ⟨⟨rfl, rfl⟩, .inl ⟨by decide, rfl⟩⟩⟩ none 0 (Nat.le_refl _) (fun _ => none) (fun _ => 0) u (Im.lst_none _ _ _ _ _))
set_option maxHeartbeats 1000000 in
set_option maxRecDepth 100000 in
theorem awake18_any (w : World) : Calls Tryz.prog 33 #[] w fun e w' => e = .returned (.bool true) /\ Below w.heap.size w w' := by
  have HR : Hid (∀ w, Calls Tryz.prog 36 #[.agg #[.int .i64 0, .int .i64 0, .int .i64 0, .int .i64 0, .slice none 0 0], .int .i64 0] w fun e w' => e = .returned (.tuple #[.int .i64 0, .int .i64 2]) /\ Below w.heap.size w w') := fun w => Length_none w
  go_enter Tryz.func33, Tryz.ntmps33
  go_wp2_with fail
  refine (HR.out _).mono ?_
  rintro e wa ⟨rfl, ha⟩
  clear HR
  go_wp2_with fail
  go_ret
  exact ⟨rfl, ha⟩
end Go.Proofs.YtmoenmpbkockoaaGreat
