import Derived.Test.YtemlojjkokooeaaGreatTj42
set_option maxHeartbeats 4000000
set_option maxRecDepth 100000
namespace Go.Proofs.YtemlojjkokooeaaGreat
open Go.RowKit
def pto (D:Nat->Int) (os:Nat->Nat) (nu:Int) (n:Nat) (T:Nat->Option Addr) (U:Nat->Nat):Nat->List Value
  | 0=>[]
  | j+1=>pto D os nu n T U j ++ [.int .i64 (D j),.int .i64 nu,.int .i64 ((os j:Nat):Int),.slice (T j) n (U j)]
theorem pto_congr{D:Nat->Int}{os:Nat->Nat}{nu:Int}{n:Nat}{T T':Nat->Option Addr}{U U':Nat->Nat}:∀ {d:Nat},(∀ i,i<d->T i=T' i/\U i=U' i)->pto D os nu n T U d=pto D os nu n T' U' d
 | 0,_=>rfl
 | d+1,h=>by rw [pto,pto,pto_congr (d:=d) (fun i hi=>h i (by omega)),(h d (by omega)).1,(h d (by omega)).2]
theorem info39:(Tryz.prog.info? 56).map (fun i=>(i.zero,i.size,i.bytes))=some (some (.agg #[.int .i64 0,.int .i64 0,.int .i64 0,.slice none 0 0]),4,48):=by kernel_rfl
def ol (N:Nat) (c:Int) (L:Nat->Nat) (F:Nat->Nat->UInt8) (V:Nat->Int) (i:Nat):Nat:=oN (yy N c L F (2*i)) (yy N c L F (2*i+1)) 1 (V i)
structure Ren (N:Nat) (V:Nat->Int) (n:Nat) (D:Nat->Int) (d:Nat->Nat) (tv:Int):Prop where
  V:∀ i,i<N->1<=V i/\V i<tv
  tv:tv<=1073741824
  D:∀ j,j<n->D j=((d j:Nat):Int)/\d j<N
  n0:0<n
  nN:n<=N
theorem Ren.X{N:Nat}{V:Nat->Int}{n:Nat}{D:Nat->Int}{d:Nat->Nat}{tv:Int}(h:Ren N V n D d tv):∀ i,i<N->1<=bmp D tv V n i/\bmp D tv V n i<=tv:=fun i hi=>by
 have h1:=h.V i hi;by_cases e:∃ j,j<n/\D j=(i:Int)
 ·rw [bmp_hit e]; omega
 ·rw [bmp_miss e]; omega
theorem Ren.hit{N:Nat}{V:Nat->Int}{n:Nat}{D:Nat->Int}{d:Nat->Nat}{tv:Int}(h:Ren N V n D d tv){j:Nat}(hj:j<n):bmp D tv V n (d j)=tv:=bmp_hit ⟨j,hj,(h.D j hj).1⟩
theorem Ren.mx{N:Nat}{V:Nat->Int}{n:Nat}{D:Nat->Int}{d:Nat->Nat}{tv:Int}(h:Ren N V n D d tv):mx (bmp D tv V n) N=tv:=by
 have h0:=h.n0;have h1:=mx_leq (R:=bmp D tv V n) (h.D 0 h0).2;rw [h.hit h0] at h1;have h2:=mx_top (R:=bmp D tv V n) (n:=N) (t:=tv) (by have:=h.V (d 0) (h.D 0 h0).2; omega) (fun i hi=>(h.X i hi).2);omega
theorem Ren.erB{N:Nat}{V:Nat->Int}{n:Nat}{D:Nat->Int}{d:Nat->Nat}{tv:Int}(h:Ren N V n D d tv):erB 0 N N V n D tv=0:=by
 have e1:erV 0 N N V=0:=by
  unfold erV vok;rw [if_pos rfl,if_pos];have:=h.tv;exact decide_eq_true ⟨rfl,fun i hi=>by have:=h.V i hi; omega⟩
 have e2:celB N n D=true:=decide_eq_true fun j hj=>by have:=h.D j hj; omega
 have e3:verB tv=true:=by
  have:=h.V (d 0) (h.D 0 h.n0).2;have:=h.tv;unfold verB;exact decide_eq_true (by omega)
 unfold Go.Proofs.YtemlojjkokooeaaGreat.erB;rw [if_pos e1,if_neg (by have:=h.nN; omega),if_pos e2,if_pos e3]
theorem ren_held{w w0 w1:World}{x0 x1 x2 x3 x4 x5 x6 x7:Value}{t:TypeId}(h0:w0=w.alloc (.cells #[x0,x1,x2,x3,x4,x5,x6,x7] t))(hb:Below w0.heap.size w0 w1):
  w1.cell? ⟨w.heap.size,0,none⟩=some x0/\w1.cell? ⟨w.heap.size,1,none⟩=some x1/\w1.cell? ⟨w.heap.size,2,none⟩=some x2/\w1.cell? ⟨w.heap.size,3,none⟩=some x3/\w1.cell? ⟨w.heap.size,4,none⟩=some x4/\w1.cell? ⟨w.heap.size,5,none⟩=some x5/\w1.cell? ⟨w.heap.size,6,none⟩=some x6/\w1.cell? ⟨w.heap.size,7,none⟩=some x7 :=
 ⟨blk_held h0 hb 0 rfl,blk_held h0 hb 1 rfl,blk_held h0 hb 2 rfl,blk_held h0 hb 3 rfl,blk_held h0 hb 4 rfl,blk_held h0 hb 5 rfl,blk_held h0 hb 6 rfl,blk_held h0 hb 7 rfl⟩
theorem rputs_any {K R m : Nat} {q : Int} {N W : Nat} (h : Par (K : Int) (R : Int) (m : Int) q N W 0) (w : World) (ro : Option Addr) (rc : Nat) (A : Nat -> Option Addr) (L C : Nat -> Nat) (F : Nat -> Nat -> UInt8) (hr : Rw w ro N A L C F) (hL : ∀ j, j < 2 * N -> L j = 0 \/ L j = sz N (m : Int)) (nu tv : Int) (ko : Option Addr) (kc : Nat) (V : Nat -> Int) (hv : Vec w ko N kc V)
    (lo : Option Addr) (n lc : Nat) (D : Nat -> Int) (AA : Nat -> Option Addr) (CC : Nat -> Nat) (H : Nat -> Nat -> UInt8) (hl : Chl w lo n lc D AA (fun _ => m) CC H) (d : Nat -> Nat) (hR : Ren N V n D d tv) (X : Nat -> Int) (hX : bmp D tv V n = X) :
    Calls Tryz.prog 92 #[.agg #[.int .i64 (K : Int), .int .i64 (R : Int), .int .i64 (m : Int), .int .i64 q, .slice ro N rc, .int .i64 nu, .slice ko N kc, .int .i64 tv], .slice lo n lc] w fun e w' => ∃ ao cap T U, e = .returned (.slice ao n cap) /\ w'.ownsRow w.heap.size 56 4 (.slice ao n cap) n (pto D (fun j => ol N (m : Int) L F V (d j)) nu (sz N (m : Int)) T U n) /\ (∀ j, j < n -> OwU w.heap.size w' (T j) (sz N (m : Int)) (U j) (enc (slC 1 N X m (H j) (d j)))) /\ Below w.heap.size w w' := by
  obtain ⟨j0, hj, hj0, hj1, hj2⟩ := info_parts info39
  obtain ⟨i0, hi, hi0, hi1, hi2⟩ := info_parts info3
  have hN := h.le
  have hnN := hR.nN
  have hn0 := hR.n0
  obtain ⟨w0, hw0⟩ : ∃ w0, w0 = w.alloc (.cells #[.int .i64 (K : Int), .int .i64 (R : Int), .int .i64 (m : Int), .int .i64 q, .slice ro N rc, .int .i64 nu, .slice ko N kc, .int .i64 tv] 127) := ⟨_, rfl⟩
  have B0 : Hid (Below w.heap.size w w0) := by show Below _ _ _; rw [hw0]; exact bal _ _
  have HPAR := fun v (hv : Below w0.heap.size w0 v) => ren_held hw0 hv
  have HPAR : Hid _ := HPAR
  have HLL : Hid (∀ v, Below w.heap.size w v -> Chl v lo n lc D AA (fun _ => m) CC H) := fun v hv => hl.below hv
  have HRR : Hid (∀ v, Below w.heap.size w v -> Rw v ro N A L C F) := fun v hv => hr.below hv
  have HVV : Hid (∀ v, Below w.heap.size w v -> Vec v ko N kc V) := fun v hv' => hv.below hv'
  have HD : Hid (∀ j, j < n -> D j = ((d j : Nat) : Int) /\ d j < N) := hR.D
  have HBU : Hid (∀ v bo cb B, Below w.heap.size w v -> Own B v bo n cb D -> Calls Tryz.prog 158 #[.agg #[.int .i64 (K : Int), .int .i64 (R : Int), .int .i64 (m : Int), .int .i64 q], .slice ko N kc, .slice bo n cb, .int .i64 tv] v fun e w' => ∃ ao cap, e = .returned (.tuple #[.slice ao N cap, .int .i64 0]) /\ Own v.heap.size w' ao N cap X /\ Below v.heap.size v w') := fun v bo cb B hb ho => by
    have := Bump_any h v ko bo N kc n cb V D tv (hv.below hb) ho.vec (by omega) (by omega) 0 hR.erB
    rw [hX] at this
    exact this
  have HOL : Hid (∀ v i, Below w.heap.size w v -> i < N -> Calls Tryz.prog 150 #[.agg #[.int .i64 (K : Int), .int .i64 (R : Int), .int .i64 (m : Int), .int .i64 q], .agg #[.slice (A (2 * i)) (L (2 * i)) (C (2 * i)), .slice (A (2 * i + 1)) (L (2 * i + 1)) (C (2 * i + 1))], .int .u8 1, .int .i64 (i : Int), .int .i64 (V i)] v fun e w' => e = .returned (.tuple #[.int .i64 ((ol N (m : Int) L F V i : Nat) : Int), .int .i64 0]) /\ Below v.heap.size v w') := fun v i hb hi =>
    Older_any h v _ _ _ _ _ _ _ _ ((hr.below hb).bec (2 * i) (by omega)) ((hr.below hb).bec (2 * i + 1) (by omega)) 1 (i : Int) (V i) 0 (by unfold erO; rw [if_pos (he_err (.inl rfl) (hL _ (by omega)) (hL _ (by omega)) hi), if_pos (by have := hR.V i hi; have := hR.tv; omega)]) (yy N (m : Int) L F (2 * i)) (yy N (m : Int) L F (2 * i + 1)) (by unfold yy; rw [show 2 * i / 2 = i by omega]) (by unfold yy; rw [show (2 * i + 1) / 2 = i by omega])
  have HBY : Hid (∀ v ao ca j, Below w.heap.size w v -> Vec v ao N ca X -> j < n -> Calls Tryz.prog 159 #[.agg #[.int .i64 (K : Int), .int .i64 (R : Int), .int .i64 (m : Int), .int .i64 q], .agg #[.int .u8 1, .int .i64 ((d j : Nat) : Int), .int .i64 tv, .int .i64 tv, .slice ao N ca, .slice (AA j) m (CC j)]] v fun e w' => ∃ bo cb, e = .returned (.tuple #[.slice bo (sz N (m : Int)) cb, .int .i64 0]) /\ OwU v.heap.size w' bo (sz N (m : Int)) cb (enc (slC 1 N X m (H j) (d j))) /\ Below v.heap.size v w') := fun v ao ca j hb hvx hjn => by
    have e1 : slC 1 N X m (H j) (d j) = ⟨1, ((d j : Nat) : Int), tv, tv, N, X, m, H j⟩ := by
      unfold slC; rw [<- hX, hR.hit hjn, hR.mx]
    have e2 : erS 0 N (m : Int) (slC 1 N X m (H j) (d j)) = 0 := by
      have := (slC_ok (c := (m : Int)) (X := X) (kd := 1) (G := H j) (.inl rfl) (fun i hi => by have := hR.X i hi; rw [hX] at this; have := hR.tv; omega) (hR.D j hjn).2 (by omega)).ok
      rw [Int.toNat_natCast] at this
      unfold erS; rw [if_pos rfl, if_pos this]
    have := Bytes_any h v (slC 1 N X m (H j) (d j)) ao ca (AA j) (CC j) ⟨hvx, ((hl.below hb).bec j hjn)⟩ 0 e2
    unfold slv at this
    rw [e1] at this ⊢
    exact this
  obtain ⟨os, hos⟩ : ∃ os : Nat -> Nat, os = fun j => ol N (m : Int) L F V (d j) := ⟨_, rfl⟩
  rw [<- hos]
  have HOS : Hid (∀ j, ol N (m : Int) L F V (d j) = os j) := fun j => by rw [hos]
  have HOLJ : Hid (∀ v j, Below w.heap.size w v -> j < n -> Calls Tryz.prog 150 #[.agg #[.int .i64 (K : Int), .int .i64 (R : Int), .int .i64 (m : Int), .int .i64 q], .agg #[.slice (A (2 * d j)) (L (2 * d j)) (C (2 * d j)), .slice (A (2 * d j + 1)) (L (2 * d j + 1)) (C (2 * d j + 1))], .int .u8 1, .int .i64 ((d j : Nat) : Int), .int .i64 (V (d j))] v fun e w' => e = .returned (.tuple #[.int .i64 ((os j : Nat) : Int), .int .i64 0]) /\ Below v.heap.size v w') := fun v j hb hjn => by
    have := HOL.out v (d j) hb (HD.out j hjn).2
    rw [HOS.out j] at this
    exact this
  obtain ⟨G, hG⟩ : ∃ G : Nat -> Nat -> UInt8, G = fun j => enc (slC 1 N X m (H j) (d j)) := ⟨_, rfl⟩
  have HG : Hid (∀ j, enc (slC 1 N X m (H j) (d j)) = G j) := fun j => by rw [hG]
  obtain ⟨S, hS⟩ : ∃ S, S = sz N (m : Int) := ⟨_, rfl⟩
  rw [<- hS]
  rw [<- hS] at HBY
  clear h hr hL hv hl hR hX hos hG hS
  go_enter Tryz.func92, Tryz.ntmps92
  go_wp2_with fail
  rw [<- hw0]
  clear hw0
  go_wp2_with fail
  go_loopw [5, 20] (fun nm y wr => ∃ i : Nat, i <= n /\ y = .int .i64 (i : Int) /\ ∃ ao ca, nm = .slice ao i ca /\ Hid (Own w0.heap.size wr ao i ca D) /\ Hid (Below w0.heap.size w0 wr)) (fun _ y _ => n - (intOf y).toNat)
  case atStart => exact ⟨0, Nat.zero_le _, rfl, none, 0, rfl, own_nil _ _ _, Below.refl _ _⟩
  case round =>
    obtain ⟨i, hi', rfl, ao, ca, rfl, hown, hb⟩ := hrel
    by_cases hlt : i < n
    · obtain ⟨b, off, rfl, hc⟩ := (HLL.out wr (bth B0.out hb.out)).at_ (by omega)
      obtain ⟨c0, c1⟩ := hc i hlt
      have i1 : (0 : Int) <= (i : Int) := by omega
      have i2 : (i : Int) < (n : Int) := by omega
      obtain ⟨wc, hwc⟩ : ∃ wc, wc = wr.alloc (.cells #[.int .i64 (D i), .slice (AA i) m (CC i)] 124) := ⟨_, rfl⟩
      have bc : Below wr.heap.size wr wc := by rw [hwc]; exact bal _ _
      have HZ : Hid (wc.heap.size = wr.heap.size + 1) := by show _ = _; rw [hwc]; simp
      have HBC : Hid (Below w0.heap.size w0 wc) := bth hb.out bc
      obtain ⟨xs, hxs⟩ : ∃ xs, xs = zOf i D := ⟨_, rfl⟩
      have HOWN : Hid (wc.ownsRow w0.heap.size 3 1 (.slice ao i ca) i xs) := by rw [hxs]; exact hown.out.below bc
      have HXS : Hid (xs ++ [.int .i64 (D i)] = zOf (i + 1) D) := by show _ = _; rw [zOf_succ, hxs]
      clear hc hown hb bc hxs
      go_wp2_with (at_builtin; rw [<- hwc]; clear hwc; refine wpList_append_lies _ (by rfl) (.tmp 24) (.tmp 27) 27 (by rfl) w0.heap.size 3 i0 (.int .i64 0) 1 8 Tryz.underlying27 hi hi0 hi1 hi2 (by rfl) (by decide) (.slice ao i ca) i xs (by rfl) (owns_below HOWN.out (bal _ _)) ⟨wr.heap.size + 1, 0, none⟩ 1 1 [.int .i64 (D i)] (by simp [Act.eval]) (by rfl) (by rw [<- HZ.out]; exact World.news_of_block (heap_alloc_new wc _)) (by simp [Value.oneCell']) (by decide) (by unfold maxLen; omega) (by omega) (by have := HBC.out.size; simp; omega) (wr.heap.size + 1 + 1) (by simp [HZ.out]) ?_; intro g5 cap5 w5 hown5 hgrow5 _ _
                   have HO5 : Hid (Own w0.heap.size w5 (some ⟨g5, 0, none⟩) (i + 1) cap5 D) := by show Own _ _ _ _ _ _; unfold Own; rw [<- HXS.out]; exact hown5
                   have HB5 : Hid (Below w0.heap.size w0 w5) := (bth HBC.out (bal _ _)).grown hgrow5 (by have := HBC.out.size; simp; omega) (fun r hr => (HOWN.out.lt r hr).1)
                   clear hown5 hgrow5)
      go_roundw
      case rel => exact ⟨i + 1, by omega, by go_num, _, cap5, rfl, HO5.out, HB5.out⟩
      case measure => simp [intOf]; omega
    · obtain rfl : i = n := by omega
      obtain ⟨wm, rfl⟩ : ∃ x, x = wr := ⟨wr, rfl⟩
      obtain ⟨a0, a1, a2, a3, a4, a5, a6, a7⟩ := HPAR.out wm hb.out
      have HBM : Hid (Below w0.heap.size w0 wm) := hb.out
      have HOM : Hid (Own w0.heap.size wm ao i ca D) := hown.out
      clear hown hb
      go_wp2_with (go_at_call 158; refine (HBU.out _ _ _ _ (bth B0.out HBM.out) HOM.out).mono ?_; rintro e wv ⟨vo, vc, rfl, hvo, hvb⟩)
      have HVO : Hid (Own wm.heap.size wv vo N vc X) := hvo
      have HBV : Hid (Below w0.heap.size w0 wv) := bth HBM.out hvb
      clear hvo hvb a0 a1 a2 a3 a4 a5 a6 a7
      go_wp2_with fail
      go_loopw [10, 43] (fun cl y wr => ∃ j : Nat, j <= i /\ y = .int .i64 (j : Int) /\ ∃ zo zc T U, cl = .slice zo j zc /\ Hid (wr.ownsRow wv.heap.size 56 4 (.slice zo j zc) j (pto D os nu S T U j)) /\ Hid (∀ t, t < j -> OwU wv.heap.size wr (T t) S (U t) (G t)) /\ Hid (Below wv.heap.size wv wr)) (fun _ y _ => i - (intOf y).toNat)
      case atStart => exact ⟨0, Nat.zero_le _, rfl, none, 0, fun _ => none, fun _ => 0, rfl, World.ownsRow_nil _ _ _ _, fun t ht => absurd ht (Nat.not_lt_zero t), Below.refl _ _⟩
      case round =>
        obtain ⟨j, hji, rfl, zo, zc, T, U, rfl, hown, hrow, hb⟩ := hrel
        by_cases hlt : j < i
        · have BWR : Hid (Below w.heap.size w wr) := bth B0.out (bth HBV.out hb.out)
          obtain ⟨b, off, rfl, hc⟩ := (HLL.out wr BWR.out).at_ (by omega)
          obtain ⟨c0, c1⟩ := hc j hlt
          obtain ⟨hd1, hd2⟩ := HD.out j hlt
          rw [hd1] at c0
          have i1 : (0 : Int) <= (j : Int) := by omega
          have i2 : (j : Int) < (i : Int) := by omega
          have i3 : (0 : Int) <= ((d j : Nat) : Int) := by omega
          have i4 : ((d j : Nat) : Int) < (N : Int) := by omega
          obtain ⟨wc, hwc⟩ : ∃ wc, wc = wr.alloc (.cells #[.int .i64 ((d j : Nat) : Int), .slice (AA j) m (CC j)] 124) := ⟨_, rfl⟩
          have bc : Below wr.heap.size wr wc := by rw [hwc]; exact bal _ _
          have HCC : Hid (∀ v, Below wc.heap.size wc v -> v.cell? ⟨wr.heap.size, 0, none⟩ = some (.int .i64 ((d j : Nat) : Int)) /\ v.cell? ⟨wr.heap.size, 1, none⟩ = some (.slice (AA j) m (CC j))) := fun v hv => ⟨blk_held hwc hv 0 rfl, blk_held hwc hv 1 rfl⟩
          have HB1 : Hid (Below wv.heap.size wv wc) := bth hb.out bc
          have BWC : Hid (Below w.heap.size w wc) := bth BWR.out bc
          have BW0 : Hid (Below w0.heap.size w0 wc) := bth HBV.out HB1.out
          obtain ⟨xs, hxs⟩ : ∃ xs, xs = pto D os nu S T U j := ⟨_, rfl⟩
          have HOWN : Hid (wc.ownsRow wv.heap.size 56 4 (.slice zo j zc) j xs) := by rw [hxs]; exact owns_below hown.out bc
          have HROW : Hid (∀ t, t < j -> OwU wv.heap.size wc (T t) S (U t) (G t)) := fun t ht => (hrow.out t ht).below bc
          have HXS : Hid (xs = pto D os nu S T U j /\ D j = ((d j : Nat) : Int)) := ⟨hxs, hd1⟩
          obtain ⟨rb, roff, rfl, hrc⟩ := (HRR.out wc BWC.out).at_ (by omega)
          obtain ⟨r0, r1⟩ := hrc (d j) hd2
          obtain ⟨kb, koff, rfl, hkc⟩ := (HVV.out wc BWC.out).rd (by omega)
          have k0 := hkc (d j) hd2
          obtain ⟨a0, a1, a2, a3, a4, a5, a6, a7⟩ := HPAR.out wc BW0.out
          clear hc hown hrow hb bc hxs hrc hkc hd1
          go_wp2_with fail
          rw [<- hwc]
          clear hwc c0 c1
          go_region_held3 (fun v => v.cell? ⟨w.heap.size, 0, none⟩ = some (.int .i64 (K : Int)) /\ v.cell? ⟨w.heap.size, 1, none⟩ = some (.int .i64 (R : Int)) /\ v.cell? ⟨w.heap.size, 2, none⟩ = some (.int .i64 (m : Int)) /\ v.cell? ⟨w.heap.size, 3, none⟩ = some (.int .i64 q) /\ v.cell? ⟨w.heap.size, 4, none⟩ = some (.slice (some ⟨rb, roff, none⟩) N rc) /\ v.cell? ⟨w.heap.size, 6, none⟩ = some (.slice (some ⟨kb, koff, none⟩) N kc) /\ v.cell? ⟨rb, roff + d j * 2, none⟩ = some (.slice (A (2 * d j)) (L (2 * d j)) (C (2 * d j))) /\ v.cell? ⟨rb, roff + d j * 2 + 1, none⟩ = some (.slice (A (2 * d j + 1)) (L (2 * d j + 1)) (C (2 * d j + 1))) /\ v.cell? ⟨kb, koff + d j, none⟩ = some (.int .i64 (V (d j)))) (go_keep)
            ((go_at_call 150; refine (HOLJ.out _ _ (bth BWC.out (bdw _ _)) hlt).mono ?_; rintro e wd ⟨rfl, hdd⟩; have f0 := held (w := wc.drew) a0 hdd; have f1 := held (w := wc.drew) a1 hdd; have f2 := held (w := wc.drew) a2 hdd; have f3 := held (w := wc.drew) a3 hdd; have f4 := held (w := wc.drew) a4 hdd; have f6 := held (w := wc.drew) a6 hdd; have f7 := held (w := wc.drew) r0 hdd; have f8 := held (w := wc.drew) r1 hdd; have f9 := held (w := wc.drew) k0 hdd))
          have BCD : Hid (Below wc.heap.size wc wd) := bth (bdw _ _) hdd
          have HOW2 : Hid (wd.ownsRow wv.heap.size 56 4 (.slice zo j zc) j xs) := owns_below HOWN.out BCD.out
          have HRO2 : Hid (∀ t, t < j -> OwU wv.heap.size wd (T t) S (U t) (G t)) := fun t ht => (HROW.out t ht).below BCD.out
          have HBD : Hid (Below wv.heap.size wv wd) := bth HB1.out BCD.out
          obtain ⟨_, e1⟩ := HCC.out wd BCD.out
          have hto := (HPAR.out wd (bth HBV.out HBD.out)).2.2.2.2.2.2.2
          clear hdd a0 a1 a2 a3 a4 a5 a6 a7 r0 r1 k0 f4 f6 f7 f8 f9
          go_wp2_with (first
            | (go_at_call 159; refine (HBY.out _ _ _ j (bth BWC.out BCD.out) (HVO.out.vec.below HBD.out) hlt).mono ?_; rintro e we ⟨bo, cb, rfl, hbo, hbe⟩
               have HBO : Hid (OwU wd.heap.size we bo S cb (G j)) := by show OwU _ _ _ _ _ _; rw [<- HG.out]; exact hbo
               have HOW3 : Hid (we.ownsRow wv.heap.size 56 4 (.slice zo j zc) j xs) := owns_below HOW2.out hbe
               have HRO3 : Hid (∀ t, t < j -> OwU wv.heap.size we (T t) S (U t) (G t)) := fun t ht => (HRO2.out t ht).below hbe
               have HBE : Hid (Below wv.heap.size wv we) := bth HBD.out hbe
               have hnu := (HPAR.out we (bth HBV.out HBE.out)).2.2.2.2.2.1
               clear hbo hbe)
            | (at_builtin; refine wpList_append_lies _ (by rfl) (.tmp 81) (.tmp 88) 43 (by rfl) wv.heap.size 56 j0 (.agg #[.int .i64 0, .int .i64 0, .int .i64 0, .slice none 0 0]) 4 48 Tryz.underlying43 hj hj0 hj1 hj2 (by rfl) (by decide) (.slice zo j zc) j xs (by rfl) (owns_below HOW3.out (bal _ _)) ⟨we.heap.size, 0, none⟩ 1 1 [.int .i64 ((d j : Nat) : Int), .int .i64 nu, .int .i64 ((os j : Nat) : Int), .slice bo S cb] (by simp [Act.eval]) (by rfl) (World.news_of_block (heap_alloc_new we _)) (by simp [Value.oneCell']) (by decide) (by unfold maxLen; omega) (by omega) (by have := HBE.out.size; simp; omega) (we.heap.size + 1) (by simp) ?_; intro g7 cap7 w7 hown7 hgrow7 _ _
               have HO7 : Hid (w7.ownsRow wv.heap.size 56 4 (.slice (some ⟨g7, 0, none⟩) (j + 1) cap7) (j + 1) (pto D os nu S (Cod.put j bo T) (Cod.put j cb U) (j + 1))) := by
                 rw [pto, Cod.put_at, Cod.put_at, pto_congr (T' := T) (U' := U) (fun i hi => ⟨Cod.put_ne _ _ (by omega), Cod.put_ne _ _ (by omega)⟩), <- HXS.out.1, HXS.out.2]
                 exact hown7
               have HR7 : Hid (∀ t, t < j + 1 -> OwU wv.heap.size w7 (Cod.put j bo T t) S (Cod.put j cb U t) (G t)) := fun t ht => by
                 by_cases e : t = j
                 · subst e
                   rw [Cod.put_at, Cod.put_at]
                   exact owns_mono (owns_kept HBO.out HOW3.out (by decide) (bal _ _) hgrow7) HBD.out.size
                 · rw [Cod.put_ne _ _ e, Cod.put_ne _ _ e]
                   exact owns_kept (HRO3.out t (by omega)) HOW3.out (by decide) (bal _ _) hgrow7
               have HB7 : Hid (Below wv.heap.size wv w7) := (bth HBE.out (bal _ _)).grown hgrow7 (by have := HBE.out.size; simp; omega) (fun r hr => (HOW3.out.lt r hr).1)
               clear hown7 hgrow7))
          go_roundw
          case rel => exact ⟨j + 1, by omega, by go_num, _, cap7, _, _, rfl, HO7.out, HR7.out, HB7.out⟩
          case measure => simp [intOf]; omega
        · obtain rfl : j = i := by omega
          have BV := bth B0.out HBV.out
          have hsz := BV.size
          go_wp2_with fail
          go_ret
          exact ⟨zo, zc, T, U, rfl, owns_mono hown.out hsz, fun t ht => by rw [HG.out]; exact (hrow.out t ht).mono hsz, bth BV hb.out⟩
def AnsVb (w:World) (E:Int) (t:Sl) (e:Ending) (w':World):Prop:=∃ ao ca,e=.returned (.tuple #[.slice ao (lenE E t.vn) ca,.bool (decide (E=0/\t.ce ≠ 0)),.int .i64 E])/\Own w.heap.size w' ao (lenE E t.vn) ca t.V/\Below w.heap.size w w'
theorem Vector_any{k r c q:Int}{N W:Nat}{x:Int}(h:Par k r c q N W x)(w:World)(ro:Option Addr)(rn rc:Nat)(A:Nat->Option Addr)(L C:Nat->Nat)(F:Nat->Nat->UInt8)(hr:Rw w ro rn A L C F)(kd:UInt8)(v:Int)(E:Int)(hE:erK x N c rn L kd v=E)(t:Sl)(ht:tS (yy N c L F) kd v (2*N)=t):
  Calls Tryz.prog 11 #[.agg #[.int .i64 k,.int .i64 r,.int .i64 c,.int .i64 q],.slice ro rn rc,.int .u8 ((kd.toNat:Nat):Int),.int .i64 v] w (AnsVb w E t):=by
 have HA:Hid (∀ u,Below w.heap.size w u->Calls Tryz.prog 67 #[.agg #[.int .i64 k,.int .i64 r,.int .i64 c,.int .i64 q],.slice ro rn rc,.int .u8 ((kd.toNat:Nat):Int),.int .i64 v] u fun e w'=>e=.returned (.tuple #[if E=0 then stv k r c q ro rn rc kd else stz,.int .i64 E])/\Below u.heap.size u w'):=fun u hu=>asked_any h u ro rn rc A L C F (hr.below hu) kd v E hE;obtain⟨w0,hw0⟩:∃ w0,w0=w.alloc (.cells #[.int .i64 k,.int .i64 r,.int .i64 c,.int .i64 q] 23):=⟨_,rfl⟩
 have B0:Hid (Below w.heap.size w w0):=by show Below _ _ _; rw [hw0]; exact bal _ _
 unfold AnsVb;by_cases he:E=0
 ·subst he;obtain⟨hR,hk,_⟩:=erK_zero hE;obtain⟨rfl,rfl,hL⟩:=erR_zero hR;have HV:Hid (∀ u,Below w.heap.size w u->Calls Tryz.prog 68 #[stv k r c q ro rn rc kd,.int .i64 v] u (AnsV u t)):=fun u hu=>vector_any h u ro rc A L C F (hr.below hu) hL kd hk v t ht;rw [if_pos rfl] at HA;have ht0:t.ce=0->t=zSl:=fun e=>by
   rcases tS_is (v:=v) hk (yy_ok rn c L F) (2*rn) (Nat.le_refl _) with ⟨a,_⟩ | ⟨j,_,a2,_,a4,_⟩
   ·rw [<- ht]; exact a
   ·rw [ht] at a2; rw [a2] at e; exact absurd e (ok_of a4.1).ne
  rw [show lenE 0 t.vn=t.vn from rfl];clear h hr hE hR hL hk ht;unfold stv at HA HV;by_cases h0:t.ce=0
  ·obtain rfl:=ht0 h0;rw [show decide ((0:Int)=0/\zSl.ce ≠ 0)=false from rfl,show zSl.vn=0 from rfl];clear ht0 h0;go_enter Tryz.func11,Tryz.ntmps11
   go_wp2_with fail
   rw [<- hw0];clear hw0;refine(HA.out _ B0.out).mono ?_;rintro e wa ⟨rfl,ha⟩;obtain⟨w2,hw2⟩:∃ w2,w2=wa.alloc (.cells #[.int .i64 k,.int .i64 r,.int .i64 c,.int .i64 q,.slice ro rn rc,.int .u8 ((kd.toNat:Nat):Int)] 99):=⟨_,rfl⟩
   have B2:Hid (Below w.heap.size w w2):=by show Below _ _ _; rw [hw2]; exact bth (bth B0.out ha) (bal _ _)
   clear ha;go_wp2_with fail
   rw [<- hw2];clear hw2;refine(HV.out _ B2.out).mono ?_;rintro e wf ⟨ao,ca,rfl,hown,hnil,hb⟩;have HO:Hid (Own w.heap.size wf ao 0 ca zSl.V):=hown.mono B2.out.size;have HBF:Hid (Below w.heap.size w wf):=bth B2.out hb;obtain rfl:ao=none:=hnil.2 rfl;obtain⟨_,rfl⟩:=hown.vec.nil rfl;have hq:=neqv_no;clear hown hnil hb;go_wp2_with fail
   refine bodyPost_ret (v:=.tuple #[.slice none 0 0,.bool false,.int .i64 0]) (by simp [results,Tryz.results11,go_sem]) rfl ?_;exact⟨none,0,rfl,HO.out,HBF.out⟩
  ·rw [show decide ((0:Int)=0/\t.ce ≠ 0)=true from decide_eq_true ⟨rfl,h0⟩];clear ht0;go_enter Tryz.func11,Tryz.ntmps11
   go_wp2_with fail
   rw [<- hw0];clear hw0;refine(HA.out _ B0.out).mono ?_;rintro e wa ⟨rfl,ha⟩;obtain⟨w2,hw2⟩:∃ w2,w2=wa.alloc (.cells #[.int .i64 k,.int .i64 r,.int .i64 c,.int .i64 q,.slice ro rn rc,.int .u8 ((kd.toNat:Nat):Int)] 99):=⟨_,rfl⟩
   have B2:Hid (Below w.heap.size w w2):=by show Below _ _ _; rw [hw2]; exact bth (bth B0.out ha) (bal _ _)
   clear ha;go_wp2_with fail
   rw [<- hw2];clear hw2;refine(HV.out _ B2.out).mono ?_;rintro e wf ⟨ao,ca,rfl,hown,hnil,hb⟩;have HO:Hid (Own w.heap.size wf ao t.vn ca t.V):=hown.mono B2.out.size;have HBF:Hid (Below w.heap.size w wf):=bth B2.out hb;obtain⟨a,rfl⟩:∃ a,ao=some a:=by
    cases ao with
    | none=>exact absurd (hnil.1 rfl) h0
    | some a=>exact⟨a,rfl⟩
   have hq:=neqv_yes;clear hown hnil hb h0;go_wp2_with fail
   refine bodyPost_ret (v:=.tuple #[.slice (some a) t.vn ca,.bool true,.int .i64 0]) (by simp [results,Tryz.results11,go_sem]) rfl ?_;exact⟨some a,ca,rfl,HO.out,HBF.out⟩
 ·rw [if_neg he] at HA;have e1:(E != 0)=true:=by simp [he]
  have hd:decide (E=0/\t.ce ≠ 0)=false:=decide_eq_false fun a=>he a.1;rw [show lenE E t.vn=0 from if_neg he,hd];clear h hr hE hd;unfold stz at HA;go_enter Tryz.func11,Tryz.ntmps11
  go_wp2_with fail
  rw [<- hw0];clear hw0;refine(HA.out _ B0.out).mono ?_;rintro e wa ⟨rfl,ha⟩;go_wp2_with fail
  refine bodyPost_ret (v:=.tuple #[.slice none 0 0,.bool false,.int .i64 E]) (by simp [results,Tryz.results11,go_sem]) rfl ?_;exact⟨none,0,rfl,own_nil _ _ _,bth (bth B0.out ha) (bal _ _)⟩
end Go.Proofs.YtemlojjkokooeaaGreat
