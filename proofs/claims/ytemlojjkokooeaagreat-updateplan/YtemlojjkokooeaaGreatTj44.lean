import Derived.Test.YtemlojjkokooeaaGreatTj43
set_option maxHeartbeats 4000000
set_option maxRecDepth 100000
namespace Go.Proofs.YtemlojjkokooeaaGreat
open Go.RowKit
def Lw (d:Nat->Nat):Nat->Nat->Nat
  | 0,_=>0
  | n+1,i=>if d n=i then 1 else Lw d n i
theorem Lw_hit{d:Nat->Nat}:∀ {n j:Nat},j<n->Lw d n (d j) ≠ 0
 | 0,j,h=>absurd h (Nat.not_lt_zero j)
 | n+1,j,h=>by
  rw [Lw];by_cases e:d n=d j
  ·rw [if_pos e]; decide
  ·rw [if_neg e];exact Lw_hit (n:=n) (by
    have:j ≠ n:=fun q=>e (by rw [q]);omega)
theorem Lw_inv{d:Nat->Nat}:∀ {n i:Nat},Lw d n i ≠ 0->∃ j,j<n/\d j=i
 | 0,_,h=>absurd rfl h
 | n+1,i,h=>by
  rw [Lw] at h;by_cases e:d n=i
  ·exact⟨n,by omega,e⟩
  ·rw [if_neg e] at h;obtain⟨j,h1,h2⟩:=Lw_inv h;exact⟨j,by omega,h2⟩
theorem cnt_flat{L:Nat->Nat}{a:Nat}:∀ {b:Nat},a<=b->(∀ i,a<=i->i<b->L i=0)->Cod.cnt L b=Cod.cnt L a
 | 0,h,_=>by rw [show a=0 by omega]
 | b+1,h,h0=>by
  by_cases e:a=b+1
  ·rw [e]
  ·rw [Cod.cnt_skip (h0 b (by omega) (by omega))];exact cnt_flat (by omega) fun i h1 h2=>h0 i h1 (by omega)
structure Ris (d:Nat->Nat) (n N:Nat):Prop where
  up:∀ i j,i<j->j<n->d i<d j
  lt:∀ j,j<n->d j<N
theorem Ris.at_{d:Nat->Nat}{n N:Nat}(h:Ris d n N):∀ j,j<n->Cod.cnt (Lw d n) (d j)=j
 | 0,hj=>by
  rw [cnt_flat (a:=0) (Nat.zero_le _) fun i _ hi=>?_]
  ·rfl
  ·by_cases e:Lw d n i=0
   ·exact e
   ·obtain⟨j,h1,h2⟩:=Lw_inv e;by_cases g:j=0
    ·subst g; omega
    ·have:=h.up 0 j (by omega) h1; omega
 | j+1,hj=>by
  have hu:=h.up j (j+1) (by omega) hj;rw [cnt_flat (a:=d j+1) (by omega) fun i h0 hi=>?_]
  ·rw [Cod.cnt_take (Lw_hit (by omega)),h.at_ j (by omega)]
  ·by_cases e:Lw d n i=0
   ·exact e
   ·obtain⟨l,h1,h2⟩:=Lw_inv e;rcases Nat.lt_trichotomy l j with g | g | g
    ·have:=h.up l j g (by omega); omega
    ·subst g; omega
    ·by_cases g2:l=j+1
     ·subst g2; omega
     ·have:=h.up (j+1) l (by omega) h1; omega
theorem Ris.all{d:Nat->Nat}{n N:Nat}(h:Ris d n N):Cod.cnt (Lw d n) N=n:=by
 cases n with
 | zero=>exact(cnt_flat (L:=Lw d 0) (a:=0) (b:=N) (Nat.zero_le _) fun i _ _=>rfl).trans rfl
 | succ n =>
  rw [cnt_flat (a:=d n+1) (h.lt n (by omega)) fun i h0 hi=>?_]
  ·rw [Cod.cnt_take (Lw_hit (by omega)),h.at_ n (by omega)]
  ·by_cases e:Lw d (n+1) i=0
   ·exact e
   ·obtain⟨l,h1,h2⟩:=Lw_inv e;by_cases g:l=n
    ·subst g; omega
    ·have:=h.up l n (by omega) (by omega); omega
theorem Ris.inv{d:Nat->Nat}{n N:Nat}(h:Ris d n N){i:Nat}(hi:Lw d n i ≠ 0):Cod.cnt (Lw d n) i<n/\d (Cod.cnt (Lw d n) i)=i:=by
 obtain⟨j,h1,rfl⟩:=Lw_inv hi;rw [h.at_ j h1]; exact⟨h1,rfl⟩
theorem ptl_pto{d:Nat->Nat}{n N:Nat}(h:Ris d n N){D:Nat->Int}(hD:∀ j,j<n->D j=((d j:Nat):Int))(os:Nat->Nat)(nu:Int)(S:Nat)(T:Nat->Option Addr)(U:Nat->Nat):∀ i,ptl (Lw d n) os nu S (fun i=>T (Cod.cnt (Lw d n) i)) (fun i=>U (Cod.cnt (Lw d n) i)) i=pto D (fun j=>os (d j)) nu S T U (Cod.cnt (Lw d n) i)
 | 0=>rfl
 | i+1=>by
  rw [ptl];by_cases e:Lw d n i=0
  ·rw [if_pos e,Cod.cnt_skip e]; exact ptl_pto h hD os nu S T U i
  ·obtain⟨h1,h2⟩:=h.inv e;rw [if_neg e,Cod.cnt_take e,pto,ptl_pto h hD os nu S T U i,hD _ h1,h2]
def dq (K n:Nat) (D:Nat->Int) (j:Nat):Nat:=if j<n then (D j).toNat else K+(j-n)
theorem dq_D{K n:Nat}{D:Nat->Int}(hg:gdB D (K:Int) n)(j:Nat):Cod.cat n D (fun i=>((K+i:Nat):Int)) j=((dq K n D j:Nat):Int):=by
 unfold dq Cod.cat
 by_cases e:j<n
 ·rw [if_pos e,if_pos e]; have:=gd_ge hg e; omega
 ·rw [if_neg e,if_neg e]
theorem gd_len{D:Nat->Int}{K:Nat}{n:Nat}(h:gdB D (K:Int) n):n<=K:=by
 have key:∀ j,j<n->(j:Int)<=D j:=fun j=>by
  induction j with
  | zero=>intro h0; have:=gd_ge h h0; omega
  | succ j ih=>intro h0; have:=ih (by omega); have:=gd_lt h (j+1) j (by omega) h0; omega
 cases n with
 | zero=>omega
 | succ n=>have:=key n (by omega); have:=gd_ge h (show n<n+1 by omega); omega
theorem dq_ris{K R n:Nat}{D:Nat->Int}(hg:gdB D (K:Int) n):Ris (dq K n D) (n+R) (K+R):=by
 refine⟨fun i j hij hj=>?_,fun j hj=>?_⟩
 ·unfold dq;by_cases e:j<n
  ·rw [if_pos e,if_pos (by omega)];have:=gd_lt hg j i hij e;have:=gd_ge hg (show i<n by omega);have:=gd_ge hg e;omega
  ·rw [if_neg e];by_cases e2:i<n
   ·rw [if_pos e2]; have:=gd_ge hg e2; omega
   ·rw [if_neg e2]; omega
 ·unfold dq;by_cases e:j<n
  ·rw [if_pos e]; have:=gd_ge hg e; omega
  ·rw [if_neg e]; omega
theorem plan_no{k r c q:Int}{N W:Nat}{x:Int}(h:Par k r c q N W x)(w:World)(ro:Option Addr)(rn rc:Nat)(A:Nat->Option Addr)(L C:Nat->Nat)(F:Nat->Nat->UInt8)(hr:Rw w ro rn A L C F)(nu fr tv:Int)(lo:Option Addr)(n lc:Nat)(E:Int)(hE:erK x N c rn L 1 fr=E)(he:E ≠ 0):
  Calls Tryz.prog 31 #[.agg #[.int .i64 k,.int .i64 r,.int .i64 c,.int .i64 q],.slice ro rn rc,.int .i64 nu,.int .i64 fr,.int .i64 tv,.slice lo n lc] w fun e w'=>e=.returned (.tuple #[.slice none 0 0,.int .i64 E])/\Below w.heap.size w w':=by
 have HV:Hid (∀ v,Below w.heap.size w v->Calls Tryz.prog 11 #[.agg #[.int .i64 k,.int .i64 r,.int .i64 c,.int .i64 q],.slice ro rn rc,.int .u8 1,.int .i64 fr] v fun e w'=>∃ ao n ca b,e=.returned (.tuple #[.slice ao n ca,.bool b,.int .i64 E])/\Below v.heap.size v w'):=fun v hv=>by
  refine(Vector_any h v ro rn rc A L C F (hr.below hv) 1 fr E hE _ rfl).mono ?_;rintro e w' ⟨ao,ca,rfl,_,hb⟩;exact⟨_,_,_,_,rfl,hb⟩
 obtain⟨w0,hw0⟩:∃ w0,w0=w.alloc (.cells #[.int .i64 k,.int .i64 r,.int .i64 c,.int .i64 q] 23):=⟨_,rfl⟩
 have B0:Hid (Below w.heap.size w w0):=by show Below _ _ _; rw [hw0]; exact bal _ _
 have e1:(E != 0)=true:=by simp [he]
 clear h hr hE;go_enter Tryz.func31,Tryz.ntmps31
 go_wp2_with fail
 rw [<- hw0];clear hw0;refine(HV.out _ B0.out).mono ?_;rintro e wv ⟨ao,vn,ca,b,rfl,hb⟩;go_wp2_with fail
 go_ret2;exact⟨rfl,bth B0.out hb⟩
def pH (K N n:Nat) (z:Nat->Sl) (D:Nat->Int) (H:Nat->Nat->UInt8):Nat->Nat->UInt8:=Cod.cat n H (nwP K n D (cH K z N) H)
theorem chl_len{w:World}{lo:Option Addr}{n lc:Nat}{D:Nat->Int}{A:Nat->Option Addr}{L L' C:Nat->Nat}{F:Nat->Nat->UInt8}(h:Chl w lo n lc D A L C F)(e:∀ i,i<n->L i=L' i):Chl w lo n lc D A L' C F :=
 ⟨fun hn=>by obtain⟨b,off,e1,hc⟩:=h.at_ hn; exact⟨b,off,e1,fun i hi=>by rw [<- e i hi]; exact hc i hi⟩,fun i hi=>by rw [<- e i hi]; exact h.bec i hi,h.nil,h.room⟩
theorem told_of{N:Nat}{c:Int}{L:Nat->Nat}{F:Nat->Nat->UInt8}{fr:Int}{t:Sl}{K:Nat}(ht:tS (yy N c L F) 1 fr (2*N)=t)(hE:erL K (zv N c L F 1 fr) N=0)(hK:1<=K):t.ce ≠ 0/\t.vn=N/\∀ i,i<N->1<=t.V i/\t.V i<=fr:=by
 rcases tS_is (kd:=1) (v:=fr) (.inl rfl) (yy_ok N c L F) (2*N) (Nat.le_refl _) with ⟨h1,_⟩ | ⟨j,h1,h2,h3,h4,_⟩
 ·exfalso
  have h0:∀ i,Lz (zv N c L F 1 fr) i=0:=fun i=>by
   show (zz (yy N c L F) 1 (tS (yy N c L F) 1 fr (2*N)) i).dn=0;rw [h1]; rfl
  have:Cod.cnt (Lz (zv N c L F 1 fr)) N=0:=(cnt_flat (a:=0) (Nat.zero_le _) fun i _ _=>h0 i).trans rfl;unfold erL at hE;rw [this,if_neg (by omega)] at hE;exact absurd hE (by decide)
 ·rw [ht] at h2;rw [<- h2] at h3 h4;have ho:=ok_of h4.1;have hst:t.st=fr:=(of_decide_eq_true h3).2;refine⟨ho.ne,ho.vn,fun i hi=>⟨(ho.V i hi).1,?_⟩⟩;have:=mx_leq (R:=t.V) hi;rw [<- ho.st,hst] at this;exact this
def erPl (q nu fr tv G Q:Int):Int:=if 0<=nu/\nu<q/\fr<tv/\tv<=1073741824 then (if G=0 then Q else G) else 2
theorem plan_yes {K R m : Nat} {q : Int} {N W : Nat} (h : Par (K : Int) (R : Int) (m : Int) q N W 0) (w : World) (ro : Option Addr) (rc : Nat) (A : Nat -> Option Addr) (L C : Nat -> Nat) (F : Nat -> Nat -> UInt8) (hr : Rw w ro N A L C F) (hL : ∀ j, j < 2 * N -> L j = 0 \/ L j = sz N (m : Int)) (nu fr tv : Int) (hfr : 1 <= fr /\ fr <= 1073741824)
    (lo : Option Addr) (n lc : Nat) (D : Nat -> Int) (AA : Nat -> Option Addr) (LL CC : Nat -> Nat) (H : Nat -> Nat -> UInt8) (hl : Chl w lo n lc D AA LL CC H) (hn : n <= 100) (t : Sl) (ht : tS (yy N (m : Int) L F) 1 fr (2 * N) = t) (z : Nat -> Sl) (hz : zv N (m : Int) L F 1 fr = z) :
    Calls Tryz.prog 31 #[.agg #[.int .i64 (K : Int), .int .i64 (R : Int), .int .i64 (m : Int), .int .i64 q], .slice ro N rc, .int .i64 nu, .int .i64 fr, .int .i64 tv, .slice lo n lc] w fun e w' => (∃ E, E ≠ 0 /\ E = erPl q nu fr tv (erG D LL (K : Int) m n) (erL K z N) /\ e = .returned (.tuple #[.slice none 0 0, .int .i64 E]) /\ Below w.heap.size w w') \/
      (fr < tv /\ tv <= 1073741824 /\ 0 < n /\ gdB D (K : Int) n /\ (∀ i, i < n -> LL i = m) /\ erL K z N = 0 /\ (0 <= nu /\ nu < q) /\ t.ce ≠ 0 /\ ∃ ao cap T U, e = .returned (.tuple #[.slice ao (n + R) cap, .int .i64 0]) /\ PL w.heap.size w' ao (n + R) cap N (Lw (dq K n D) (n + R)) (ol N (m : Int) L F t.V) nu (sz N (m : Int)) T U (fun i => enc (slC 1 N (bmp (Cod.cat n D (fun i => ((K + i : Nat) : Int))) tv t.V (n + R)) m (pH K N n z D H (Cod.cnt (Lw (dq K n D) (n + R)) i)) i)) /\ Below w.heap.size w w') := by
  have hp : (1 <= K /\ K <= 12 /\ R <= 4 /\ 8 <= m /\ m <= 64) /\ N = K + R := by
    rcases h with ⟨h1, _, h0, _⟩ | ⟨_, _, _, h0⟩
    · obtain ⟨h1, h2, h3, h4, h5, h6, h7, h8, h9⟩ := may_true h1; omega
    · exact absurd h0 (by decide)
  obtain ⟨⟨hK, hK2, hR, hm, hm2⟩, rfl⟩ := hp
  have eK : erK 0 (K + R) (m : Int) (K + R) L 1 fr = 0 := erK_ok hL (.inl rfl) hfr
  have HV : Hid (∀ v, Below w.heap.size w v -> Calls Tryz.prog 11 #[.agg #[.int .i64 (K : Int), .int .i64 (R : Int), .int .i64 (m : Int), .int .i64 q], .slice ro (K + R) rc, .int .u8 1, .int .i64 fr] v fun e w' => ∃ ao ca b, e = .returned (.tuple #[.slice ao t.vn ca, .bool b, .int .i64 0]) /\ Own v.heap.size w' ao t.vn ca t.V /\ Below v.heap.size v w') := fun v hv => by
    refine (Vector_any h v ro _ rc A L C F (hr.below hv) 1 fr 0 eK t ht).mono ?_
    rintro e w' ⟨ao, ca, rfl, h1, hb⟩
    exact ⟨_, _, _, rfl, h1, hb⟩
  obtain ⟨G, hG⟩ : ∃ G, erG D LL (K : Int) m n = G := ⟨_, rfl⟩
  have HWR : Hid (∀ v, Below w.heap.size w v -> Calls Tryz.prog 91 #[.agg #[.int .i64 (K : Int), .int .i64 (R : Int), .int .i64 (m : Int), .int .i64 q], .slice lo n lc] v fun e w' => e = .returned (.int .i64 G) /\ Below v.heap.size v w') := fun v hv => wrong_any (K : Int) (R : Int) q m v lo n lc D AA LL CC H (hl.below hv) hn G hG
  obtain ⟨Q, hQ⟩ : ∃ Q, erL K z (K + R) = Q := ⟨_, rfl⟩
  have HCE : Hid (∀ v, Below w.heap.size w v -> Calls Tryz.prog 15 #[.agg #[.int .i64 (K : Int), .int .i64 (R : Int), .int .i64 (m : Int), .int .i64 q], .slice ro (K + R) rc, .int .u8 1, .int .i64 fr] v (AnsC v Q (K + R) m (cH K z (K + R)))) := fun v hv => by
    have := Cells_any h v ro _ rc A L C F (hr.below hv) 1 fr Q (by rw [eK, hz]; unfold erV2; rw [if_pos rfl, Int.toNat_natCast]; exact hQ)
    rw [hz, Int.toNat_natCast, Int.toNat_natCast] at this
    exact this
  unfold AnsC at HCE
  obtain ⟨w0, hw0⟩ : ∃ w0, w0 = w.alloc (.cells #[.int .i64 (K : Int), .int .i64 (R : Int), .int .i64 (m : Int), .int .i64 q] 23) := ⟨_, rfl⟩
  have B0 : Hid (Below w.heap.size w w0) := by show Below _ _ _; rw [hw0]; exact bal _ _
  have HPAR : Hid (∀ v, Below w0.heap.size w0 v -> v.cell? ⟨w.heap.size, 0, none⟩ = some (.int .i64 (K : Int)) /\ v.cell? ⟨w.heap.size, 1, none⟩ = some (.int .i64 (R : Int)) /\ v.cell? ⟨w.heap.size, 2, none⟩ = some (.int .i64 (m : Int)) /\ v.cell? ⟨w.heap.size, 3, none⟩ = some (.int .i64 q)) := fun v hv => par_held hw0 hv
  have HLL : Hid (∀ v, Below w.heap.size w v -> Chl v lo n lc D AA LL CC H) := fun v hv => hl.below hv
  have HRR : Hid (∀ v, Below w.heap.size w v -> Rw v ro (K + R) A L C F) := fun v hv => hr.below hv
  have HP : Hid (Par (K : Int) (R : Int) (m : Int) q (K + R) W 0) := h
  have HL : Hid (∀ j, j < 2 * (K + R) -> L j = 0 \/ L j = sz (K + R) (m : Int)) := hL
  have HT : Hid (tS (yy (K + R) (m : Int) L F) 1 fr (2 * (K + R)) = t /\ zv (K + R) (m : Int) L F 1 fr = z) := ⟨ht, hz⟩
  have HGG : Hid (erG D LL (K : Int) m n = G) := hG
  have HQ : Hid (erL K z (K + R) = Q) := hQ
  clear h hr hL hl ht hz eK hG hQ
  go_enter Tryz.func31, Tryz.ntmps31
  go_wp2_with fail
  rw [<- hw0]
  clear hw0
  refine (HV.out _ B0.out).mono ?_
  rintro e wv ⟨vo, vc, b, rfl, hvo, hvb⟩
  have HVO : Hid (Own w0.heap.size wv vo t.vn vc t.V) := hvo
  have HBV : Hid (Below w0.heap.size w0 wv) := hvb
  obtain ⟨a0, a1, a2, a3⟩ := HPAR.out wv HBV.out
  have BWV := bth B0.out HBV.out
  clear hvo hvb
  by_cases g1 : nu < 0
  · go_wp2_with fail
    go_ret2
    exact .inl ⟨2, by decide, by unfold erPl; rw [if_neg (by omega)], rfl, BWV⟩
  by_cases g2 : q <= nu
  · go_wp2_with fail
    go_ret2
    exact .inl ⟨2, by decide, by unfold erPl; rw [if_neg (by omega)], rfl, BWV⟩
  by_cases g3 : tv <= fr
  · go_wp2_with fail
    go_ret2
    exact .inl ⟨2, by decide, by unfold erPl; rw [if_neg (by omega)], rfl, BWV⟩
  by_cases g4 : 1073741824 < tv
  · go_wp2_with fail
    go_ret2
    exact .inl ⟨2, by decide, by unfold erPl; rw [if_neg (by omega)], rfl, BWV⟩
  have HBW : Hid (Below w.heap.size w wv) := BWV
  clear BWV
  go_wp2_with fail
  refine (HWR.out _ HBW.out).mono ?_
  rintro e wg ⟨rfl, hwg⟩
  have HBG : Hid (Below w0.heap.size w0 wg) := bth HBV.out hwg
  have HVG : Hid (Own w0.heap.size wg vo t.vn vc t.V) := HVO.out.below hwg
  obtain ⟨b0, b1, b2, b3⟩ := HPAR.out wg HBG.out
  clear a0 a1 a2 a3 hwg
  by_cases g5 : ¬ G = 0
  · have e1 : (G != 0) = true := by simp [g5]
    go_wp2_with fail
    go_ret2
    exact .inl ⟨G, g5, by rw [HGG.out]; unfold erPl; rw [if_pos ⟨by omega, by omega, by omega, by omega⟩, if_neg g5], rfl, bth B0.out HBG.out⟩
  obtain rfl : G = 0 := Decidable.not_not.1 g5
  clear g5
  go_wp2_with fail
  refine (HCE.out _ (bth B0.out HBG.out)).mono ?_
  rintro e wc ⟨co, cc, CT, CU, rfl, hcl, hwc⟩
  have HBC : Hid (Below w0.heap.size w0 wc) := bth HBG.out hwc
  have HVC : Hid (Own w0.heap.size wc vo t.vn vc t.V) := HVG.out.below hwc
  clear b0 b1 b2 b3
  by_cases g6 : ¬ Q = 0
  · have e1 : (Q != 0) = true := by simp [g6]
    go_wp2_with fail
    go_ret2
    exact .inl ⟨Q, g6, by rw [HGG.out, HQ.out]; unfold erPl; rw [if_pos ⟨by omega, by omega, by omega, by omega⟩, if_pos rfl], rfl, bth B0.out HBC.out⟩
  obtain rfl : Q = 0 := Decidable.not_not.1 g6
  clear g6
  rw [show lenE 0 (K + R) = K + R from rfl] at *
  have hg := HGG.out
  unfold erG at hg
  by_cases hg1 : ¬ (0 < n /\ gdB D (K : Int) n)
  · rw [if_neg hg1] at hg; exact absurd hg (by decide)
  have hg1 := Classical.not_not.1 hg1
  rw [if_pos hg1] at hg
  by_cases hg2 : ¬ (∀ i, i < n -> LL i = m)
  · rw [if_neg hg2] at hg; exact absurd hg (by decide)
  have hg2 := Classical.not_not.1 hg2
  clear hg
  obtain ⟨hn0, hgd⟩ := hg1
  have hnK := gd_len hgd
  have htt := told_of HT.out.1 (by rw [HT.out.2]; exact HQ.out) hK
  obtain ⟨htc, hvn, hVr⟩ := htt
  have hren : Ren (K + R) t.V (n + R) (Cod.cat n D (fun i => ((K + i : Nat) : Int))) (dq K n D) tv := ⟨fun i hi => by have := hVr i hi; omega, by omega, fun j hj => ⟨dq_D hgd j, (dq_ris (R := R) hgd).lt j hj⟩, by omega, by omega⟩
  obtain ⟨X, hX⟩ : ∃ X, bmp (Cod.cat n D (fun i => ((K + i : Nat) : Int))) tv t.V (n + R) = X := ⟨_, rfl⟩
  have HCH : Hid (∀ v, Below wc.heap.size wc v -> Cls wg.heap.size v co (K + R) cc m CT CU (cH K z (K + R))) := fun v hv => hcl.below hv
  have HLM : Hid (∀ v, Below w.heap.size w v -> Chl v lo n lc D AA (fun _ => m) CC H) := fun v hv => chl_len (HLL.out v hv) hg2
  have BWC : Hid (Below w.heap.size w wc) := bth B0.out HBC.out
  have HPY : Hid (∀ v, Below wc.heap.size wc v -> Calls Tryz.prog 94 #[.agg #[.int .i64 (K : Int), .int .i64 (R : Int), .int .i64 (m : Int), .int .i64 q], .slice co (K + R) cc, .slice lo n lc] v fun e w' => ∃ ao cap T' U', e = .returned (.slice ao R cap) /\ Chl w' ao R cap (fun i => ((K + i : Nat) : Int)) T' (fun _ => m) U' (nwP K n D (cH K z (K + R)) H) /\ Below v.heap.size v w') := fun v hv => by
    refine (parity_any q v _ co cc CT CU _ (HCH.out v hv) lo n lc D AA CC H (HLM.out v (bth BWC.out hv)) hgd hn0 (by omega) hK hK2 hR (by omega) hm2).mono ?_
    rintro e w' ⟨ao, cap, T', U', rfl, h1, h2⟩
    exact ⟨ao, cap, T', U', rfl, h1.chl, h2⟩
  obtain ⟨M, hM⟩ : ∃ M, M = pH K (K + R) n z D H := ⟨_, rfl⟩
  have HCO : Hid (∀ v g xo xc T' U', Below w.heap.size w v -> v.cell? ⟨g, 0, none⟩ = some (.slice lo n lc) -> v.cell? ⟨g, 1, none⟩ = some (.slice xo R xc) -> Chl v xo R xc (fun i => ((K + i : Nat) : Int)) T' (fun _ => m) U' (nwP K n D (cH K z (K + R)) H) -> Calls Tryz.prog 93 #[.slice (some ⟨g, 0, none⟩) 2 2] v fun e w' => ∃ qo qc A' C', e = .returned (.slice qo (n + R) qc) /\ Chl w' qo (n + R) qc (Cod.cat n D (fun i => ((K + i : Nat) : Int))) A' (fun _ => m) C' M /\ Below v.heap.size v w') := fun v g xo xc T' U' hv c0 c1 hx => by
    refine (concatc_any v g lo xo n lc R xc _ _ _ _ _ _ _ _ _ _ c0 c1 (by omega) (by omega) (HLM.out v hv) hx).mono ?_
    rintro e w' ⟨qo, qc, rfl, h1, h2⟩
    refine ⟨qo, qc, Cod.cat n AA T', Cod.cat n CC U', rfl, ?_, h2⟩
    rw [hM]
    exact chl_len h1 fun i _ => by unfold Cod.cat; split <;> rfl
  have HPU : Hid (∀ v qo qc A' C', Below wc.heap.size wc v -> Chl v qo (n + R) qc (Cod.cat n D (fun i => ((K + i : Nat) : Int))) A' (fun _ => m) C' M -> Calls Tryz.prog 92 #[.agg #[.int .i64 (K : Int), .int .i64 (R : Int), .int .i64 (m : Int), .int .i64 q, .slice ro (K + R) rc, .int .i64 nu, .slice vo (K + R) vc, .int .i64 tv], .slice qo (n + R) qc] v fun e w' => ∃ ao cap T U, e = .returned (.slice ao (n + R) cap) /\ PL v.heap.size w' ao (n + R) cap (K + R) (Lw (dq K n D) (n + R)) (ol (K + R) (m : Int) L F t.V) nu (sz (K + R) (m : Int)) T U (fun i => enc (slC 1 (K + R) X m (M (Cod.cnt (Lw (dq K n D) (n + R)) i)) i)) /\ Below v.heap.size v w') := fun v qo qc A' C' hv hq => by
    have hvv := (HVC.out.below hv).vec
    rw [hvn] at hvv
    refine (rputs_any HP.out v ro rc A L C F (HRR.out v (bth BWC.out hv)) HL.out nu tv vo vc t.V hvv qo (n + R) qc _ A' C' M hq (dq K n D) hren X hX).mono ?_
    rintro e w' ⟨ao, cap, T, U, rfl, h1, h2, h3⟩
    have hri := dq_ris (R := R) hgd
    refine ⟨ao, cap, fun i => T (Cod.cnt (Lw (dq K n D) (n + R)) i), fun i => U (Cod.cnt (Lw (dq K n D) (n + R)) i), rfl, ⟨?_, fun i hi hne => ?_⟩, h3⟩
    · rw [ptl_pto hri (D := Cod.cat n D (fun i => ((K + i : Nat) : Int))) (fun j _ => dq_D hgd j), hri.all]; exact h1
    · obtain ⟨k1, k2⟩ := hri.inv hne
      have := h2 _ k1
      rw [k2] at this
      exact this
  obtain ⟨ws, hws⟩ : ∃ ws, ws = wc.alloc (.cells #[.int .i64 (K : Int), .int .i64 (R : Int), .int .i64 (m : Int), .int .i64 q, .slice ro (K + R) rc, .int .i64 nu, .slice vo (K + R) vc, .int .i64 tv] 127) := ⟨_, rfl⟩
  have BCS : Hid (Below wc.heap.size wc ws) := by show Below _ _ _; rw [hws]; exact bal _ _
  obtain ⟨s0, s1, s2, s3, s4, s5, s6, s7⟩ := ren_held hws (Below.refl _ ws)
  obtain ⟨a0, a1, a2, a3⟩ := HPAR.out ws (bth HBC.out BCS.out)
  have HFI : Hid (fr < tv /\ tv <= 1073741824 /\ 0 < n /\ gdB D (K : Int) n /\ (∀ i, i < n -> LL i = m) /\ erL K z (K + R) = 0 /\ (0 <= nu /\ nu < q) /\ t.ce ≠ 0) := ⟨by omega, by omega, hn0, hgd, hg2, HQ.out, ⟨by omega, by omega⟩, htc⟩
  have HFX : Hid (bmp (Cod.cat n D (fun i => ((K + i : Nat) : Int))) tv t.V (n + R) = X /\ M = pH K (K + R) n z D H) := ⟨hX, hM⟩
  have hvn2 := hvn
  clear hcl hg1 hg2 hn0 hgd hren hVr htc hX hM hnK hwc
  rw [hvn]
  clear hvn hvn2
  obtain ⟨p0, p1, p2, p3⟩ := HPAR.out wc HBC.out
  go_wp2_with fail
  rw [<- hws]
  clear hws p0 p1 p2 p3
  go_region_held3 (fun v => v.cell? ⟨w.heap.size, 0, none⟩ = some (.int .i64 (K : Int)) /\ v.cell? ⟨w.heap.size, 1, none⟩ = some (.int .i64 (R : Int)) /\ v.cell? ⟨w.heap.size, 2, none⟩ = some (.int .i64 (m : Int)) /\ v.cell? ⟨w.heap.size, 3, none⟩ = some (.int .i64 q) /\ v.cell? ⟨wc.heap.size, 0, none⟩ = some (.int .i64 (K : Int)) /\ v.cell? ⟨wc.heap.size, 1, none⟩ = some (.int .i64 (R : Int)) /\ v.cell? ⟨wc.heap.size, 2, none⟩ = some (.int .i64 (m : Int)) /\ v.cell? ⟨wc.heap.size, 3, none⟩ = some (.int .i64 q) /\ v.cell? ⟨wc.heap.size, 4, none⟩ = some (.slice ro (K + R) rc) /\ v.cell? ⟨wc.heap.size, 5, none⟩ = some (.int .i64 nu) /\ v.cell? ⟨wc.heap.size, 6, none⟩ = some (.slice vo (K + R) vc) /\ v.cell? ⟨wc.heap.size, 7, none⟩ = some (.int .i64 tv)) (go_keep)
    ((first
      | (go_at_call 94; refine (HPY.out _ (bth BCS.out (bdw _ _))).mono ?_; rintro e wp ⟨xo, xc, T', U', rfl, hxs, hdd⟩
         have HXS : Hid (Chl wp xo R xc (fun i => ((K + i : Nat) : Int)) T' (fun _ => m) U' (nwP K n D (cH K z (K + R)) H)) := hxs
         have HDD : Hid (Below wc.heap.size wc wp) := bth BCS.out (bth (bdw _ _) hdd)
         have f0 := held (w := ws.drew) a0 hdd; have f1 := held (w := ws.drew) a1 hdd; have f2 := held (w := ws.drew) a2 hdd; have f3 := held (w := ws.drew) a3 hdd
         have r0 := held (w := ws.drew) s0 hdd; have r1 := held (w := ws.drew) s1 hdd; have r2 := held (w := ws.drew) s2 hdd; have r3 := held (w := ws.drew) s3 hdd; have r4 := held (w := ws.drew) s4 hdd; have r5 := held (w := ws.drew) s5 hdd; have r6 := held (w := ws.drew) s6 hdd; have r7 := held (w := ws.drew) s7 hdd)
      | (go_at_call 93; refine (HCO.out _ _ xo xc T' U' (bth BWC.out (bth HDD.out (bal _ _))) (blk_held (w := wp) rfl (Below.refl _ _) 0 rfl) (blk_held (w := wp) rfl (Below.refl _ _) 1 rfl) (HXS.out.below (bal _ _))).mono ?_; rintro e wq ⟨qo, qc, A', C', rfl, hq, hqq⟩
         have HQQ : Hid (Chl wq qo (n + R) qc (Cod.cat n D (fun i => ((K + i : Nat) : Int))) A' (fun _ => m) C' M) := hq
         have hpq := bth (bal wp (.cells #[.slice lo n lc, .slice xo R xc] 50)) hqq
         have HDQ : Hid (Below wc.heap.size wc wq) := bth HDD.out hpq
         have u0 := held f0 hpq; have u1 := held f1 hpq; have u2 := held f2 hpq; have u3 := held f3 hpq
         have v0 := held r0 hpq; have v1 := held r1 hpq; have v2 := held r2 hpq; have v3 := held r3 hpq; have v4 := held r4 hpq; have v5 := held r5 hpq; have v6 := held r6 hpq; have v7 := held r7 hpq)
      | (go_at_call 92; refine (HPU.out _ qo qc A' C' HDQ.out HQQ.out).mono ?_; rintro e wf ⟨yo, yc, T2, U2, rfl, hpl, hff⟩
         have y0 := held u0 hff; have y1 := held u1 hff; have y2 := held u2 hff; have y3 := held u3 hff
         have z0 := held v0 hff; have z1 := held v1 hff; have z2 := held v2 hff; have z3 := held v3 hff; have z4 := held v4 hff; have z5 := held v5 hff; have z6 := held v6 hff; have z7 := held v7 hff)))
  have BWQ : Hid (Below w.heap.size w wq) := bth BWC.out HDQ.out
  have HPF : Hid (PL w.heap.size wf yo (n + R) yc (K + R) (Lw (dq K n D) (n + R)) (ol (K + R) (m : Int) L F t.V) nu (sz (K + R) (m : Int)) T2 U2 (fun i => enc (slC 1 (K + R) X m (M (Cod.cnt (Lw (dq K n D) (n + R)) i)) i)) /\ Below w.heap.size w wf) := ⟨hpl.mono BWQ.out.size, bth BWQ.out hff⟩
  clear hpl hff
  go_wp2_with fail
  go_ret2
  obtain ⟨i1, i2, i3, i4, i5, i6, i7, i8⟩ := HFI.out
  exact .inr ⟨i1, i2, i3, i4, i5, i6, i7, i8, yo, yc, T2, U2, rfl, by rw [HFX.out.1, <- HFX.out.2]; exact HPF.out.1, HPF.out.2⟩
end Go.Proofs.YtemlojjkokooeaaGreat
