import Derived.Test.YtemlojjkokooeaaGreatTj33
set_option maxHeartbeats 16000000
set_option maxRecDepth 100000
namespace Go.Proofs.YtemlojjkokooeaaGreat
open Go.RowKit
theorem rdec_ans{k r c q:Int}{N W:Nat}(h:Par k r c q N W 0)(z:Nat->Sl)(hz:Zok N c z)(w:World)(lo:Option Addr)(cl:Nat)(T:Nat->Option Addr)(U:Nat->Nat)(hl:Cod.Lst w lo N T U (Lz z) (Hz z)):
  Calls Tryz.prog 140 #[.int .i64 k,.int .i64 r,.slice lo N cl] w (AnsC w (erL k.toNat z N) N c.toNat (cH k.toNat z N)):=by
 have HD:=Cod.rDecode_any w k r lo N cl T U (Lz z) (Hz z) hl;obtain⟨hc1,hc2⟩:=h.cell rfl;rcases h with ⟨hm,_,hN,_⟩ | ⟨_,_,_,h0⟩
 ·obtain⟨h1,h2,h3,h4,h5,h6,h7,h8,h9⟩:=may_true hm;have hL:∀ i,i<N->Lz z i=0\/Lz z i=c.toNat:=fun i hi=>by
   rcases hz.dn i hi with ⟨_,a⟩ | ⟨_,a⟩
   ·exact .inl a
   ·exact .inr a
  obtain⟨g1,g2⟩:=Cod.okT_of (show c.toNat ≠ 0 by omega) (by omega) hL;have e1:Cod.mayB k r=true:=decide_eq_true (by omega);have e2:Cod.okC N (Lz z) (k+r)=true:=by unfold Cod.okC; rw [g1]; simp; omega
  have e3:k.toNat+r.toNat=N:=by omega
  rw [e1,e2,e3] at HD;unfold AnsC erL;by_cases hk:k.toNat<=Cod.cnt (Lz z) N
  ·have e4:Cod.okDec N (Lz z) k r=true:=by unfold Cod.okDec; rw [e1,e2]; simp; omega
   have e5:Cod.len0 (Lz z) N=c.toNat:=by
    rcases Cod.len0_sel (Lz z) N with ⟨e,_⟩ | ⟨_,_,e⟩
    ·omega
    ·exact g2.resolve_left e
   rw [e4,e5] at HD;rw [if_pos hk];refine HD.mono ?_;rintro e w' ⟨ao,cap,T',U',rfl,hcop,hb⟩;exact⟨ao,cap,T',U',rfl,cls_of hcop,hb⟩
  ·have e4:Cod.okDec N (Lz z) k r=false:=by unfold Cod.okDec; rw [decide_eq_false (by omega)]; simp
   rw [e4] at HD;rw [if_neg hk];refine HD.mono ?_;rintro e w' ⟨ao,cap,T',U',rfl,hcop,hb⟩;have hn:ao=none/\cap=0\/True:=.inr trivial;refine⟨ao,cap,T',U',rfl,⟨hcop.out,fun i hi=>absurd hi (by show ¬ i<0; omega),fun i _ _ _ hi=>absurd hi (by show ¬ i<0; omega)⟩,hb⟩
 ·exact absurd h0 (by decide)
theorem RWhole_any{k r c q:Int}{N W:Nat}(h:Par k r c q N W 0)(w:World)(ro:Option Addr)(rc:Nat)(A:Nat->Option Addr)(L C:Nat->Nat)(F:Nat->Nat->UInt8)(hr:Rw w ro N A L C F)(hL:∀ j,j<2*N->L j=0\/L j=sz N c)(kd:UInt8)(hk:kd=1\/kd=2)(v:Int):
  Calls Tryz.prog 75 #[.agg #[.int .i64 k,.int .i64 r,.int .i64 c,.int .i64 q],.slice ro N rc,.int .u8 ((kd.toNat:Nat):Int),.int .i64 v] w (AnsC w (erL k.toNat (zv N c L F kd v) N) N c.toNat (cH k.toNat (zv N c L F kd v) N)):=by
 obtain⟨hc1,hc2⟩:=h.cell rfl;have hk1:1<=k:=by
  rcases h with ⟨hm,_⟩ | ⟨_,_,_,e⟩
  ·obtain⟨h1,_⟩:=may_true hm; omega
  ·exact absurd e (by decide)
 obtain⟨z,hz⟩:∃ z,z=zv N c L F kd v:=⟨_,rfl⟩
 have hok:Zok N c z:=by rw [hz]; exact zok_of
 have HT:Hid (∀ u,Below w.heap.size w u->Calls Tryz.prog 73 #[.agg #[.int .i64 k,.int .i64 r,.int .i64 c,.int .i64 q],.slice ro N rc,.int .u8 ((kd.toNat:Nat):Int),.int .i64 v] u fun e w'=>∃ T U,e=.returned (.tuple #[.slice (some ⟨u.heap.size+1,0,none⟩) N N,.int .i64 ((ct z N:Nat):Int)])/\Cod.Lst w' (some ⟨u.heap.size+1,0,none⟩) N T U (Lz z) (Hz z)/\Below u.heap.size u w'):=fun u hu=>by
  refine(There_any h u ro rc A L C F (hr.below hu) hL kd hk v).mono ?_;rintro e w' ⟨T,U,rfl,h1,h2,hb⟩;rw [<- hz] at h1 h2 ⊢;exact⟨T,U,rfl,Cod.owns_lst h1 (fun i hi=>rd_toK (h2 i hi).bec.rd),hb⟩
 have HD:Hid (∀ u lo cl T U,Cod.Lst u lo N T U (Lz z) (Hz z)->Calls Tryz.prog 140 #[.int .i64 k,.int .i64 r,.slice lo N cl] u (AnsC u (erL k.toNat z N) N c.toNat (cH k.toNat z N))):=fun u lo cl T U hl=>rdec_ans h z hok u lo cl T U hl;have hE:erL k.toNat z N=if ((ct z N:Nat):Int)<k then 5 else 0:=by
  unfold erL; rw [(cnt_ct hok hc1).1];by_cases a:k.toNat<=ct z N
  ·rw [if_pos a,if_neg (by omega)]
  ·rw [if_neg a,if_pos (by omega)]
 obtain⟨w0,hw0⟩:∃ w0,w0=w.alloc (.cells #[.int .i64 k,.int .i64 r,.int .i64 c,.int .i64 q] 23):=⟨_,rfl⟩
 have B0:Hid (Below w.heap.size w w0):=by show Below _ _ _; rw [hw0]; exact bal _ _
 have L0:Hid (∀ v,Below w0.heap.size w0 v->At w v w.heap.size #[.int .i64 k,.int .i64 r,.int .i64 c,.int .i64 q] 23):=fun v hv=>(at_made (Below.refl _ _) hw0).below hv;rw [<- hz];clear h hr hL hk hz hok;unfold AnsC at HD ⊢;generalize cH k.toNat z N=H at *
 generalize ct z N=m at *
 generalize erL k.toNat z N=E at *
 go_enter Tryz.func75,Tryz.ntmps75
 go_wp2_with fail
 rw [<- hw0];clear hw0;refine(HT.out _ B0.out).mono ?_;rintro e wt ⟨T,U,rfl,hl,hb⟩;have p:=L0.out wt hb;have p0:=p.cell (i:=0) rfl;have p1:=p.cell (i:=1) rfl;have HBT:Hid (Below w.heap.size w wt):=bth B0.out hb;have HLL:Hid (Cod.Lst wt (some ⟨w0.heap.size+1,0,none⟩) N T U (Lz z) (Hz z)):=hl;clear p hl hb;by_cases hlt:(m:Int)<k
 ·rw [if_pos hlt] at hE;subst hE;go_wp2_with fail
  go_ret2;exact⟨none,0,fun _=>none,fun _=>0,rfl,cls_nil _ _ _ _ _ _,HBT.out⟩
 ·rw [if_neg hlt] at hE;subst hE;have hD:=HD.out wt _ N T U HLL.out;clear HD;go_wp2_with fail
  refine hD.mono ?_;rintro e wd ⟨ao',cap',T',U',rfl,hc',hb'⟩;go_wp2_with fail
  go_ret2;exact⟨ao',cap',T',U',rfl,hc'.mono HBT.out.size,bth HBT.out hb'⟩
theorem RData_any{k r c q:Int}{N W:Nat}(h:Par k r c q N W 0)(w:World)(ro:Option Addr)(rc:Nat)(A:Nat->Option Addr)(L C:Nat->Nat)(F:Nat->Nat->UInt8)(hr:Rw w ro N A L C F)(hL:∀ j,j<2*N->L j=0\/L j=sz N c)(kd:UInt8)(hk:kd=1\/kd=2)(v:Int):
  Calls Tryz.prog 77 #[.agg #[.int .i64 k,.int .i64 r,.int .i64 c,.int .i64 q],.slice ro N rc,.int .u8 ((kd.toNat:Nat):Int),.int .i64 v] w (AnsB w (erL k.toNat (zv N c L F kd v) N) (k.toNat*c.toNat) (cat2 c.toNat (cH k.toNat (zv N c L F kd v) N))):=by
 have HC:Hid (∀ u,Below w.heap.size w u->Calls Tryz.prog 75 #[.agg #[.int .i64 k,.int .i64 r,.int .i64 c,.int .i64 q],.slice ro N rc,.int .u8 ((kd.toNat:Nat):Int),.int .i64 v] u (AnsC u (erL k.toNat (zv N c L F kd v) N) N c.toNat (cH k.toNat (zv N c L F kd v) N))):=fun u hu=>RWhole_any h u ro rc A L C F (hr.below hu) hL kd hk v;have hx:1<=k/\k<=N/\N<=16/\8<=c/\c<=64:=by
  have hle:=h.le;obtain⟨c1,c2⟩:=h.cell rfl;rcases h with ⟨hm,_,hN,_⟩ | ⟨_,_,_,h0⟩
  ·obtain⟨h1,h2,h3,h4,h5,h6,h7,h8,h9⟩:=may_true hm;omega
  ·exact absurd h0 (by decide)
 obtain⟨w0,hw0⟩:∃ w0,w0=w.alloc (.cells #[.int .i64 k,.int .i64 r,.int .i64 c,.int .i64 q] 23):=⟨_,rfl⟩
 have B0:Hid (Below w.heap.size w w0):=by show Below _ _ _; rw [hw0]; exact bal _ _
 have L0:Hid (∀ v,Below w0.heap.size w0 v->At w v w.heap.size #[.int .i64 k,.int .i64 r,.int .i64 c,.int .i64 q] 23):=fun v hv=>(at_made (Below.refl _ _) hw0).below hv;generalize cH k.toNat (zv N c L F kd v) N=H at *
 generalize erL k.toNat (zv N c L F kd v) N=E at *
 clear h hr hL hk;unfold AnsC at HC;unfold AnsB;obtain⟨k1,k2,k3,c1,c2⟩:=hx;obtain⟨K,rfl⟩:=Int.eq_ofNat_of_zero_le (show 0<=k by omega);rw [Int.toNat_natCast];obtain⟨m,hm⟩:∃ m,m=c.toNat:=⟨_,rfl⟩
 rw [<- hm] at HC ⊢;have m1:0<m:=by omega
 have m2:m<=64:=by omega
 clear hm;by_cases he:E=0
 ·subst he;have e0:lenE 0 N=N:=if_pos rfl;rw [e0] at HC;rw [show lenE 0 (K*m)=K*m from if_pos rfl];clear e0;have HMU:Hid (∀ i,i<=K->i*m<=1024):=fun i hi=>mul_le16 hi (by omega) m2;have HCS:Hid (∀ i,byF (i*m+m) (cat2 m H)=byF (i*m) (cat2 m H) ++ byF m (H i)):=cat2_succ m m1 H;go_enter Tryz.func77,Tryz.ntmps77
  go_wp2_with fail
  rw [<- hw0];clear hw0;refine(HC.out _ B0.out).mono ?_;rintro e wa ⟨lo,cap,T,U,rfl,hc,ha⟩;have HL:Hid (RdC wa lo K T (fun _=>m) U):=hc.rdc (by omega);have HB:Hid (∀ i,i<K->Bec wa (T i) m (U i) (H i)):=fun i hi=>(hc.row i (by omega)).bec;have HBA:Hid (Below w.heap.size w wa):=bth B0.out ha;have LA:Hid (∀ v,Below wa.heap.size wa v->At w v w.heap.size #[.int .i64 (K:Int),.int .i64 r,.int .i64 c,.int .i64 q] 23):=fun v hv=>L0.out v (bth ha hv);clear hc ha;go_wp2_with fail
  go_loopw [12,13] (fun v x wr=>∃ j:Nat,j<=K/\x=.int .i64 (j:Int)/\∃ s ao c,v=.slice ao s c/\Hid (s=j*m)/\Hid (wr.ownsRow wa.heap.size 5 1 (.slice ao s c) s (byF (j*m) (cat2 m H)))/\Hid (Below wa.heap.size wa wr)) (fun _ x _=>K-(intOf x).toNat)
  case atStart=>exact⟨0,Nat.zero_le _,rfl,0,none,0,rfl,by show _=_; rw [Nat.zero_mul],by rw [Nat.zero_mul]; exact World.ownsRow_nil _ _ _ _,Below.refl _ _⟩
  case round =>
   obtain⟨j,hj,rfl,s,ao,c',rfl,hs,hown,hbel⟩:=hrel;have p0:=(LA.out wr hbel.out).cell (i:=0) rfl;by_cases hlt2:j<K
   ·obtain⟨b,off,rfl,hcc⟩:=HL.out (by omega);have d0:wr.cell? ⟨b,off+j,none⟩=some (.slice (T j) m (U j)):=held (hcc j hlt2) hbel.out;have HBE:Hid (Bec wr (T j) m (U j) (H j)):=(HB.out j hlt2).below hbel.out;have hws:=hbel.out.size;have hsm:s<=1024:=by rw [hs.out]; exact HMU.out j hj
    obtain⟨XS,hXS⟩:∃ X,X=byF (j*m) (cat2 m H):=⟨_,rfl⟩
    have HO:Hid (wr.ownsRow wa.heap.size 5 1 (.slice ao s c') s XS):=by rw [hXS]; exact hown.out
    have HXS:Hid (XS ++ byF m (H j)=byF ((j+1)*m) (cat2 m H)):=by show _=_; rw [hXS,Nat.succ_mul,HCS.out]
    have i1:(0:Int)<=(j:Int):=by omega
    have i2:(j:Int)<(K:Int):=by omega
    have i3:(j:Int)<(N:Int):=by omega
    clear hXS hown hcc;go_wp2_with (at_builtin; refine wpList_append_bytes (by rfl) (.tmp 31) (.tmp 35) (by rfl) wa.heap.size s m c' (U j) ao (T j) XS (H j) (by rfl) (by rfl) HO.out HBE.out (by omega) (by omega) (by omega) ?_; intro ao' c'' w' hown' hgrow')
    have HO2:Hid (w'.ownsRow wa.heap.size 5 1 (.slice ao' (s+m) c'') (s+m) (byF ((j+1)*m) (cat2 m H))):=by rw [<- HXS.out]; exact hown'
    have HB2:Hid (Below wa.heap.size wa w'):=hbel.out.grown hgrow' hws (fun r hr=>(HO.out.lt r hr).1);clear hown' hgrow';go_roundw
    case rel=>exact⟨j+1,by omega,by go_num,s+m,ao',c'',rfl,by show _=_; rw [hs.out,Nat.succ_mul],HO2.out,HB2.out⟩
    case measure=>simp [intOf]; omega
   ·obtain rfl:j=K:=by omega
    have HF:Hid (OwU w.heap.size wr ao s c' (cat2 m H)):=by
     have:=hown.out;rw [<- hs.out] at this;exact OwU.mono this HBA.out.size
    have HS2:Hid (s=j*m):=hs.out;have HBF:Hid (Below w.heap.size w wr):=bth HBA.out hbel.out;clear hown hs hbel;go_wp2_with fail
    go_ret2;rw [<- HS2.out];exact⟨ao,c',rfl,HF.out,HBF.out⟩
 ·have e1:(E != 0)=true:=by simp [he]
  rw [show lenE E (K*m)=0 from if_neg he];rw [show lenE E N=0 from if_neg he] at HC;go_enter Tryz.func77,Tryz.ntmps77
  go_wp2_with fail
  rw [<- hw0];clear hw0;refine(HC.out _ B0.out).mono ?_;rintro e wa ⟨ao,cap,T,U,rfl,hc,ha⟩;go_wp2_with fail
  go_ret2;exact⟨none,0,rfl,owu_nil _ _ _,bth B0.out ha⟩
theorem he_nn{N:Nat}{c ix:Int}{n:Nat}{F:Nat->UInt8}{y:Sl}(h:he 0 N c ix n F=y):0<=y.ce/\(y.ce=0->y=zSl):=by
 have key:∀ z:Sl,z=zSl\/1<=z.ce->0<=(ofI ix z).ce/\((ofI ix z).ce=0->ofI ix z=zSl):=fun z hz=>by
  unfold ofI;by_cases e:z.ix=ix
  ·rw [if_pos e];rcases hz with rfl | hz
   ·exact⟨Int.le_refl _,fun _=>rfl⟩
   ·exact⟨by omega,fun h=>by omega⟩
  ·rw [if_neg e]; exact⟨Int.le_refl _,fun _=>rfl⟩
 rw [<- h];unfold he;rw [if_pos rfl];apply key
 unfold slQ;cases e:isS N c n F
 ·exact .inl rfl
 ·exact .inr (okS_nums (is_true e).2.2.2).1.1
theorem Next_any{k r c q:Int}{N W:Nat}(h:Par k r c q N W 0)(w:World)(a0:Option Addr)(n0 c0:Nat)(F0:Nat->UInt8)(a1:Option Addr)(n1 c1:Nat)(F1:Nat->UInt8)(h0:Bec w a0 n0 c0 F0)(h1:Bec w a1 n1 c1 F1)(l0:n0<=9223372036854775807)(l1:n1<=9223372036854775807)(kd:UInt8)(ix v:Int)(y0 y1:Sl)(hy0:he 0 N c ix n0 F0=y0)(hy1:he 0 N c ix n1 F1=y1):
  Calls Tryz.prog 223 #[.agg #[.int .i64 k,.int .i64 r,.int .i64 c,.int .i64 q],.agg #[.slice a0 n0 c0,.slice a1 n1 c1],.int .u8 ((kd.toNat:Nat):Int),.int .i64 ix,.int .i64 v] w fun e w'=>e=.returned (.int .i64 ((oN y0 y1 kd v:Nat):Int))/\Below w.heap.size w w':=by
 obtain⟨w0,hw0⟩:∃ w0,w0=w.alloc (.cells #[.int .i64 k,.int .i64 r,.int .i64 c,.int .i64 q] 23):=⟨_,rfl⟩
 have bw0:Below w.heap.size w w0:=by rw [hw0]; exact bal _ _
 have zw0:w0.heap.size=w.heap.size+1:=by rw [hw0]; simp
 obtain⟨w1,hw1⟩:∃ w1,w1=w0.alloc (.cells #[.slice a0 n0 c0,.slice a1 n1 c1] 97):=⟨_,rfl⟩
 have bw1:Below w0.heap.size w0 w1:=by rw [hw1]; exact bal _ _
 have zw1:w1.heap.size=w.heap.size+1+1:=by rw [hw1]; simp [zw0]
 have Bw:Hid (Below w.heap.size w w1):=(bth bw0 bw1)
 have Lw0:Hid (∀ v,Below w1.heap.size w1 v->At w v (w.heap.size) #[.int .i64 k,.int .i64 r,.int .i64 c,.int .i64 q] 23):=fun v hv=>by exact(at_made (Below.refl _ _) hw0).below (bth bw1 hv)
 have Lw1:Hid (∀ v,Below w1.heap.size w1 v->At w v (w.heap.size+1) #[.slice a0 n0 c0,.slice a1 n1 c1] 97):=fun v hv=>by rw [<- zw0]; exact(at_made bw0 hw1).below (bth (Below.refl _ _) hv)
 have HH:Hid (∀ u,Below w.heap.size w u->Calls Tryz.prog 137 #[.agg #[.int .i64 k,.int .i64 r,.int .i64 c,.int .i64 q],.agg #[.slice a0 n0 c0,.slice a1 n1 c1],.int .u8 ((kd.toNat:Nat):Int),.int .i64 ix,.int .i64 v] u fun e w'=>e=.returned (.int .i64 (hN y0 y1 kd v))/\Below u.heap.size u w'):=fun u hu=>Holds_any h u a0 n0 c0 F0 a1 n1 c1 F1 (h0.below hu) (h1.below hu) l0 l1 kd ix v y0 y1 hy0 hy1;have t0:=he_nn hy0;have t1:=he_nn hy1;have HO0:Hid (∀ v,Below w.heap.size w v->Calls Tryz.prog 135 #[.agg #[.int .i64 k,.int .i64 r,.int .i64 c,.int .i64 q],.slice a0 n0 c0,.int .i64 ix] v fun e w'=>∃ ao ca bo cb,e=.returned (.tuple #[slv y0 ao ca bo cb,.bool (decide (¬ y0.ce=0))])/\Got v.heap.size w' y0 ao ca bo cb/\Below v.heap.size v w'):=fun v hv=>Of_any h v a0 n0 c0 F0 (h0.below hv) l0 ix y0 hy0;have HO1:Hid (∀ v,Below w.heap.size w v->Calls Tryz.prog 135 #[.agg #[.int .i64 k,.int .i64 r,.int .i64 c,.int .i64 q],.slice a1 n1 c1,.int .i64 ix] v fun e w'=>∃ ao ca bo cb,e=.returned (.tuple #[slv y1 ao ca bo cb,.bool (decide (¬ y1.ce=0))])/\Got v.heap.size w' y1 ao ca bo cb/\Below v.heap.size v w'):=fun v hv=>Of_any h v a1 n1 c1 F1 (h1.below hv) l1 ix y1 hy1;clear h h0 h1 l0 l1 hy0 hy1;unfold slv at HO0 HO1;unfold oN;unfold hN at HH;cases s0:hB y0 kd v
 ·rw [s0] at HH;cases s1:hB y1 kd v
  ·rw [s1] at HH;simp only [Bool.false_eq_true,if_false] at HH ⊢;clear s0 s1;by_cases z0:y0.ce=0
   ·have hd:¬ y1.ce<y0.ce:=by omega
    rw [if_neg hd];rw [decide_eq_false (p:=¬ y0.ce=0) (fun h=>h z0)] at HO0;clear hd z0 t0 t1;go_enter Tryz.func223,Tryz.ntmps223
    go_wp2_with fail
    rw [<- hw0,<- hw1];clear hw0 bw0 zw0 hw1 bw1 zw1;refine(HH.out _ Bw.out).mono ?_;rintro e wa ⟨rfl,ha⟩;have HA:Hid (Below w1.heap.size w1 wa):=ha;clear ha HH;have q0:=Lw0.out wa HA.out;have q1:=Lw1.out wa HA.out;have p0:=q0.cell (i:=0) rfl;have p1:=q0.cell (i:=1) rfl;have p2:=q0.cell (i:=2) rfl;have p3:=q0.cell (i:=3) rfl;have r0:=q1.cell (i:=0) rfl;have r1:=q1.cell (i:=1) rfl;clear q0 q1;go_wp2_with fail
    refine(HO0.out _ (bth Bw.out HA.out)).mono ?_;rintro e wb ⟨aowb,cawb,bowb,cbwb,rfl,_,hwb⟩;have Hwb:Hid (Below w1.heap.size w1 wb):=bth HA.out hwb;clear hwb HO0 p0 p1 p2 p3 r0 r1;go_wp2_with fail
    go_ret;exact⟨rfl,b_alloc (bth Bw.out Hwb.out) _⟩
   ·rw [decide_eq_true (p:=¬ y0.ce=0) z0] at HO0;by_cases z1:y1.ce=0
    ·have hd:y1.ce<y0.ce:=by omega
     rw [if_pos hd];rw [decide_eq_false (p:=¬ y1.ce=0) (fun h=>h z1)] at HO1;clear hd z0 z1 t0 t1;go_enter Tryz.func223,Tryz.ntmps223
     go_wp2_with fail
     rw [<- hw0,<- hw1];clear hw0 bw0 zw0 hw1 bw1 zw1;refine(HH.out _ Bw.out).mono ?_;rintro e wa ⟨rfl,ha⟩;have HA:Hid (Below w1.heap.size w1 wa):=ha;clear ha HH;have q0:=Lw0.out wa HA.out;have q1:=Lw1.out wa HA.out;have p0:=q0.cell (i:=0) rfl;have p1:=q0.cell (i:=1) rfl;have p2:=q0.cell (i:=2) rfl;have p3:=q0.cell (i:=3) rfl;have r0:=q1.cell (i:=0) rfl;have r1:=q1.cell (i:=1) rfl;clear q0 q1;go_wp2_with fail
     refine(HO0.out _ (bth Bw.out HA.out)).mono ?_;rintro e wb ⟨aowb,cawb,bowb,cbwb,rfl,_,hwb⟩;have Hwb:Hid (Below w1.heap.size w1 wb):=bth HA.out hwb;clear hwb HO0 p0 p1 p2 p3 r0 r1;obtain⟨wc,hwc⟩:∃ wc,wc=wb.alloc (.cells #[.int .u8 ((y0.kd.toNat:Nat):Int),.int .i64 y0.ix,.int .i64 y0.ce,.int .i64 y0.st,.slice aowb y0.vn cawb,.slice bowb y0.dn cbwb] 107):=⟨_,rfl⟩
     have HC:Hid (Below w1.heap.size w1 wc):=by show Below _ _ _; rw [hwc]; exact b_alloc Hwb.out _
     have HBK:Hid (At w1 wc wb.heap.size #[.int .u8 ((y0.kd.toNat:Nat):Int),.int .i64 y0.ix,.int .i64 y0.ce,.int .i64 y0.st,.slice aowb y0.vn cawb,.slice bowb y0.dn cbwb] 107):=at_made Hwb.out hwc;have qa:=Lw0.out wb Hwb.out;have qb:=Lw1.out wb Hwb.out;have p0:=fun o=>(qa.alloc o).cell (i:=0) rfl;have p1:=fun o=>(qa.alloc o).cell (i:=1) rfl;have p2:=fun o=>(qa.alloc o).cell (i:=2) rfl;have p3:=fun o=>(qa.alloc o).cell (i:=3) rfl;have r0:=fun o=>(qb.alloc o).cell (i:=0) rfl;have r1:=fun o=>(qb.alloc o).cell (i:=1) rfl;clear qa qb;go_wp2_with fail
     rw [<- hwc];clear hwc;refine(HO1.out _ (bth Bw.out HC.out)).mono ?_;rintro e wd ⟨aowd,cawd,bowd,cbwd,rfl,_,hwd⟩;have Hwd:Hid (Below w1.heap.size w1 wd):=bth HC.out hwd;clear hwd HO1 p0 p1 p2 p3 r0 r1
     skip
     go_wp2_with fail
     go_ret;exact⟨rfl,b_alloc (bth Bw.out Hwd.out) _⟩
    ·rw [decide_eq_true (p:=¬ y1.ce=0) z1] at HO1;by_cases hd:y1.ce<y0.ce
     ·rw [if_pos hd];clear z0 z1 t0 t1;go_enter Tryz.func223,Tryz.ntmps223
      go_wp2_with fail
      rw [<- hw0,<- hw1];clear hw0 bw0 zw0 hw1 bw1 zw1;refine(HH.out _ Bw.out).mono ?_;rintro e wa ⟨rfl,ha⟩;have HA:Hid (Below w1.heap.size w1 wa):=ha;clear ha HH;have q0:=Lw0.out wa HA.out;have q1:=Lw1.out wa HA.out;have p0:=q0.cell (i:=0) rfl;have p1:=q0.cell (i:=1) rfl;have p2:=q0.cell (i:=2) rfl;have p3:=q0.cell (i:=3) rfl;have r0:=q1.cell (i:=0) rfl;have r1:=q1.cell (i:=1) rfl;clear q0 q1;go_wp2_with fail
      refine(HO0.out _ (bth Bw.out HA.out)).mono ?_;rintro e wb ⟨aowb,cawb,bowb,cbwb,rfl,_,hwb⟩;have Hwb:Hid (Below w1.heap.size w1 wb):=bth HA.out hwb;clear hwb HO0 p0 p1 p2 p3 r0 r1;obtain⟨wc,hwc⟩:∃ wc,wc=wb.alloc (.cells #[.int .u8 ((y0.kd.toNat:Nat):Int),.int .i64 y0.ix,.int .i64 y0.ce,.int .i64 y0.st,.slice aowb y0.vn cawb,.slice bowb y0.dn cbwb] 107):=⟨_,rfl⟩
      have HC:Hid (Below w1.heap.size w1 wc):=by show Below _ _ _; rw [hwc]; exact b_alloc Hwb.out _
      have HBK:Hid (At w1 wc wb.heap.size #[.int .u8 ((y0.kd.toNat:Nat):Int),.int .i64 y0.ix,.int .i64 y0.ce,.int .i64 y0.st,.slice aowb y0.vn cawb,.slice bowb y0.dn cbwb] 107):=at_made Hwb.out hwc;have qa:=Lw0.out wb Hwb.out;have qb:=Lw1.out wb Hwb.out;have p0:=fun o=>(qa.alloc o).cell (i:=0) rfl;have p1:=fun o=>(qa.alloc o).cell (i:=1) rfl;have p2:=fun o=>(qa.alloc o).cell (i:=2) rfl;have p3:=fun o=>(qa.alloc o).cell (i:=3) rfl;have r0:=fun o=>(qb.alloc o).cell (i:=0) rfl;have r1:=fun o=>(qb.alloc o).cell (i:=1) rfl;clear qa qb;go_wp2_with fail
      rw [<- hwc];clear hwc;refine(HO1.out _ (bth Bw.out HC.out)).mono ?_;rintro e wd ⟨aowd,cawd,bowd,cbwd,rfl,_,hwd⟩;have HDC:Hid (Below wc.heap.size wc wd):=hwd;have Hwd:Hid (Below w1.heap.size w1 wd):=bth HC.out hwd;clear hwd HO1 p0 p1 p2 p3 r0 r1
      skip
      have m2:=fun o=>((HBK.out.below HDC.out).alloc o).cell (i:=2) rfl;go_wp2_with fail
      go_ret;exact⟨rfl,b_alloc (bth Bw.out Hwd.out) _⟩
     ·rw [if_neg hd];clear z0 z1 t0 t1;go_enter Tryz.func223,Tryz.ntmps223
      go_wp2_with fail
      rw [<- hw0,<- hw1];clear hw0 bw0 zw0 hw1 bw1 zw1;refine(HH.out _ Bw.out).mono ?_;rintro e wa ⟨rfl,ha⟩;have HA:Hid (Below w1.heap.size w1 wa):=ha;clear ha HH;have q0:=Lw0.out wa HA.out;have q1:=Lw1.out wa HA.out;have p0:=q0.cell (i:=0) rfl;have p1:=q0.cell (i:=1) rfl;have p2:=q0.cell (i:=2) rfl;have p3:=q0.cell (i:=3) rfl;have r0:=q1.cell (i:=0) rfl;have r1:=q1.cell (i:=1) rfl;clear q0 q1;go_wp2_with fail
      refine(HO0.out _ (bth Bw.out HA.out)).mono ?_;rintro e wb ⟨aowb,cawb,bowb,cbwb,rfl,_,hwb⟩;have Hwb:Hid (Below w1.heap.size w1 wb):=bth HA.out hwb;clear hwb HO0 p0 p1 p2 p3 r0 r1;obtain⟨wc,hwc⟩:∃ wc,wc=wb.alloc (.cells #[.int .u8 ((y0.kd.toNat:Nat):Int),.int .i64 y0.ix,.int .i64 y0.ce,.int .i64 y0.st,.slice aowb y0.vn cawb,.slice bowb y0.dn cbwb] 107):=⟨_,rfl⟩
      have HC:Hid (Below w1.heap.size w1 wc):=by show Below _ _ _; rw [hwc]; exact b_alloc Hwb.out _
      have HBK:Hid (At w1 wc wb.heap.size #[.int .u8 ((y0.kd.toNat:Nat):Int),.int .i64 y0.ix,.int .i64 y0.ce,.int .i64 y0.st,.slice aowb y0.vn cawb,.slice bowb y0.dn cbwb] 107):=at_made Hwb.out hwc;have qa:=Lw0.out wb Hwb.out;have qb:=Lw1.out wb Hwb.out;have p0:=fun o=>(qa.alloc o).cell (i:=0) rfl;have p1:=fun o=>(qa.alloc o).cell (i:=1) rfl;have p2:=fun o=>(qa.alloc o).cell (i:=2) rfl;have p3:=fun o=>(qa.alloc o).cell (i:=3) rfl;have r0:=fun o=>(qb.alloc o).cell (i:=0) rfl;have r1:=fun o=>(qb.alloc o).cell (i:=1) rfl;clear qa qb;go_wp2_with fail
      rw [<- hwc];clear hwc;refine(HO1.out _ (bth Bw.out HC.out)).mono ?_;rintro e wd ⟨aowd,cawd,bowd,cbwd,rfl,_,hwd⟩;have HDC:Hid (Below wc.heap.size wc wd):=hwd;have Hwd:Hid (Below w1.heap.size w1 wd):=bth HC.out hwd;clear hwd HO1 p0 p1 p2 p3 r0 r1
      skip
      have m2:=fun o=>((HBK.out.below HDC.out).alloc o).cell (i:=2) rfl;go_wp2_with fail
      go_ret;exact⟨rfl,b_alloc (bth Bw.out Hwd.out) _⟩
  ·rw [s1] at HH;simp only [Bool.false_eq_true,if_false,if_true] at HH ⊢;clear s0 s1 t0 t1;go_enter Tryz.func223,Tryz.ntmps223
   go_wp2_with fail
   rw [<- hw0,<- hw1];clear hw0 bw0 zw0 hw1 bw1 zw1;refine(HH.out _ Bw.out).mono ?_;rintro e wa ⟨rfl,ha⟩;have HA:Hid (Below w1.heap.size w1 wa):=ha;clear ha HH;have q0:=Lw0.out wa HA.out;have q1:=Lw1.out wa HA.out;have p0:=q0.cell (i:=0) rfl;have p1:=q0.cell (i:=1) rfl;have p2:=q0.cell (i:=2) rfl;have p3:=q0.cell (i:=3) rfl;have r0:=q1.cell (i:=0) rfl;have r1:=q1.cell (i:=1) rfl;clear q0 q1;go_wp2_with fail
   go_ret;exact⟨rfl,bth Bw.out HA.out⟩
 ·rw [s0] at HH;simp only [if_true] at HH ⊢;clear s0 t0 t1;go_enter Tryz.func223,Tryz.ntmps223
  go_wp2_with fail
  rw [<- hw0,<- hw1];clear hw0 bw0 zw0 hw1 bw1 zw1;refine(HH.out _ Bw.out).mono ?_;rintro e wa ⟨rfl,ha⟩;have HA:Hid (Below w1.heap.size w1 wa):=ha;clear ha HH;have q0:=Lw0.out wa HA.out;have q1:=Lw1.out wa HA.out;have p0:=q0.cell (i:=0) rfl;have p1:=q0.cell (i:=1) rfl;have p2:=q0.cell (i:=2) rfl;have p3:=q0.cell (i:=3) rfl;have r0:=q1.cell (i:=0) rfl;have r1:=q1.cell (i:=1) rfl;clear q0 q1;go_wp2_with fail
  go_ret;exact⟨rfl,bth Bw.out HA.out⟩
end Go.Proofs.YtemlojjkokooeaaGreat
