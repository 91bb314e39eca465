import Derived.Test.YtemlojjkokooeaaGreatTm31
open Go.Value renaming int->J,slice->I,agg->jf
open Go.IntKind renaming i64->O,u8->S
open Go.RowKit renaming Below->Y,Hid->Z
open Go.Proofs.Tryz renaming prog->P
open Option renaming none->R,some->jc
open Go.Ending renaming returned->f
open Go.RowKit.Below renaming refl->l
open Go renaming Calls->ja,Addr->jd,World->je
open Go.Obj renaming cells->jb
open Nat renaming zero_le->jg
open Go.Operand renaming tmp->jh
set_option maxHeartbeats 16000000
set_option maxRecDepth 100000
namespace Go.Proofs.YtemlojjkokooeaaGreat
open Go.RowKit
theorem vg{k r c q:Int}{N W:Nat}(h:Par k r c q N W 0)(z:Nat->Sl)(hz:Zok N c z)(w:je)(lo:Option jd)(cl:Nat)(T:Nat->Option jd)(U:Nat->Nat)(hl:Cod.Lst w lo N T U (Lz z) (Hz z)):
  ja P 140 #[J O k,J O r,I lo N cl] w (cV w (erL k.toNat z N) N c.toNat (cH k.toNat z N)):=by
 have HD:=Cod.rDecode_any w k r lo N cl T U (Lz z) (Hz z) hl;obtain⟨k9,xX⟩:=h.cell rfl;rcases h with ⟨hm,_,hN,_⟩ | ⟨_,_,_,h0⟩
 ·obtain⟨h1,h2,h3,h4,h5,h6,h7,h8,h9⟩:=aB hm;have hL:∀ i,i<N->Lz z i=0\/Lz z i=c.toNat:=fun i hi=>by
   rcases hz.dn i hi with ⟨_,a⟩ | ⟨_,a⟩
   ·exact .inl a
   ·exact .inr a
  obtain⟨g1,g2⟩:=Cod.okT_of (show c.toNat ≠ 0 by omega) za hL;have e1:Cod.mayB k r=true:=zm za;have e2:Cod.okC N (Lz z) (k+r)=true:=by unfold Cod.okC;rw [g1];simp;omega
  have e3:k.toNat+r.toNat=N:=za;rw [e1,e2,e3] at HD;unfold cV erL;by_cases hk:k.toNat<=Cod.cnt (Lz z) N
  ·have e4:Cod.okDec N (Lz z) k r=true:=by unfold Cod.okDec;rw [e1,e2];simp;omega
   have e5:Cod.len0 (Lz z) N=c.toNat:=by
    rcases Cod.len0_sel (Lz z) N with ⟨e,_⟩ | ⟨_,_,e⟩
    ·omega
    ·exact g2.resolve_left e
   rw [e4,e5] at HD;rw [zk hk];refine HD.mono ?_;rintro e w' ⟨ao,b8,T',U',rfl,jY,hb⟩;exact⟨ao,b8,T',U',rfl,AQ jY,hb⟩
  ·have e4:Cod.okDec N (Lz z) k r=false:=by unfold Cod.okDec;rw [zp za];simp
   rw [e4] at HD;rw [zl hk];refine HD.mono ?_;rintro e w' ⟨ao,b8,T',U',rfl,jY,hb⟩;have hn:ao=R/\b8=0\/True:=.inr trivial;refine⟨ao,b8,T',U',rfl,⟨jY.out,fun i hi=>absurd hi (by show ¬ i<0;omega),fun i _ _ _ hi=>absurd hi (by show ¬ i<0;omega)⟩,hb⟩
 ·exact absurd h0 zb
theorem gT{k r c q:Int}{N W:Nat}(h:Par k r c q N W 0)(w:je)(ro:Option jd)(rc:Nat)(A:Nat->Option jd)(L C:Nat->Nat)(F:Nat->Nat->UInt8)(hr:Rw w ro N A L C F)(hL:∀ j,j<2*N->L j=0\/L j=sz N c)(kd:UInt8)(hk:kd=1\/kd=2)(v:Int):
  ja P 75 #[Pz k r c q,I ro N rc,J S ((kd.toNat:Nat):Int),J O v] w (cV w (erL k.toNat (zv N c L F kd v) N) N c.toNat (cH k.toNat (zv N c L F kd v) N)):=by
 obtain⟨k9,xX⟩:=h.cell rfl;have kD:1<=k:=by
  rcases h with ⟨hm,_⟩ | ⟨_,_,_,e⟩
  ·obtain⟨h1,_⟩:=aB hm;omega
  ·exact absurd e zb
 obtain⟨z,hz⟩:=fd (zv N c L F kd v)
 have hok:Zok N c z:=by rw [hz];exact rH
 have HT:Z (∀ u,b7 w u->ja P 73 #[Pz k r c q,I ro N rc,J S ((kd.toNat:Nat):Int),J O v] u fun e w'=>∃ T U,e=f (.tuple #[I (jc ⟨u.heap.size+1,0,R⟩) N N,J O ((ct z N:Nat):Int)])/\Cod.Lst w' (jc ⟨u.heap.size+1,0,R⟩) N T U (Lz z) (Hz z)/\b7 u w'):=fun u hu=>by
  refine(mc h u ro rc A L C F (hr.below hu) hL kd hk v).mono ?_;rintro e w' ⟨T,U,rfl,h1,h2,hb⟩;rw [<- hz] at h1 h2 ⊢;exact⟨T,U,rfl,Cod.owns_lst h1 (fun i hi=>mD (h2 i hi).bec.rd),hb⟩
 have HD:=am fun u lo cl T U (hl:Cod.Lst u lo N T U (Lz z) (Hz z))=>vg h z hok u lo cl T U hl;have hE:erL k.toNat z N=if ((ct z N:Nat):Int)<k then 5 else 0:=by
  unfold erL;rw [(AZ hok k9).1];by_cases a:k.toNat<=ct z N
  ·rw [zk a,zl za]
  ·rw [zl a,zk za]
 obtain⟨w0,bi⟩:=jM w k r c q
 have B0:Z (b7 w w0):=by show Y _ _ _;rw [bi];exact bal _ _
 have L0:=am fun v (hv:b7 w0 v)=>(ah (l _ _) bi).below hv;rw [<- hz];clear h hr hL hk hz hok;unfold cV at HD ⊢;generalize cH k.toNat z N=H at *
 generalize ct z N=m at *
 generalize erL k.toNat z N=E at *
 go_enter Tryz.func75,Tryz.ntmps75
 go_wp2_with fail
 rw [<- bi];clear bi;refine(HT.out _ B0.out).mono ?_;rintro e wt ⟨T,U,rfl,hl,hb⟩;have p:=L0.out wt hb;have p0:=p.cz 0;have p1:=p.cz 1;have GO:=am (ap B0.out hb);have EB:=am hl;clear p hl hb;by_cases hlt:(m:Int)<k
 ·rw [zk hlt] at hE;subst hE;go_wp2_with fail
  go_ret2;exact⟨R,0,fun _=>R,fun _=>0,rfl,sm _ _ _ _ _ _,GO.out⟩
 ·rw [zl hlt] at hE;subst hE;have hD:=HD.out wt _ N T U EB.out;clear HD;go_wp2_with fail
  refine hD.mono ?_;rintro e wd ⟨g6,jy,T',U',rfl,hc',j8⟩;go_wp2_with fail
  go_ret2;exact⟨g6,jy,T',U',rfl,hc'.mono GO.out.size,ap GO.out j8⟩
theorem uM{k r c q:Int}{N W:Nat}(h:Par k r c q N W 0)(w:je)(ro:Option jd)(rc:Nat)(A:Nat->Option jd)(L C:Nat->Nat)(F:Nat->Nat->UInt8)(hr:Rw w ro N A L C F)(hL:∀ j,j<2*N->L j=0\/L j=sz N c)(kd:UInt8)(hk:kd=1\/kd=2)(v:Int):
  ja P 77 #[Pz k r c q,I ro N rc,J S ((kd.toNat:Nat):Int),J O v] w (AnsB w (erL k.toNat (zv N c L F kd v) N) (k.toNat*c.toNat) (dI c.toNat (cH k.toNat (zv N c L F kd v) N))):=by
 have HC:=am fun u (hu:b7 w u)=>gT h u ro rc A L C F (hr.below hu) hL kd hk v;have hx:1<=k/\k<=N/\N<=16/\8<=c/\c<=64:=by
  have qe:=h.le;obtain⟨c1,c2⟩:=h.cell rfl;rcases h with ⟨hm,_,hN,_⟩ | ⟨_,_,_,h0⟩
  ·obtain⟨h1,h2,h3,h4,h5,h6,h7,h8,h9⟩:=aB hm;omega
  ·exact absurd h0 zb
 obtain⟨w0,bi⟩:=jM w k r c q
 have B0:Z (b7 w w0):=by show Y _ _ _;rw [bi];exact bal _ _
 have L0:=am fun v (hv:b7 w0 v)=>(ah (l _ _) bi).below hv;generalize cH k.toNat (zv N c L F kd v) N=H at *
 generalize erL k.toNat (zv N c L F kd v) N=E at *
 clear h hr hL hk;unfold cV at HC;unfold AnsB;obtain⟨k1,k2,k3,c1,c2⟩:=hx;obtain⟨K,rfl⟩:=Int.eq_ofNat_of_zero_le (show 0<=k by omega);rw [Int.toNat_natCast];obtain⟨m,hm⟩:=fd (c.toNat)
 rw [<- hm] at HC ⊢;have m1:0<m:=za;have m2:m<=64:=za;clear hm;by_cases he:E=0
 ·subst he;have e0:aK 0 N=N:=zk rfl;rw [e0] at HC;rw [show aK 0 (K*m)=K*m from zk rfl];clear e0;have Ja:=am fun i (hi:i<=K)=>fC hi za m2;have Mr:=am (mq m m1 H);go_enter Tryz.func77,Tryz.ntmps77
  go_wp2_with fail
  rw [<- bi];clear bi;refine(HC.out _ B0.out).mono ?_;rintro e wa ⟨lo,b8,T,U,rfl,hc,ha⟩;have HL:Z (RdC wa lo K T (fun _=>m) U):=hc.rdc za;have HB:=am fun i (hi:i<K)=>(hc.row i za).bec;have yN:=am (ap B0.out ha);have LA:=am fun v (hv:b7 wa v)=>L0.out v (ap ha hv);clear hc ha;go_wp2_with fail
  go_loopw [12,13] (fun v x wr=>∃ j:Nat,j<=K/\x=J O (j:Int)/\∃ s ao c,v=I ao s c/\Z (s=j*m)/\Z (wr.ownsRow wa.heap.size 5 1 (I ao s c) s (byF (j*m) (dI m H)))/\Z (b7 wa wr)) (fun _ x _=>K-(intOf x).toNat)
  case atStart=>exact⟨0,jg _,rfl,0,R,0,rfl,by show _=_;rw [Nat.zero_mul],by rw [Nat.zero_mul];exact World.ownsRow_nil _ _ _ _,l _ _⟩
  case round =>
   obtain⟨j,hj,rfl,s,ao,c',rfl,hs,em,d8⟩:=hrel;have p0:=(LA.out wr d8.out).cz 0;by_cases hlt2:j<K
   ·obtain⟨b,off,rfl,jI⟩:=HL.out za;have d0:wr.cell? ⟨b,off+j,R⟩=jc (I (T j) m (U j)):=held (jI j hlt2) d8.out;have A7:Z (Bec wr (T j) m (U j) (H j)):=(HB.out j hlt2).below d8.out;have qA:=d8.out.size;have Ws:s<=1024:=by rw [hs.out];exact Ja.out j hj
    obtain⟨XS,kh⟩:∃ X,X=byF (j*m) (dI m H):=⟨_,rfl⟩
    have HO:Z (wr.ownsRow wa.heap.size 5 1 (I ao s c') s XS):=by rw [kh];exact em.out
    have o7:Z (XS ++ byF m (H j)=byF ((j+1)*m) (dI m H)):=by show _=_;rw [kh,Nat.succ_mul,Mr.out]
    have i1:(0:Int)<=(j:Int):=za;have i2:(j:Int)<(K:Int):=za;have i3:(j:Int)<(N:Int):=za;clear kh em jI;go_wp2_with (at_builtin;refine au zg (jh 31) (jh 35) zg wa.heap.size s m c' (U j) ao (T j) XS (H j) zg zg HO.out A7.out za za za ?_;intro g6 To w' qd yl)
    have kH:Z (w'.ownsRow wa.heap.size 5 1 (I g6 (s+m) To) (s+m) (byF ((j+1)*m) (dI m H))):=by rw [<- o7.out];exact qd
    have jv:=am (d8.out.grown yl qA (fun r hr=>(HO.out.lt r hr).1));clear qd yl;go_roundw
    case rel=>exact⟨j+1,za,by go_num,s+m,g6,To,rfl,by show _=_;rw [hs.out,Nat.succ_mul],kH.out,jv.out⟩
    case measure=>simp [intOf];omega
   ·obtain rfl:j=K:=za;have HF:Z (OwU w.heap.size wr ao s c' (dI m H)):=by
     have:=em.out;rw [<- hs.out] at this;exact OwU.mono this yN.out.size
    have n7:=am (hs.out);have zI:=am (ap yN.out d8.out);clear em hs d8;go_wp2_with fail
    go_ret2;rw [<- n7.out];exact⟨ao,c',rfl,HF.out,zI.out⟩
 ·have e1:(E != 0)=true:=by simp [he]
  rw [show aK E (K*m)=0 from zl he];rw [show aK E N=0 from zl he] at HC;go_enter Tryz.func77,Tryz.ntmps77
  go_wp2_with fail
  rw [<- bi];clear bi;refine(HC.out _ B0.out).mono ?_;rintro e wa ⟨ao,b8,T,U,rfl,hc,ha⟩;go_wp2_with fail
  go_ret2;exact⟨R,0,rfl,cE _ _ _,ap B0.out ha⟩
theorem Dz{N:Nat}{c ix:Int}{n:Nat}{F:Nat->UInt8}{y:Sl}(h:he 0 N c ix n F=y):0<=y.ce/\(y.ce=0->y=zSl):=by
 have key:∀ z:Sl,z=zSl\/1<=z.ce->0<=(ofI ix z).ce/\((ofI ix z).ce=0->ofI ix z=zSl):=fun z hz=>by
  unfold ofI;by_cases e:z.ix=ix
  ·rw [zk e];rcases hz with rfl | hz
   ·exact⟨Int.le_refl _,fun _=>rfl⟩
   ·exact⟨za,fun h=>by omega⟩
  ·rw [zl e];exact⟨Int.le_refl _,fun _=>rfl⟩
 rw [<- h];unfold he;rw [zk rfl];apply key
 unfold slQ;cases e:isS N c n F
 ·exact .inl rfl
 ·exact .inr (dx (eH e).2.2.2).1.1
theorem wN{k r c q:Int}{N W:Nat}(h:Par k r c q N W 0)(w:je)(a0:Option jd)(n0 c0:Nat)(F0:Nat->UInt8)(a1:Option jd)(n1 c1:Nat)(F1:Nat->UInt8)(h0:Bec w a0 n0 c0 F0)(h1:Bec w a1 n1 c1 F1)(l0:n0<=9223372036854775807)(l1:n1<=9223372036854775807)(kd:UInt8)(ix v:Int)(y0 y1:Sl)(qK:he 0 N c ix n0 F0=y0)(kL:he 0 N c ix n1 F1=y1):
  ja P 223 #[Pz k r c q,jf #[I a0 n0 c0,I a1 n1 c1],J S ((kd.toNat:Nat):Int),J O ix,J O v] w fun e w'=>e=f (J O ((oN y0 y1 kd v:Nat):Int))/\b7 w w':=by
 obtain⟨w0,bi⟩:=jM w k r c q
 have jW:=jt bi
 have j7:=ks bi
 obtain⟨w1,ci⟩:=fd (w0.alloc (jb #[I a0 n0 c0,I a1 n1 c1] 97))
 have jX:=jt ci
 have kc:w1.heap.size=w.heap.size+1+1:=by rw [ci];simp [j7]
 have Bw:Z (b7 w w1):=(ap jW jX)
 have kF:Z (∀ v,b7 w1 v->At w v (w.heap.size) #[J O k,J O r,J O c,J O q] 23):=fun v hv=>by exact(ah (l _ _) bi).below (ap jX hv)
 have kV:Z (∀ v,b7 w1 v->At w v (w.heap.size+1) #[I a0 n0 c0,I a1 n1 c1] 97):=fun v hv=>by rw [<- j7];exact(ah jW ci).below (ap (l _ _) hv)
 have HH:=am fun u (hu:b7 w u)=>lX h u a0 n0 c0 F0 a1 n1 c1 F1 (h0.below hu) (h1.below hu) l0 l1 kd ix v y0 y1 qK kL;have t0:=Dz qK;have t1:=Dz kL;have Fd:=am fun v (hv:b7 w v)=>fg h v a0 n0 c0 F0 (h0.below hv) l0 ix y0 qK;have qi:=am fun v (hv:b7 w v)=>fg h v a1 n1 c1 F1 (h1.below hv) l1 ix y1 kL;clear h h0 h1 l0 l1 qK kL;unfold slv at Fd qi;unfold oN;unfold hN at HH;cases s0:hB y0 kd v
 ·rw [s0] at HH;cases s1:hB y1 kd v
  ·rw [s1] at HH;simp only [Bool.false_eq_true,if_false] at HH ⊢;clear s0 s1;by_cases z0:y0.ce=0
   ·have hd:¬ y1.ce<y0.ce:=za;rw [zl hd];rw [zp (p:=¬ y0.ce=0) (fun h=>h z0)] at Fd;clear hd z0 t0 t1;go_enter Tryz.func223,Tryz.ntmps223
    go_wp2_with fail
    rw [<- bi,<- ci];clear bi jW j7 ci jX kc;refine(HH.out _ Bw.out).mono ?_;rintro e wa ⟨rfl,ha⟩;have HA:=am ha;clear ha HH;have q0:=kF.out wa HA.out;have q1:=kV.out wa HA.out;have p0:=q0.cz 0;have p1:=q0.cz 1;have p2:=q0.cz 2;have p3:=q0.cz 3;have r0:=q1.cz 0;have r1:=q1.cz 1;clear q0 q1;go_wp2_with fail
    refine(Fd.out _ (ap Bw.out HA.out)).mono ?_;rintro e wb ⟨FD,FE,FF,FG,rfl,_,jD⟩;have C7:=am (ap HA.out jD);clear jD Fd p0 p1 p2 p3 r0 r1;go_wp2_with fail
    go_ret;exact⟨rfl,aa (ap Bw.out C7.out) _⟩
   ·rw [zm (p:=¬ y0.ce=0) z0] at Fd;by_cases z1:y1.ce=0
    ·have hd:y1.ce<y0.ce:=za;rw [zk hd];rw [zp (p:=¬ y1.ce=0) (fun h=>h z1)] at qi;clear hd z0 z1 t0 t1;go_enter Tryz.func223,Tryz.ntmps223
     go_wp2_with fail
     rw [<- bi,<- ci];clear bi jW j7 ci jX kc;refine(HH.out _ Bw.out).mono ?_;rintro e wa ⟨rfl,ha⟩;have HA:=am ha;clear ha HH;have q0:=kF.out wa HA.out;have q1:=kV.out wa HA.out;have p0:=q0.cz 0;have p1:=q0.cz 1;have p2:=q0.cz 2;have p3:=q0.cz 3;have r0:=q1.cz 0;have r1:=q1.cz 1;clear q0 q1;go_wp2_with fail
     refine(Fd.out _ (ap Bw.out HA.out)).mono ?_;rintro e wb ⟨FD,FE,FF,FG,rfl,_,jD⟩;have C7:=am (ap HA.out jD);clear jD Fd p0 p1 p2 p3 r0 r1;obtain⟨wc,qJ⟩:=fd (wb.alloc (jb #[J S ((y0.kd.toNat:Nat):Int),J O y0.ix,J O y0.ce,J O y0.st,I FD y0.vn FE,I FF y0.dn FG] 107))
     have HC:Z (b7 w1 wc):=by show Y _ _ _;rw [qJ];exact aa C7.out _
     have qE:=am (ah C7.out qJ);have qa:=kF.out wb C7.out;have qb:=kV.out wb C7.out;have p0:=fun o=>(qa.alloc o).cz 0;have p1:=fun o=>(qa.alloc o).cz 1;have p2:=fun o=>(qa.alloc o).cz 2;have p3:=fun o=>(qa.alloc o).cz 3;have r0:=fun o=>(qb.alloc o).cz 0;have r1:=fun o=>(qb.alloc o).cz 1;clear qa qb;go_wp2_with fail
     rw [<- qJ];clear qJ;refine(qi.out _ (ap Bw.out HC.out)).mono ?_;rintro e wd ⟨MT,MU,MV,MW,rfl,_,jN⟩;have MX:=am (ap HC.out jN);clear jN qi p0 p1 p2 p3 r0 r1
     skip
     go_wp2_with fail
     go_ret;exact⟨rfl,aa (ap Bw.out MX.out) _⟩
    ·rw [zm (p:=¬ y1.ce=0) z1] at qi;by_cases hd:y1.ce<y0.ce
     ·rw [zk hd];clear z0 z1 t0 t1;go_enter Tryz.func223,Tryz.ntmps223
      go_wp2_with fail
      rw [<- bi,<- ci];clear bi jW j7 ci jX kc;refine(HH.out _ Bw.out).mono ?_;rintro e wa ⟨rfl,ha⟩;have HA:=am ha;clear ha HH;have q0:=kF.out wa HA.out;have q1:=kV.out wa HA.out;have p0:=q0.cz 0;have p1:=q0.cz 1;have p2:=q0.cz 2;have p3:=q0.cz 3;have r0:=q1.cz 0;have r1:=q1.cz 1;clear q0 q1;go_wp2_with fail
      refine(Fd.out _ (ap Bw.out HA.out)).mono ?_;rintro e wb ⟨FD,FE,FF,FG,rfl,_,jD⟩;have C7:=am (ap HA.out jD);clear jD Fd p0 p1 p2 p3 r0 r1;obtain⟨wc,qJ⟩:=fd (wb.alloc (jb #[J S ((y0.kd.toNat:Nat):Int),J O y0.ix,J O y0.ce,J O y0.st,I FD y0.vn FE,I FF y0.dn FG] 107))
      have HC:Z (b7 w1 wc):=by show Y _ _ _;rw [qJ];exact aa C7.out _
      have qE:=am (ah C7.out qJ);have qa:=kF.out wb C7.out;have qb:=kV.out wb C7.out;have p0:=fun o=>(qa.alloc o).cz 0;have p1:=fun o=>(qa.alloc o).cz 1;have p2:=fun o=>(qa.alloc o).cz 2;have p3:=fun o=>(qa.alloc o).cz 3;have r0:=fun o=>(qb.alloc o).cz 0;have r1:=fun o=>(qb.alloc o).cz 1;clear qa qb;go_wp2_with fail
      rw [<- qJ];clear qJ;refine(qi.out _ (ap Bw.out HC.out)).mono ?_;rintro e wd ⟨MT,MU,MV,MW,rfl,_,jN⟩;have QJ:=am jN;have MX:=am (ap HC.out jN);clear jN qi p0 p1 p2 p3 r0 r1
      skip
      have m2:=fun o=>((qE.out.below QJ.out).alloc o).cz 2;go_wp2_with fail
      go_ret;exact⟨rfl,aa (ap Bw.out MX.out) _⟩
     ·rw [zl hd];clear z0 z1 t0 t1;go_enter Tryz.func223,Tryz.ntmps223
      go_wp2_with fail
      rw [<- bi,<- ci];clear bi jW j7 ci jX kc;refine(HH.out _ Bw.out).mono ?_;rintro e wa ⟨rfl,ha⟩;have HA:=am ha;clear ha HH;have q0:=kF.out wa HA.out;have q1:=kV.out wa HA.out;have p0:=q0.cz 0;have p1:=q0.cz 1;have p2:=q0.cz 2;have p3:=q0.cz 3;have r0:=q1.cz 0;have r1:=q1.cz 1;clear q0 q1;go_wp2_with fail
      refine(Fd.out _ (ap Bw.out HA.out)).mono ?_;rintro e wb ⟨FD,FE,FF,FG,rfl,_,jD⟩;have C7:=am (ap HA.out jD);clear jD Fd p0 p1 p2 p3 r0 r1;obtain⟨wc,qJ⟩:=fd (wb.alloc (jb #[J S ((y0.kd.toNat:Nat):Int),J O y0.ix,J O y0.ce,J O y0.st,I FD y0.vn FE,I FF y0.dn FG] 107))
      have HC:Z (b7 w1 wc):=by show Y _ _ _;rw [qJ];exact aa C7.out _
      have qE:=am (ah C7.out qJ);have qa:=kF.out wb C7.out;have qb:=kV.out wb C7.out;have p0:=fun o=>(qa.alloc o).cz 0;have p1:=fun o=>(qa.alloc o).cz 1;have p2:=fun o=>(qa.alloc o).cz 2;have p3:=fun o=>(qa.alloc o).cz 3;have r0:=fun o=>(qb.alloc o).cz 0;have r1:=fun o=>(qb.alloc o).cz 1;clear qa qb;go_wp2_with fail
      rw [<- qJ];clear qJ;refine(qi.out _ (ap Bw.out HC.out)).mono ?_;rintro e wd ⟨MT,MU,MV,MW,rfl,_,jN⟩;have QJ:=am jN;have MX:=am (ap HC.out jN);clear jN qi p0 p1 p2 p3 r0 r1
      skip
      have m2:=fun o=>((qE.out.below QJ.out).alloc o).cz 2;go_wp2_with fail
      go_ret;exact⟨rfl,aa (ap Bw.out MX.out) _⟩
  ·rw [s1] at HH;simp only [Bool.false_eq_true,if_false,if_true] at HH ⊢;clear s0 s1 t0 t1;go_enter Tryz.func223,Tryz.ntmps223
   go_wp2_with fail
   rw [<- bi,<- ci];clear bi jW j7 ci jX kc;refine(HH.out _ Bw.out).mono ?_;rintro e wa ⟨rfl,ha⟩;have HA:=am ha;clear ha HH;have q0:=kF.out wa HA.out;have q1:=kV.out wa HA.out;have p0:=q0.cz 0;have p1:=q0.cz 1;have p2:=q0.cz 2;have p3:=q0.cz 3;have r0:=q1.cz 0;have r1:=q1.cz 1;clear q0 q1;go_wp2_with fail
   go_ret;exact⟨rfl,ap Bw.out HA.out⟩
 ·rw [s0] at HH;simp only [if_true] at HH ⊢;clear s0 t0 t1;go_enter Tryz.func223,Tryz.ntmps223
  go_wp2_with fail
  rw [<- bi,<- ci];clear bi jW j7 ci jX kc;refine(HH.out _ Bw.out).mono ?_;rintro e wa ⟨rfl,ha⟩;have HA:=am ha;clear ha HH;have q0:=kF.out wa HA.out;have q1:=kV.out wa HA.out;have p0:=q0.cz 0;have p1:=q0.cz 1;have p2:=q0.cz 2;have p3:=q0.cz 3;have r0:=q1.cz 0;have r1:=q1.cz 1;clear q0 q1;go_wp2_with fail
  go_ret;exact⟨rfl,ap Bw.out HA.out⟩
theorem fw{w:je}{pm:Array Oper}{kg:List Oper}{o:Oper}{a:Act}{Q:Exit->Act->je->Prop}(qN:o.guard=R)(s x:Operand)
  (ho:o.op=.call { callee:=.builtin .append,args:=#[s,x],argTypes:=#[36,36]}) (B k n ca cb:Nat) (ao bo:Option jd) (F G:Nat->UInt8)
  (hs:a.eval s=I ao k ca) (hx:a.eval x=I bo n cb) (h:OwU B w ao k ca F) (hv:Bec w bo n cb G) (hk:k+n<=140737488355328) (hB:B<=w.heap.size)
  (kP:∀ g6 c' w',OwU B w' g6 (k+n) c' (upR F k n G)->w.grownBy w' (Value.slice ao k ca).ownBlock->wpList P pm Q kg (a.put o.dst (I g6 (k+n) c')) w'):wpList P pm Q (o :: kg) a w:=by
 obtain⟨j0,hj,kE,kB,kt⟩:=info_parts bU;have hl:byF k F ++ byF n G=byF (k+n) (upR F k n G):=by
  rw [gR,bB (F:=upR F k n G) (G:=F) (fun i hi=>aw za),bB (F:=fun i=>upR F k n G (k+i)) (G:=G) (fun i hi=>by rw [aE za,show k+i-k=i by omega])]
 cases bo with
 | none =>
  obtain⟨rfl,rfl⟩:=hv.nil rfl;have:=kP ao ca w (by refine OwU.congr h fun i hi=>(aw za).symm) ⟨rfl,rfl,rfl,Nat.le_refl _,fun _ _ _=>rfl⟩;exact wpList_append_own_none qN s x 36 ho B 5 j0 1 Tryz.underlying36 hj (I ao k ca) k (byF k F) hs h hx this
 | some ad =>
  refine wpList_append_own w qN s x 36 ho B 5 j0 (J S 0) 1 1 Tryz.underlying36 hj kE kB kt rfl zb (I ao k ca) k (byF k F) hs h ad n cb (byF n G) hx (by rw [ai,Nat.mul_one]) (dF hv) (dU _ _) (by unfold maxLen;omega) za hB ?_;intro v' w' h1 h2 _;obtain⟨g6,c',rfl⟩:∃ g6 c',v'=I g6 (k+n) c':=by
   rcases h1.2 with ⟨rfl,e⟩ | ⟨g,b8,jw,rfl,_⟩
   ·rw [e];exact⟨R,0,rfl⟩
   ·exact⟨_,b8,rfl⟩
  rw [hl] at h1;exact kP g6 c' w' h1 h2
theorem lk(w:je)(B:Nat)(ao:Option jd)(k ca m:Nat)(F:Nat->UInt8)(h:OwU B w ao k ca F)(hB:B<=w.heap.size)(hk:k<=1000)(hm:m<=1073741824):
  ja P 296 #[I ao k ca,J O (m:Int)] w fun e w'=>∃ g b8,e=f (I (jc ⟨g,0,R⟩) (k+4) b8)/\OwU B w' (jc ⟨g,0,R⟩) (k+4) b8 (upR F k 4 (fun i=>dg m (3-i)))/\Y B w w':=by
 obtain⟨i0,hi,hz0,yb,yP⟩:=info_parts bU;have HO:Z (∀ o,(w.alloc o).ownsRow B 5 1 (I ao k ca) k (byF k F)):=fun o=>h.below (bal w o);have HG:=am fun g (hg:(Value.slice ao k ca).ownBlock=jc g)=>(World.ownsRow.lt h g hg).1;obtain⟨⟨d3,d2⟩,d1,d0⟩:=dg4 m;have HL:Z (byF k F ++ [J S ((m:Int) / 16777216),J S ((m:Int) / 65536 % 256),J S ((m:Int) / 256 % 256),J S ((m:Int) % 256)]=byF (k+4) (upR F k 4 (fun i=>dg m (3-i)))):=by
  show _=_;rw [gR,bB (F:=upR F k 4 (fun i=>dg m (3-i))) (G:=F) (fun i hi=>aw za)];congr 1
  have e:∀ i,i<4->upR F k 4 (fun i=>dg m (3-i)) (k+i)=dg m (3-i):=fun i hi=>by rw [aE za,show k+i-k=i by omega]
  rw [bB e];show _=[Value.int S (((dg m 3).toNat:Nat):Int),Value.int S (((dg m 2).toNat:Nat):Int),Value.int S (((dg m 1).toNat:Nat):Int),Value.int S (((dg m 0).toNat:Nat):Int)]
  rw [d3,d2,d1,d0,show (m:Int) / 16777216=((m / 16777216 % 256:Nat):Int) by omega];simp
 clear d3 d2 d1 d0 h;go_enter Tryz.func296,Tryz.ntmps296
 go_wp2_with (at_builtin;refine wpList_append_lies _ zg (jh 5) (jh 20) 36 zg B 5 i0 (J S 0) 1 1 Tryz.underlying36 hi hz0 yb yP zg zb (I ao k ca) k (byF k F) zg (HO.out _) ⟨w.heap.size,0,R⟩ 4 4 [J S ((m:Int) / 16777216),J S ((m:Int) / 65536 % 256),J S ((m:Int) / 256 % 256),J S ((m:Int) % 256)] zg zg (World.news_of_block (heap_alloc_new w _)) (by simp [Value.oneCell']) zb (by unfold maxLen;omega) za zj (w.heap.size+1) zi ?_;intro g2 jK w2 jF jH _ _;have kH:Z (OwU B w2 (jc ⟨g2,0,R⟩) (k+4) jK (upR F k 4 (fun i=>dg m (3-i)))):=(by show w2.ownsRow _ _ _ _ _ _;rw [<- HL.out];exact jF);have jv:Z (Y B w w2):=((bal w _).mono hB).grown jH zj HG.out;clear jF jH)
 go_ret;exact⟨_,_,rfl,kH.out,jv.out⟩
theorem cZ{B:Nat}{w:je}{ao:Option jd}{n b8:Nat}{F:Nat->UInt8}(h:OwU B w ao n b8 F):∀ g,(Value.slice ao n b8).ownBlock=jc g->B<=g:=fun g hg=>(World.ownsRow.lt h g hg).1
theorem AV{N:Nat}{c:Int}(w:je)(s:Sl)(ao:Option jd)(ca:Nat)(bo:Option jd)(cb:Nat)(Ky:N<=16)(hc:8<=c)(xX:c<=64)(hs:Has w s ao ca bo cb)(hok:okS N c s=true):
  ja P 224 #[slv s ao ca bo cb] w fun e w'=>∃ uo uc,e=f (I uo (sz N c) uc)/\OwU w.heap.size w' uo (sz N c) uc (enc s)/\b7 w w':=by
 have hnm:=dx hok;obtain⟨⟨k1,k2⟩,k3,k4,k5,k6,k7,k8⟩:=dY hok;obtain⟨n,hn⟩:=fd (sz N c)
 rw [<- hn];have A5:n=12+4*N+c.toNat:=hn;obtain⟨E,hE⟩:=fd (enc s)
 obtain⟨kn,xF⟩:=fd (s.kd.toNat)
 obtain⟨xn,Jr⟩:=fd (s.ix.toNat)
 obtain⟨cn,qD⟩:=fd (s.ce.toNat)
 obtain⟨sn,hsn⟩:=fd (s.st.toNat)
 obtain⟨V,hV⟩:=fd (s.V)
 obtain⟨D,hD⟩:=fd (s.D)
 obtain⟨d,hd⟩:=fd (s.dn)
 have e1:s.ix=(xn:Int):=za;have e2:s.ce=(cn:Int):=za;have e3:s.st=(sn:Int):=za;have lx:xn<16:=za;have lc:cn<=1073741824:=za;have ls:sn<=1073741824:=za;have H4:Z ((byF 4 E).toArray=#[J S 84,J S 50,J S (kn:Int),J S (xn:Int)]):=by
  show _=_;have h3:(enc s 3).toNat=xn:=by show (dg s.ix.toNat 0).toNat=xn;rw [aP,<- Jr];simp;omega
  have h2:(enc s 2).toNat=kn:=by rw [xF];rfl
  rw [hE];show #[Value.int S 84,J S 50,J S (((enc s 2).toNat:Nat):Int),J S (((enc s 3).toNat:Nat):Int)]=_;rw [h2,h3]
 have HC:Z (∀ j,j<8->upR E 4 4 (fun i=>dg cn (3-i)) j=E j):=fun j hj=>by
  by_cases h:4<=j/\j<4+4
  ·rw [aE h,hE,qD];have:=Dt s (i:=j-4) za;rw [show 4+(j-4)=j by omega] at this;exact this.symm
  ·exact aw h
 have HS:Z (∀ j,j<12->upR E 8 4 (fun i=>dg sn (3-i)) j=E j):=fun j hj=>by
  by_cases h:8<=j/\j<8+4
  ·rw [aE h,hE,hsn];have:=Dr s (i:=j-8) za;rw [show 8+(j-8)=j by omega] at this;exact this.symm
  ·exact aw h
 have HV:Z (∀ i,i<N->∀ j,j<12+4*i+4->upR E (12+4*i) 4 (fun t=>dg (V i).toNat (3-t)) j=E j):=fun i hi j hj=>by
  by_cases h:12+4*i<=j/\j<12+4*i+4
  ·rw [aE h,hE,hV];have:=Dv (s:=s) (v:=i) (i:=j-(12+4*i)) za za;rw [show 12+4*i+(j-(12+4*i))=j by omega] at this;exact this.symm
  ·exact aw h
 have HD:Z (∀ j,j<n->upR E (12+4*N) d D j=E j):=fun j hj=>by
  by_cases h:12+4*N<=j/\j<12+4*N+d
  ·rw [aE h,hE,hD];have:=Dl s (j-(12+4*N));rw [k1,show 12+4*N+(j-(12+4*N))=j by omega] at this;exact this.symm
  ·exact aw h
 have WY:Z (∀ i,i<N->V i=(((V i).toNat:Nat):Int)/\(V i).toNat<=1073741824):=fun i hi=>by have:=k2 i za;rw [hV];omega
 have Iz:n=12+4*N+d:=za;have G4:n<=1000:=za;have Fl:Z (Vec w ao N ca V):=by have:=hs.vec;rw [k1] at this;rw [hV];exact this
 have Fm:Z (Bec w bo d cb D):=by have:=hs.bec;rw [hD,hd];exact this
 unfold slv;rw [<- xF,e1,e2,e3,k1,<- hd,<- hE];clear hnm k1 k2 k3 k4 k5 k6 k7 k8 hn A5 hE xF Jr qD hsn hV hD hd e1 e2 e3 hs hok hc xX;obtain⟨w1,ci⟩:=fd (w.alloc (jb #[J S (kn:Int),J O (xn:Int),J O (cn:Int),J O (sn:Int),I ao N ca,I bo d cb] 107))
 obtain⟨w2,jz⟩:=fd (w1.alloc (jb #[J S 84,J S 50,J S (kn:Int),J S (xn:Int)] 5))
 have b1:=jt ci
 have b2:=jt jz
 have z1:=ks ci
 have C1:=am (cF ci);have HO:Z (OwU w1.heap.size w2 (jc ⟨w1.heap.size,0,R⟩) 4 4 E):=by
  have:Bk w2 w1.heap.size 4 E:=by unfold Bk;rw [H4.out,jz];exact heap_alloc_new w1 _
  exact this.own (Nat.le_refl _) za
 have jZ:=am b1;have jv:=am b2;have F8:=am (Fl.out.below b1);have F9:=am (Fm.out.below b1);have c2:=C1.out.below b2;have y2:=c2 2 _ rfl;have kH:Z (OwU w1.heap.size w2 (jc ⟨w.heap.size+1,0,R⟩) 4 4 E):=by show OwU _ _ _ _ _ _;rw [<- z1];exact HO.out
 have HZ:=am z1;clear Fl Fm b1 b2 c2 z1;go_enter Tryz.func224,Tryz.ntmps224
 go_wp2_with fail
 rw [<- ci,<- jz];clear ci jz;refine(lk _ w1.heap.size (jc ⟨w.heap.size+1,0,R⟩) 4 4 cn E kH.out jv.out.size za lc).mono ?_;rintro e wa ⟨g1,p1,rfl,ha,ba⟩;have HA:=am (ha.congr HC.out);have yN:=am (jv.out.trans ba);have y3:=C1.out.below yN.out 3 _ rfl;clear ha ba y2;go_wp2_with fail
 refine(lk _ w1.heap.size (jc ⟨g1,0,R⟩) 8 p1 sn E HA.out yN.out.size za ls).mono ?_;rintro e wb ⟨g2,p2,rfl,hb,bb⟩;have HB:=am (hb.congr HS.out);have io:=am (yN.out.trans bb);clear hb bb y3;go_wp2_with fail
 go_loopw [3,4] (fun y x wr=>∃ i:Nat,i<=N/\x=J O (i:Int)/\(∃ uo uc,y=I uo (12+4*i) uc/\Z (OwU w1.heap.size wr uo (12+4*i) uc E))/\Z (b7 w1 wr)) (fun _ x _=>N-(intOf x).toNat)
 case atStart=>exact⟨0,jg _,rfl,⟨_,_,rfl,HB⟩,io⟩
 case round =>
  obtain⟨i,hi,rfl,⟨uo,uc,rfl,hU⟩,hW⟩:=hrel;have x4:=C1.out.below hW.out 4 _ rfl;by_cases hlt:i<N
  ·obtain⟨b,off,rfl,jI⟩:=(F8.out.below hW.out).rd za;have ck:=jI i hlt;obtain⟨vi,FZ⟩:=fd ((V i).toNat)
   have xT:=WY.out i hlt;rw [<- FZ] at xT;rw [xT.1] at ck;have K5:=HV.out i hlt;rw [<- FZ] at K5;have OH:=am K5;have OI:=xT.2;have i1:(0:Int)<=(i:Int):=za;have i2:(i:Int)<(N:Int):=za;clear jI FZ xT K5;go_wp2_with fail
   refine(lk _ w1.heap.size uo (12+4*i) uc vi E hU.out hW.out.size za OI).mono ?_;rintro e wc ⟨g3,p3,rfl,hc,bc⟩;have yg:Z (OwU w1.heap.size wc (jc ⟨g3,0,R⟩) (12+4*(i+1)) p3 E):=by
    have:=hc.congr OH.out;rw [show 12+4*i+4=12+4*(i+1) by omega] at this;exact this
   have n8:=am (hW.out.trans bc);clear hc bc OH;go_wp2_with fail
   go_roundw
   case rel=>exact⟨i+1,za,by go_num,⟨_,p3,by rw [show 12+4*(i+1)=12+4*i+4 by omega],yg⟩,n8⟩
   case measure=>simp [intOf];omega
  ·obtain rfl:i=N:=za;have x5:=C1.out.below hW.out 5 _ rfl;have EM:=F9.out.below hW.out;have Pv:=cZ hU.out;have xJ:=hW.out.size;go_wp2_with (at_builtin;refine fw rfl (jh 33) (jh 35) rfl w1.heap.size (12+4*i) d uc cb uo bo E D rfl rfl hU.out EM za xJ ?_;intro vo vc wz hz gz;have xD:=am hz;have WZ:=am (hW.out.grown gz xJ Pv);clear hz gz)
   go_ret;refine⟨vo,vc,?_,?_,?_⟩
   ·rw [Iz];rfl
   ·have:=xD.out;rw [<- Iz] at this;exact(this.congr HD.out).mono (by have:=HZ.out;omega)
   ·exact ap jZ.out WZ.out
theorem vX{k r c q:Int}{N W:Nat}(h:Par k r c q N W 0)(w:je)(v:Int):
  ja P 153 #[Pz k r c q,J O v] w fun e w'=>∃ ao b8,e=f (I ao N b8)/\Own w.heap.size w' ao N b8 (fun _=>v)/\b7 w w':=by
 have qe:=h.le;have HN:Z (∀ u,ja P 111 #[Pz k r c q] u fun e w'=>e=f (J O (N:Int))/\b7 u w'):=fun u=>lW c q h.sum qe u;obtain⟨i0,hi,yJ,EW,hi2⟩:=info_parts gy;obtain⟨w0,bi⟩:=jM w k r c q
 have B0:Z (b7 w w0):=by show Y _ _ _;rw [bi];exact bal _ _
 have L0:=am fun v (hv:b7 w0 v)=>(ah (l _ _) bi).below hv;clear h;go_enter Tryz.func153,Tryz.ntmps153
 go_wp2_with fail
 rw [<- bi];clear bi;go_loopw [5,6] (fun y x wr=>∃ i:Nat,i<=N/\x=J O (i:Int)/\(∃ ao b8,y=I ao i b8/\Z (wr.ownsRow w0.heap.size 3 1 (I ao i b8) i (zOf i (fun _=>v))))/\Z (b7 w0 wr)) (fun _ x _=>N-(intOf x).toNat)
 case atStart=>exact⟨0,jg _,rfl,⟨R,0,rfl,World.ownsRow_nil _ _ _ _⟩,l _ _⟩
 case round =>
  obtain⟨i,K3,rfl,⟨ao,b8,rfl,em⟩,d8⟩:=hrel;have p:=L0.out wr d8.out;have p0:=p.cz 0;have p1:=p.cz 1;have p2:=p.cz 2;have p3:=p.cz 3;clear p;go_wp2_with fail
  refine(HN.out wr).mono ?_;rintro e wn ⟨rfl,hn⟩;have LM:=am (ap d8.out hn);have xC:=am (ar em.out hn);clear hn p0 p1 p2 p3 em d8;by_cases hlt:i<N
  ·have qA:=LM.out.size;obtain⟨XS,kh⟩:∃ X,X=zOf i (fun _=>v):=⟨_,rfl⟩
   have kR:Z (∀ o,(wn.alloc o).ownsRow w0.heap.size 3 1 (I ao i b8) i XS):=fun o=>by rw [kh];exact ar xC.out (bal _ _)
   have o7:Z (XS ++ [J O v]=zOf (i+1) (fun _=>v)):=by show _=_;rw [kh,nT]
   have j2:(i:Int)<(N:Int):=za;clear kh;go_wp2_with (at_builtin;refine wpList_append_lies _ zg (jh 13) (jh 15) 27 zg w0.heap.size 3 i0 (J O 0) 1 8 Tryz.underlying27 hi yJ EW hi2 zg zb (I ao i b8) i XS zg (kR.out _) ⟨wn.heap.size,0,R⟩ 1 1 [J O v] zg zg (World.news_of_block (heap_alloc_new wn _)) (by simp [Value.oneCell']) zb (by unfold maxLen;omega) za zj (wn.heap.size+1) zi ?_;intro g5 ky w5 jG i7 _ _;have yR:=am jG;have B5:Z (b7 w0 w5):=((LM.out.alloc qA _).grown i7 zj (fun q hq=>((kR.out (jb #[] 3)).lt q hq).1));clear jG i7)
   go_roundw
   case rel=>exact⟨i+1,za,by go_num,⟨_,_,rfl,by rw [<- o7.out];exact yR.out⟩,B5.out⟩
   case measure=>simp [intOf];omega
  ·obtain rfl:i=N:=za;go_wp2_with fail
   go_ret;exact⟨ao,b8,rfl,Own.mono xC.out B0.out.size,ap B0.out LM.out⟩
end Go.Proofs.YtemlojjkokooeaaGreat
