import Derived.Test.YtemlojjkokooeaaGreatTm11
open Go.Value renaming int->J,slice->O,tuple->D,agg->G
open Go.IntKind renaming i64->I,u8->Y
open Option renaming none->Q
open Go.RowKit renaming Below->Z,Hid->U
open Go.Obj renaming cells->X
open Go.Proofs.Tryz renaming prog->V
open Go renaming Addr->P
open Go.RowKit.Below renaming refl->L
set_option maxHeartbeats 16000000
set_option maxRecDepth 100000
namespace Go.Proofs.YtemlojjkokooeaaGreat
open Go.RowKit
def erC (x:Int) (N:Nat) (c:Int) (n0 n1:Nat) (kv ix:Int):Int:=if erT x N c n0 n1=0 then (if (kv=1\/kv=2)/\0<=ix/\ix<(N:Int) then 0 else 2) else erT x N c n0 n1
def he (E:Int) (N:Nat) (c ix:Int) (n:Nat) (F:Nat->UInt8):Sl:=if E=0 then ofI ix (slQ (isS N c n F) N c F) else zSl
theorem eD{k r c q:Int}{N W:Nat}{x:Int}(h:Par k r c q N W x)(w:World)(a0:Option P)(n0 c0:Nat)(F0:Nat->UInt8)(a1:Option P)(n1 c1:Nat)(F1:Nat->UInt8)(h0:Bec w a0 n0 c0 F0)(h1:Bec w a1 n1 c1 F1)(kv ix:Int)(E:Int)(hE:erC x N c n0 n1 kv ix=E)(z0 z1:Sl)(hz0:he E N c ix n0 F0=z0)(yb:he E N c ix n1 F1=z1):
  Calls V 207 #[Pz k r c q,G #[O a0 n0 c0,O a1 n1 c1],J Y kv,J I ix] w (gI w E z0 z1):=by
 obtain⟨w0,bi⟩:=jM w k r c q
 have jW:=jt bi
 have j7:=ks bi
 obtain⟨w1,ci⟩:=fd (w0.alloc (X #[O a0 n0 c0,O a1 n1 c1] 97))
 have jX:=jt ci
 have kc:w1.heap.size=w.heap.size+1+1:=by rw [ci];simp [j7]
 obtain⟨w2,jz⟩:=fd (w1.alloc (X #[J Y 0,J I 0,J I 0,J I 0,O Q 0 0,O Q 0 0,J Y 0,J I 0,J I 0,J I 0,O Q 0 0,O Q 0 0] 254))
 have pu:=jt jz
 have xq:w2.heap.size=w.heap.size+1+1+1:=by rw [jz];simp [kc]
 have Bw:U (b7 w w2):=(ap (ap jW jX) pu)
 have kF:U (∀ v,b7 w2 v->At w v (w.heap.size) #[J I k,J I r,J I c,J I q] 23):=fun v hv=>by exact(ah (L _ _) bi).below (ap (ap jX pu) hv)
 have kV:U (∀ v,b7 w2 v->At w v (w.heap.size+1) #[O a0 n0 c0,O a1 n1 c1] 97):=fun v hv=>by rw [<- j7];exact(ah jW ci).below (ap pu hv)
 have xM:U (∀ v,b7 w2 v->At w v (w.heap.size+1+1) #[J Y 0,J I 0,J I 0,J I 0,O Q 0 0,O Q 0 0,J Y 0,J I 0,J I 0,J I 0,O Q 0 0,O Q 0 0] 254):=fun v hv=>by rw [<- kc];exact(ah (ap jW jX) jz).below (ap (L _ _) hv)
 obtain⟨T,hT⟩:=km (erT x N c n0 n1)
 obtain⟨s,hs⟩:=km (rd2 T N c n0 F0)
 obtain⟨t,ht⟩:=km (rd2 T N c n1 F1)
 have HR:=am fun v (hv:b7 w v)=>tQ h v a0 n0 c0 F0 a1 n1 c1 F1 (h0.below hv) (h1.below hv) T hT s t hs ht;have n7:=am xq;have xD:U (¬ E=0->z0=zSl/\z1=zSl):=fun e=>by
  rw [<- hz0,<- yb];unfold he;rw [zl e,zl e];exact⟨rfl,rfl⟩
 have A9:U (E=0->T=0->ofI ix s=z0/\ofI ix t=z1):=fun e e2=>by
  rw [<- hz0,<- yb,<- hs,<- ht];unfold he rd2;rw [zk e,zk e,zk e2,zk e2];exact⟨rfl,rfl⟩
 have A6:U (∀ v (ao:Option P) (ca:Nat) (bo:Option P) (cb:Nat) (g6:Option P) (i9:Nat) (jr:Option P) (js:Nat),Calls V 282 #[bov s ao ca bo cb t g6 i9 jr js,J I ix] v fun e w'=>e=.returned (bov (ofI ix s) (keA (s.ix == ix) ao) (keN (s.ix == ix) ca) (keA (s.ix == ix) bo) (keN (s.ix == ix) cb) (ofI ix t) (keA (t.ix == ix) g6) (keN (t.ix == ix) i9) (keA (t.ix == ix) jr) (keN (t.ix == ix) js))/\b7 v w'):=fun v ao ca bo cb g6 i9 jr js=>DT v s t ao ca bo cb g6 i9 jr js ix;have hN:=h.few;have R0:T=0->(N:Int)=k+r:=fun e=>by
  have hx:x=0:=ia (iG (hT.trans e)).1;subst hx;exact h.sum
 have qF:E=if T=0 then (if (kv=1\/kv=2)/\0<=ix/\ix<(N:Int) then 0 else 2) else T:=by rw [<- hE,<- hT];rfl
 clear hE hz0 yb hs ht hT h h0 h1;unfold gI bov at HR;unfold bov at A6;unfold gI bov;by_cases eT:T=0
 ·subst eT;rw [zk rfl] at qF;have R0:=R0 rfl;by_cases kk:kv=1\/kv=2
  ·by_cases ii:0<=ix/\ix<(N:Int)
   ·rw [zk ⟨kk,ii⟩] at qF;subst qF;obtain⟨i1,i2⟩:=ii;have i3:¬ ix<0:=za;have i4:¬ k+r<=ix:=za;clear i1 i2;rcases kk with rfl | rfl
    ·skip
     skip
     go_enter Tryz.func207,Tryz.ntmps207
     go_wp2_with fail
     rw [<- bi,<- ci,<- jz];clear bi jW j7 ci jX kc jz pu xq;refine(HR.out _ Bw.out).mono ?_;rintro e wa ⟨ao,ca,bo,cb,g6,i9,jr,js,rfl,jO,jV,ha⟩;have kZ:=am jO;have m6:=am jV;have HA:=am ha;clear jO jV ha;have q0:=kF.out wa HA.out;have p0:=fun o=>(q0.alloc o).cz 0;have p1:=fun o=>(q0.alloc o).cz 1;have p2:=fun o=>(q0.alloc o).cz 2;have p3:=fun o=>(q0.alloc o).cz 3;clear q0;obtain⟨wb,jD⟩:=fd (wa.alloc (X #[J Y ((s.kd.toNat:Nat):Int),J I s.ix,J I s.ce,J I s.st,O ao s.vn ca,O bo s.dn cb,J Y ((t.kd.toNat:Nat):Int),J I t.ix,J I t.ce,J I t.st,O g6 t.vn i9,O jr t.dn js] 254))
     have HB:U (b7 wa wb):=by show Z _ _ _;rw [jD];exact bal _ _
     go_wp2_with fail
     rw [<- jD];clear jD p0 p1 p2 p3;refine(A6.out _ ao ca bo cb g6 i9 jr js).mono ?_;rintro e wc ⟨rfl,hc⟩;have HC:=am (ap (ap HA.out HB.out) hc);have Fr:=(kZ.out.below (ap HB.out hc)).of ix;have Gr:=(m6.out.below (ap HB.out hc)).of ix;clear hc HA HB kZ m6;obtain⟨u,hu⟩:=fd (ofI ix s)
     obtain⟨v,hv⟩:=fd (ofI ix t)
     rw [<- hu] at Fr;rw [<- hv] at Gr;have JA:U (u=z0/\v=z1):=by show _/\_;rw [hu,hv];exact A9.out (by trivial) (by trivial)
     rw [<- hu,<- hv];clear hu hv A9;obtain⟨fo,fa,go,gb,jQ,jR,jS,jT,hf⟩:∃ fo fa go gb jQ jR jS jT,fo=keA (s.ix == ix) ao/\fa=keN (s.ix == ix) ca/\go=keA (s.ix == ix) bo/\gb=keN (s.ix == ix) cb/\jQ=keA (t.ix == ix) g6/\jR=keN (t.ix == ix) i9/\jS=keA (t.ix == ix) jr/\jT=keN (t.ix == ix) js:=⟨_,_,_,_,_,_,_,_,rfl,rfl,rfl,rfl,rfl,rfl,rfl,rfl⟩
     obtain⟨f1,f2,f3,f4,f5,f6,f7,f8⟩:=hf;rw [<- f1,<- f2,<- f3,<- f4] at Fr;rw [<- f5,<- f6,<- f7,<- f8] at Gr;rw [<- f1,<- f2,<- f3,<- f4,<- f5,<- f6,<- f7,<- f8];clear f1 f2 f3 f4 f5 f6 f7 f8;have IW:=am Fr;have Pr:=am Gr;clear Fr Gr;have q2:=xM.out wc HC.out;have r0:=q2.cz 0;have r1:=q2.cz 1;have r2:=q2.cz 2;have r3:=q2.cz 3;have r4:=q2.cz 4;have r5:=q2.cz 5;have r6:=q2.cz 6;have r7:=q2.cz 7;have r8:=q2.cz 8;have r9:=q2.cz 9;have yA:=q2.cz 10;have yB:=q2.cz 11;have rf:=q2.free;clear q2;go_wp2_with fail
     refine bodyPost_ret (v:=D #[G #[J Y ((u.kd.toNat:Nat):Int),J I u.ix,J I u.ce,J I u.st,O fo u.vn fa,O go u.dn gb,J Y ((v.kd.toNat:Nat):Int),J I v.ix,J I v.ce,J I v.st,O jQ v.vn jR,O jS v.dn jT],J I 0]) (by simp [results,Tryz.results207,go_sem,r0,r1,r2,r3,r4,r5,r6,r7,r8,r9,yA,yB]) rfl ?_;obtain⟨rfl,rfl⟩:=JA.out;have ho:=aU wc (w.heap.size+1+1) (J Y ((u.kd.toNat:Nat):Int)) (J I u.ix) (J I u.ce) (J I u.st) (O fo u.vn fa) (O go u.dn gb) (J Y ((v.kd.toNat:Nat):Int)) (J I v.ix) (J I v.ce) (J I v.st) (O jQ v.vn jR) (O jS v.dn jT);have qv:=ap Bw.out HC.out;exact⟨fo,fa,go,gb,jQ,jR,jS,jT,rfl,(IW.out.stay ho (by have:=n7.out;omega)).mono (by have:=n7.out;omega),(Pr.out.stay ho (by have:=n7.out;omega)).mono (by have:=n7.out;omega),qv.trans (ho.below (fun i hi=>by omega) qv.size)⟩
    ·skip
     skip
     go_enter Tryz.func207,Tryz.ntmps207
     go_wp2_with fail
     rw [<- bi,<- ci,<- jz];clear bi jW j7 ci jX kc jz pu xq;refine(HR.out _ Bw.out).mono ?_;rintro e wa ⟨ao,ca,bo,cb,g6,i9,jr,js,rfl,jO,jV,ha⟩;have kZ:=am jO;have m6:=am jV;have HA:=am ha;clear jO jV ha;have q0:=kF.out wa HA.out;have p0:=fun o=>(q0.alloc o).cz 0;have p1:=fun o=>(q0.alloc o).cz 1;have p2:=fun o=>(q0.alloc o).cz 2;have p3:=fun o=>(q0.alloc o).cz 3;clear q0;obtain⟨wb,jD⟩:=fd (wa.alloc (X #[J Y ((s.kd.toNat:Nat):Int),J I s.ix,J I s.ce,J I s.st,O ao s.vn ca,O bo s.dn cb,J Y ((t.kd.toNat:Nat):Int),J I t.ix,J I t.ce,J I t.st,O g6 t.vn i9,O jr t.dn js] 254))
     have HB:U (b7 wa wb):=by show Z _ _ _;rw [jD];exact bal _ _
     go_wp2_with fail
     rw [<- jD];clear jD p0 p1 p2 p3;refine(A6.out _ ao ca bo cb g6 i9 jr js).mono ?_;rintro e wc ⟨rfl,hc⟩;have HC:=am (ap (ap HA.out HB.out) hc);have Fr:=(kZ.out.below (ap HB.out hc)).of ix;have Gr:=(m6.out.below (ap HB.out hc)).of ix;clear hc HA HB kZ m6;obtain⟨u,hu⟩:=fd (ofI ix s)
     obtain⟨v,hv⟩:=fd (ofI ix t)
     rw [<- hu] at Fr;rw [<- hv] at Gr;have JA:U (u=z0/\v=z1):=by show _/\_;rw [hu,hv];exact A9.out (by trivial) (by trivial)
     rw [<- hu,<- hv];clear hu hv A9;obtain⟨fo,fa,go,gb,jQ,jR,jS,jT,hf⟩:∃ fo fa go gb jQ jR jS jT,fo=keA (s.ix == ix) ao/\fa=keN (s.ix == ix) ca/\go=keA (s.ix == ix) bo/\gb=keN (s.ix == ix) cb/\jQ=keA (t.ix == ix) g6/\jR=keN (t.ix == ix) i9/\jS=keA (t.ix == ix) jr/\jT=keN (t.ix == ix) js:=⟨_,_,_,_,_,_,_,_,rfl,rfl,rfl,rfl,rfl,rfl,rfl,rfl⟩
     obtain⟨f1,f2,f3,f4,f5,f6,f7,f8⟩:=hf;rw [<- f1,<- f2,<- f3,<- f4] at Fr;rw [<- f5,<- f6,<- f7,<- f8] at Gr;rw [<- f1,<- f2,<- f3,<- f4,<- f5,<- f6,<- f7,<- f8];clear f1 f2 f3 f4 f5 f6 f7 f8;have IW:=am Fr;have Pr:=am Gr;clear Fr Gr;have q2:=xM.out wc HC.out;have r0:=q2.cz 0;have r1:=q2.cz 1;have r2:=q2.cz 2;have r3:=q2.cz 3;have r4:=q2.cz 4;have r5:=q2.cz 5;have r6:=q2.cz 6;have r7:=q2.cz 7;have r8:=q2.cz 8;have r9:=q2.cz 9;have yA:=q2.cz 10;have yB:=q2.cz 11;have rf:=q2.free;clear q2;go_wp2_with fail
     refine bodyPost_ret (v:=D #[G #[J Y ((u.kd.toNat:Nat):Int),J I u.ix,J I u.ce,J I u.st,O fo u.vn fa,O go u.dn gb,J Y ((v.kd.toNat:Nat):Int),J I v.ix,J I v.ce,J I v.st,O jQ v.vn jR,O jS v.dn jT],J I 0]) (by simp [results,Tryz.results207,go_sem,r0,r1,r2,r3,r4,r5,r6,r7,r8,r9,yA,yB]) rfl ?_;obtain⟨rfl,rfl⟩:=JA.out;have ho:=aU wc (w.heap.size+1+1) (J Y ((u.kd.toNat:Nat):Int)) (J I u.ix) (J I u.ce) (J I u.st) (O fo u.vn fa) (O go u.dn gb) (J Y ((v.kd.toNat:Nat):Int)) (J I v.ix) (J I v.ce) (J I v.st) (O jQ v.vn jR) (O jS v.dn jT);have qv:=ap Bw.out HC.out;exact⟨fo,fa,go,gb,jQ,jR,jS,jT,rfl,(IW.out.stay ho (by have:=n7.out;omega)).mono (by have:=n7.out;omega),(Pr.out.stay ho (by have:=n7.out;omega)).mono (by have:=n7.out;omega),qv.trans (ho.below (fun i hi=>by omega) qv.size)⟩
   ·rw [zl (fun h=>ii h.2)] at qF;subst qF;by_cases i1:ix<0
    ·clear ii;rcases kk with rfl | rfl
     ·skip
      go_enter Tryz.func207,Tryz.ntmps207
      go_wp2_with fail
      rw [<- bi,<- ci,<- jz];clear bi jW j7 ci jX kc jz pu xq;refine(HR.out _ Bw.out).mono ?_;rintro e wa ⟨ao,ca,bo,cb,g6,i9,jr,js,rfl,jO,jV,ha⟩;have kZ:=am jO;have m6:=am jV;have HA:=am ha;clear jO jV ha;have q2:=xM.out wa HA.out;have r0:=fun o=>(q2.alloc o).cz 0;have r1:=fun o=>(q2.alloc o).cz 1;have r2:=fun o=>(q2.alloc o).cz 2;have r3:=fun o=>(q2.alloc o).cz 3;have r4:=fun o=>(q2.alloc o).cz 4;have r5:=fun o=>(q2.alloc o).cz 5;have r6:=fun o=>(q2.alloc o).cz 6;have r7:=fun o=>(q2.alloc o).cz 7;have r8:=fun o=>(q2.alloc o).cz 8;have r9:=fun o=>(q2.alloc o).cz 9;have yA:=fun o=>(q2.alloc o).cz 10;have yB:=fun o=>(q2.alloc o).cz 11;have rf:=fun o=>(q2.alloc o).free;clear q2;have q0:=kF.out wa HA.out;have p0:=fun o=>(q0.alloc o).cz 0;have p1:=fun o=>(q0.alloc o).cz 1;have p2:=fun o=>(q0.alloc o).cz 2;have p3:=fun o=>(q0.alloc o).cz 3;clear q0;go_wp2_with fail
      refine bodyPost_ret (v:=D #[G #[J Y 0,J I 0,J I 0,J I 0,O Q 0 0,O Q 0 0,J Y 0,J I 0,J I 0,J I 0,O Q 0 0,O Q 0 0],J I 2]) (by simp [results,Tryz.results207,go_sem,r0,r1,r2,r3,r4,r5,r6,r7,r8,r9,yA,yB]) rfl ?_;obtain⟨rfl,rfl⟩:=xD.out (by first | assumption | decide | trivial);refine⟨Q,0,Q,0,Q,0,Q,0,rfl,aR _ _,aR _ _,?_⟩;have j9:=aa (ap Bw.out HA.out) (X #[J Y ((s.kd.toNat:Nat):Int),J I s.ix,J I s.ce,J I s.st,O ao s.vn ca,O bo s.dn cb,J Y ((t.kd.toNat:Nat):Int),J I t.ix,J I t.ce,J I t.st,O g6 t.vn i9,O jr t.dn js] 254);exact j9.trans ((aU (wa.alloc (X #[J Y ((s.kd.toNat:Nat):Int),J I s.ix,J I s.ce,J I s.st,O ao s.vn ca,O bo s.dn cb,J Y ((t.kd.toNat:Nat):Int),J I t.ix,J I t.ce,J I t.st,O g6 t.vn i9,O jr t.dn js] 254)) (w.heap.size+1+1) (J Y 0) (J I 0) (J I 0) (J I 0) (O Q 0 0) (O Q 0 0) (J Y 0) (J I 0) (J I 0) (J I 0) (O Q 0 0) (O Q 0 0)).below (fun i hi=>by omega) j9.size)
     ·skip
      go_enter Tryz.func207,Tryz.ntmps207
      go_wp2_with fail
      rw [<- bi,<- ci,<- jz];clear bi jW j7 ci jX kc jz pu xq;refine(HR.out _ Bw.out).mono ?_;rintro e wa ⟨ao,ca,bo,cb,g6,i9,jr,js,rfl,jO,jV,ha⟩;have kZ:=am jO;have m6:=am jV;have HA:=am ha;clear jO jV ha;have q2:=xM.out wa HA.out;have r0:=fun o=>(q2.alloc o).cz 0;have r1:=fun o=>(q2.alloc o).cz 1;have r2:=fun o=>(q2.alloc o).cz 2;have r3:=fun o=>(q2.alloc o).cz 3;have r4:=fun o=>(q2.alloc o).cz 4;have r5:=fun o=>(q2.alloc o).cz 5;have r6:=fun o=>(q2.alloc o).cz 6;have r7:=fun o=>(q2.alloc o).cz 7;have r8:=fun o=>(q2.alloc o).cz 8;have r9:=fun o=>(q2.alloc o).cz 9;have yA:=fun o=>(q2.alloc o).cz 10;have yB:=fun o=>(q2.alloc o).cz 11;have rf:=fun o=>(q2.alloc o).free;clear q2;have q0:=kF.out wa HA.out;have p0:=fun o=>(q0.alloc o).cz 0;have p1:=fun o=>(q0.alloc o).cz 1;have p2:=fun o=>(q0.alloc o).cz 2;have p3:=fun o=>(q0.alloc o).cz 3;clear q0;go_wp2_with fail
      refine bodyPost_ret (v:=D #[G #[J Y 0,J I 0,J I 0,J I 0,O Q 0 0,O Q 0 0,J Y 0,J I 0,J I 0,J I 0,O Q 0 0,O Q 0 0],J I 2]) (by simp [results,Tryz.results207,go_sem,r0,r1,r2,r3,r4,r5,r6,r7,r8,r9,yA,yB]) rfl ?_;obtain⟨rfl,rfl⟩:=xD.out (by first | assumption | decide | trivial);refine⟨Q,0,Q,0,Q,0,Q,0,rfl,aR _ _,aR _ _,?_⟩;have j9:=aa (ap Bw.out HA.out) (X #[J Y ((s.kd.toNat:Nat):Int),J I s.ix,J I s.ce,J I s.st,O ao s.vn ca,O bo s.dn cb,J Y ((t.kd.toNat:Nat):Int),J I t.ix,J I t.ce,J I t.st,O g6 t.vn i9,O jr t.dn js] 254);exact j9.trans ((aU (wa.alloc (X #[J Y ((s.kd.toNat:Nat):Int),J I s.ix,J I s.ce,J I s.st,O ao s.vn ca,O bo s.dn cb,J Y ((t.kd.toNat:Nat):Int),J I t.ix,J I t.ce,J I t.st,O g6 t.vn i9,O jr t.dn js] 254)) (w.heap.size+1+1) (J Y 0) (J I 0) (J I 0) (J I 0) (O Q 0 0) (O Q 0 0) (J Y 0) (J I 0) (J I 0) (J I 0) (O Q 0 0) (O Q 0 0)).below (fun i hi=>by omega) j9.size)
    ·have i4:k+r<=ix:=za;clear ii;rcases kk with rfl | rfl
     ·skip
      go_enter Tryz.func207,Tryz.ntmps207
      go_wp2_with fail
      rw [<- bi,<- ci,<- jz];clear bi jW j7 ci jX kc jz pu xq;refine(HR.out _ Bw.out).mono ?_;rintro e wa ⟨ao,ca,bo,cb,g6,i9,jr,js,rfl,jO,jV,ha⟩;have kZ:=am jO;have m6:=am jV;have HA:=am ha;clear jO jV ha;have q2:=xM.out wa HA.out;have r0:=fun o=>(q2.alloc o).cz 0;have r1:=fun o=>(q2.alloc o).cz 1;have r2:=fun o=>(q2.alloc o).cz 2;have r3:=fun o=>(q2.alloc o).cz 3;have r4:=fun o=>(q2.alloc o).cz 4;have r5:=fun o=>(q2.alloc o).cz 5;have r6:=fun o=>(q2.alloc o).cz 6;have r7:=fun o=>(q2.alloc o).cz 7;have r8:=fun o=>(q2.alloc o).cz 8;have r9:=fun o=>(q2.alloc o).cz 9;have yA:=fun o=>(q2.alloc o).cz 10;have yB:=fun o=>(q2.alloc o).cz 11;have rf:=fun o=>(q2.alloc o).free;clear q2;have q0:=kF.out wa HA.out;have p0:=fun o=>(q0.alloc o).cz 0;have p1:=fun o=>(q0.alloc o).cz 1;have p2:=fun o=>(q0.alloc o).cz 2;have p3:=fun o=>(q0.alloc o).cz 3;clear q0;go_wp2_with fail
      refine bodyPost_ret (v:=D #[G #[J Y 0,J I 0,J I 0,J I 0,O Q 0 0,O Q 0 0,J Y 0,J I 0,J I 0,J I 0,O Q 0 0,O Q 0 0],J I 2]) (by simp [results,Tryz.results207,go_sem,r0,r1,r2,r3,r4,r5,r6,r7,r8,r9,yA,yB]) rfl ?_;obtain⟨rfl,rfl⟩:=xD.out (by first | assumption | decide | trivial);refine⟨Q,0,Q,0,Q,0,Q,0,rfl,aR _ _,aR _ _,?_⟩;have j9:=aa (ap Bw.out HA.out) (X #[J Y ((s.kd.toNat:Nat):Int),J I s.ix,J I s.ce,J I s.st,O ao s.vn ca,O bo s.dn cb,J Y ((t.kd.toNat:Nat):Int),J I t.ix,J I t.ce,J I t.st,O g6 t.vn i9,O jr t.dn js] 254);exact j9.trans ((aU (wa.alloc (X #[J Y ((s.kd.toNat:Nat):Int),J I s.ix,J I s.ce,J I s.st,O ao s.vn ca,O bo s.dn cb,J Y ((t.kd.toNat:Nat):Int),J I t.ix,J I t.ce,J I t.st,O g6 t.vn i9,O jr t.dn js] 254)) (w.heap.size+1+1) (J Y 0) (J I 0) (J I 0) (J I 0) (O Q 0 0) (O Q 0 0) (J Y 0) (J I 0) (J I 0) (J I 0) (O Q 0 0) (O Q 0 0)).below (fun i hi=>by omega) j9.size)
     ·skip
      go_enter Tryz.func207,Tryz.ntmps207
      go_wp2_with fail
      rw [<- bi,<- ci,<- jz];clear bi jW j7 ci jX kc jz pu xq;refine(HR.out _ Bw.out).mono ?_;rintro e wa ⟨ao,ca,bo,cb,g6,i9,jr,js,rfl,jO,jV,ha⟩;have kZ:=am jO;have m6:=am jV;have HA:=am ha;clear jO jV ha;have q2:=xM.out wa HA.out;have r0:=fun o=>(q2.alloc o).cz 0;have r1:=fun o=>(q2.alloc o).cz 1;have r2:=fun o=>(q2.alloc o).cz 2;have r3:=fun o=>(q2.alloc o).cz 3;have r4:=fun o=>(q2.alloc o).cz 4;have r5:=fun o=>(q2.alloc o).cz 5;have r6:=fun o=>(q2.alloc o).cz 6;have r7:=fun o=>(q2.alloc o).cz 7;have r8:=fun o=>(q2.alloc o).cz 8;have r9:=fun o=>(q2.alloc o).cz 9;have yA:=fun o=>(q2.alloc o).cz 10;have yB:=fun o=>(q2.alloc o).cz 11;have rf:=fun o=>(q2.alloc o).free;clear q2;have q0:=kF.out wa HA.out;have p0:=fun o=>(q0.alloc o).cz 0;have p1:=fun o=>(q0.alloc o).cz 1;have p2:=fun o=>(q0.alloc o).cz 2;have p3:=fun o=>(q0.alloc o).cz 3;clear q0;go_wp2_with fail
      refine bodyPost_ret (v:=D #[G #[J Y 0,J I 0,J I 0,J I 0,O Q 0 0,O Q 0 0,J Y 0,J I 0,J I 0,J I 0,O Q 0 0,O Q 0 0],J I 2]) (by simp [results,Tryz.results207,go_sem,r0,r1,r2,r3,r4,r5,r6,r7,r8,r9,yA,yB]) rfl ?_;obtain⟨rfl,rfl⟩:=xD.out (by first | assumption | decide | trivial);refine⟨Q,0,Q,0,Q,0,Q,0,rfl,aR _ _,aR _ _,?_⟩;have j9:=aa (ap Bw.out HA.out) (X #[J Y ((s.kd.toNat:Nat):Int),J I s.ix,J I s.ce,J I s.st,O ao s.vn ca,O bo s.dn cb,J Y ((t.kd.toNat:Nat):Int),J I t.ix,J I t.ce,J I t.st,O g6 t.vn i9,O jr t.dn js] 254);exact j9.trans ((aU (wa.alloc (X #[J Y ((s.kd.toNat:Nat):Int),J I s.ix,J I s.ce,J I s.st,O ao s.vn ca,O bo s.dn cb,J Y ((t.kd.toNat:Nat):Int),J I t.ix,J I t.ce,J I t.st,O g6 t.vn i9,O jr t.dn js] 254)) (w.heap.size+1+1) (J Y 0) (J I 0) (J I 0) (J I 0) (O Q 0 0) (O Q 0 0) (J Y 0) (J I 0) (J I 0) (J I 0) (O Q 0 0) (O Q 0 0)).below (fun i hi=>by omega) j9.size)
  ·rw [zl (fun h=>kk h.1)] at qF;subst qF;have k1:(kv != 1)=true:=by simp only [bne_iff_ne,ne_eq];omega
   have k2:(kv != 2)=true:=by simp only [bne_iff_ne,ne_eq];omega
   clear kk;go_enter Tryz.func207,Tryz.ntmps207
   go_wp2_with fail
   rw [<- bi,<- ci,<- jz];clear bi jW j7 ci jX kc jz pu xq;refine(HR.out _ Bw.out).mono ?_;rintro e wa ⟨ao,ca,bo,cb,g6,i9,jr,js,rfl,jO,jV,ha⟩;have kZ:=am jO;have m6:=am jV;have HA:=am ha;clear jO jV ha;have q2:=xM.out wa HA.out;have r0:=fun o=>(q2.alloc o).cz 0;have r1:=fun o=>(q2.alloc o).cz 1;have r2:=fun o=>(q2.alloc o).cz 2;have r3:=fun o=>(q2.alloc o).cz 3;have r4:=fun o=>(q2.alloc o).cz 4;have r5:=fun o=>(q2.alloc o).cz 5;have r6:=fun o=>(q2.alloc o).cz 6;have r7:=fun o=>(q2.alloc o).cz 7;have r8:=fun o=>(q2.alloc o).cz 8;have r9:=fun o=>(q2.alloc o).cz 9;have yA:=fun o=>(q2.alloc o).cz 10;have yB:=fun o=>(q2.alloc o).cz 11;have rf:=fun o=>(q2.alloc o).free;clear q2;have q0:=kF.out wa HA.out;have p0:=fun o=>(q0.alloc o).cz 0;have p1:=fun o=>(q0.alloc o).cz 1;have p2:=fun o=>(q0.alloc o).cz 2;have p3:=fun o=>(q0.alloc o).cz 3;clear q0;go_wp2_with fail
   refine bodyPost_ret (v:=D #[G #[J Y 0,J I 0,J I 0,J I 0,O Q 0 0,O Q 0 0,J Y 0,J I 0,J I 0,J I 0,O Q 0 0,O Q 0 0],J I 2]) (by simp [results,Tryz.results207,go_sem,r0,r1,r2,r3,r4,r5,r6,r7,r8,r9,yA,yB]) rfl ?_;obtain⟨rfl,rfl⟩:=xD.out (by first | assumption | decide | trivial);refine⟨Q,0,Q,0,Q,0,Q,0,rfl,aR _ _,aR _ _,?_⟩;have j9:=aa (ap Bw.out HA.out) (X #[J Y ((s.kd.toNat:Nat):Int),J I s.ix,J I s.ce,J I s.st,O ao s.vn ca,O bo s.dn cb,J Y ((t.kd.toNat:Nat):Int),J I t.ix,J I t.ce,J I t.st,O g6 t.vn i9,O jr t.dn js] 254);exact j9.trans ((aU (wa.alloc (X #[J Y ((s.kd.toNat:Nat):Int),J I s.ix,J I s.ce,J I s.st,O ao s.vn ca,O bo s.dn cb,J Y ((t.kd.toNat:Nat):Int),J I t.ix,J I t.ce,J I t.st,O g6 t.vn i9,O jr t.dn js] 254)) (w.heap.size+1+1) (J Y 0) (J I 0) (J I 0) (J I 0) (O Q 0 0) (O Q 0 0) (J Y 0) (J I 0) (J I 0) (J I 0) (O Q 0 0) (O Q 0 0)).below (fun i hi=>by omega) j9.size)
 ·rw [zl eT] at qF;subst qF;have hq:(E != 0)=true:=by simpa using eT
  go_enter Tryz.func207,Tryz.ntmps207
  go_wp2_with fail
  rw [<- bi,<- ci,<- jz];clear bi jW j7 ci jX kc jz pu xq;refine(HR.out _ Bw.out).mono ?_;rintro e wa ⟨ao,ca,bo,cb,g6,i9,jr,js,rfl,jO,jV,ha⟩;have kZ:=am jO;have m6:=am jV;have HA:=am ha;clear jO jV ha;have q2:=xM.out wa HA.out;have r0:=fun o=>(q2.alloc o).cz 0;have r1:=fun o=>(q2.alloc o).cz 1;have r2:=fun o=>(q2.alloc o).cz 2;have r3:=fun o=>(q2.alloc o).cz 3;have r4:=fun o=>(q2.alloc o).cz 4;have r5:=fun o=>(q2.alloc o).cz 5;have r6:=fun o=>(q2.alloc o).cz 6;have r7:=fun o=>(q2.alloc o).cz 7;have r8:=fun o=>(q2.alloc o).cz 8;have r9:=fun o=>(q2.alloc o).cz 9;have yA:=fun o=>(q2.alloc o).cz 10;have yB:=fun o=>(q2.alloc o).cz 11;have rf:=fun o=>(q2.alloc o).free;clear q2;go_wp2_with fail
  refine bodyPost_ret (v:=D #[G #[J Y 0,J I 0,J I 0,J I 0,O Q 0 0,O Q 0 0,J Y 0,J I 0,J I 0,J I 0,O Q 0 0,O Q 0 0],J I E]) (by simp [results,Tryz.results207,go_sem,r0,r1,r2,r3,r4,r5,r6,r7,r8,r9,yA,yB]) rfl ?_;obtain⟨rfl,rfl⟩:=xD.out (by first | assumption | decide | trivial);refine⟨Q,0,Q,0,Q,0,Q,0,rfl,aR _ _,aR _ _,?_⟩;have j9:=aa (ap Bw.out HA.out) (X #[J Y ((s.kd.toNat:Nat):Int),J I s.ix,J I s.ce,J I s.st,O ao s.vn ca,O bo s.dn cb,J Y ((t.kd.toNat:Nat):Int),J I t.ix,J I t.ce,J I t.st,O g6 t.vn i9,O jr t.dn js] 254);exact j9.trans ((aU (wa.alloc (X #[J Y ((s.kd.toNat:Nat):Int),J I s.ix,J I s.ce,J I s.st,O ao s.vn ca,O bo s.dn cb,J Y ((t.kd.toNat:Nat):Int),J I t.ix,J I t.ce,J I t.st,O g6 t.vn i9,O jr t.dn js] 254)) (w.heap.size+1+1) (J Y 0) (J I 0) (J I 0) (J I 0) (O Q 0 0) (O Q 0 0) (J Y 0) (J I 0) (J I 0) (J I 0) (O Q 0 0) (O Q 0 0)).below (fun i hi=>by omega) j9.size)
end Go.Proofs.YtemlojjkokooeaaGreat
