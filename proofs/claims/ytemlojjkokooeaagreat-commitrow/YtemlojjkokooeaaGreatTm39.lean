import Derived.Test.YtemlojjkokooeaaGreatTm13
open Go.Value renaming int->J,slice->O,agg->P,tuple->L,bool->T
open Go.IntKind renaming i64->I,u8->Z
open Option renaming none->Q,some->X
open Go.RowKit renaming Below->Y,Hid->U
open Go.Obj renaming cells->D
open Go renaming Addr->G,Calls->R
open Go.Proofs.Tryz renaming prog->V
open Bool renaming false->H,true->F
open Go.Ending renaming returned->S
open Go.RowKit.Below renaming refl->B
set_option maxHeartbeats 16000000
set_option maxRecDepth 100000
namespace Go.Proofs.YtemlojjkokooeaaGreat
open Go.RowKit
theorem mV(w:World)(s t:Sl)(ao:Option G)(ca:Nat)(bo:Option G)(cb:Nat)(g6:Option G)(i9:Nat)(jr:Option G)(js:Nat):
  R V 351 #[bov s ao ca bo cb t g6 i9 jr js] w fun e w'=>e=S (J I (if s.ce<t.ce then 1 else 0))/\b7 w w':=by
 unfold bov;by_cases h:s.ce<t.ce
 ·rw [zk h];go_enter Tryz.func351,Tryz.ntmps351
  go_wp2;go_ret;exact⟨rfl,bal _ _⟩
 ·rw [zl h];go_enter Tryz.func351,Tryz.ntmps351
  go_wp2;go_ret;exact⟨rfl,bal _ _⟩
theorem AM(kd:UInt8):ofK kd zSl=zSl:=by unfold ofK;split <;> rfl
theorem vE(kd:UInt8):gN zSl zSl kd=0/\gZ zSl zSl kd=zSl/\gB zSl zSl kd=H:=by
 unfold gB gN gZ;rw [AM];exact⟨rfl,rfl,rfl⟩
theorem iS{k r c q:Int}{N W:Nat}{x:Int}(h:Par k r c q N W x)(w:World)(a0:Option G)(n0 c0:Nat)(F0:Nat->UInt8)(a1:Option G)(n1 c1:Nat)(F1:Nat->UInt8)(h0:Bec w a0 n0 c0 F0)(h1:Bec w a1 n1 c1 F1)(kd:UInt8)(ix:Int)(E:Int)(hE:erC x N c n0 n1 ((kd.toNat:Nat):Int) ix=E)(y0 y1:Sl)(qK:he E N c ix n0 F0=y0)(kL:he E N c ix n1 F1=y1):
  R V 341 #[Pz k r c q,P #[O a0 n0 c0,O a1 n1 c1],J Z ((kd.toNat:Nat):Int),J I ix] w (AnsF w E (gN y0 y1 kd) (gZ y0 y1 kd) (gB y0 y1 kd)):=by
 obtain⟨w0,bi⟩:=jM w k r c q
 have jW:=jt bi
 have j7:=ks bi
 obtain⟨w1,ci⟩:=fd (w0.alloc (D #[O a0 n0 c0,O a1 n1 c1] 97))
 have jX:=jt ci
 have kc:w1.heap.size=w.heap.size+1+1:=by rw [ci];simp [j7]
 obtain⟨w2,jz⟩:=fd (w1.alloc (D #[J Z 0,J I 0,J I 0,J I 0,O Q 0 0,O Q 0 0] 107))
 have pu:=jt jz
 have xq:w2.heap.size=w.heap.size+1+1+1:=by rw [jz];simp [kc]
 have Bw:U (b7 w w2):=(ap (ap jW jX) pu)
 have kF:U (∀ v,b7 w2 v->At w v (w.heap.size) #[J I k,J I r,J I c,J I q] 23):=fun v hv=>by exact(ah (B _ _) bi).below (ap (ap jX pu) hv)
 have kV:U (∀ v,b7 w2 v->At w v (w.heap.size+1) #[O a0 n0 c0,O a1 n1 c1] 97):=fun v hv=>by rw [<- j7];exact(ah jW ci).below (ap pu hv)
 have xM:U (∀ v,b7 w2 v->At w v (w.heap.size+1+1) #[J Z 0,J I 0,J I 0,J I 0,O Q 0 0,O Q 0 0] 107):=fun v hv=>by rw [<- kc];exact(ah (ap jW jX) jz).below (ap (B _ _) hv)
 obtain⟨C,hC⟩:=km (erC x N c n0 n1 ((kd.toNat:Nat):Int) ix)
 obtain⟨s,hs⟩:=km (he C N c ix n0 F0)
 obtain⟨t,ht⟩:=km (he C N c ix n1 F1)
 have HR:=am fun v (hv:b7 w v)=>eD h v a0 n0 c0 F0 a1 n1 c1 F1 (h0.below hv) (h1.below hv) ((kd.toNat:Nat):Int) ix C hC s t hs ht;have n7:=am xq;have xD:U (¬ E=0->y0=zSl/\y1=zSl):=fun e=>by
  rw [<- qK,<- kL];unfold he;rw [zl e,zl e];exact⟨rfl,rfl⟩
 have A9:U (E=0->C=0->s=y0/\t=y1):=fun e e2=>by
  rw [<- qK,<- kL,<- hs,<- ht,e,e2];exact⟨rfl,rfl⟩
 have qF:E=C:=by rw [<- hE,hC]
 clear hE qK kL hs ht hC h h0 h1;unfold gI bov at HR;unfold AnsF slv;by_cases eC:C=0
 ·subst eC;subst qF;obtain⟨rfl,rfl⟩:=A9.out rfl rfl;have xC:U (∀ v (ao:Option G) (ca:Nat) (bo:Option G) (cb:Nat) (g6:Option G) (i9:Nat) (jr:Option G) (js:Nat),R V 208 #[bov s ao ca bo cb t g6 i9 jr js,J Z ((kd.toNat:Nat):Int)] v fun e w'=>e=S (bov (ofK kd s) (keA (s.kd == kd) ao) (keN (s.kd == kd) ca) (keA (s.kd == kd) bo) (keN (s.kd == kd) cb) (ofK kd t) (keA (t.kd == kd) g6) (keN (t.kd == kd) i9) (keA (t.kd == kd) jr) (keN (t.kd == kd) js))/\b7 v w'):=fun v ao ca bo cb g6 i9 jr js=>gX v s t ao ca bo cb g6 i9 jr js kd;have Jh:U (∀ u (ao:Option G) (ca:Nat) (bo:Option G) (cb:Nat) (g6:Option G) (i9:Nat) (jr:Option G) (js:Nat),R V 351 #[bov (ofK kd s) ao ca bo cb (ofK kd t) g6 i9 jr js] u fun e w'=>e=S (J I (if (ofK kd s).ce<(ofK kd t).ce then 1 else 0))/\b7 u w'):=fun u ao ca bo cb g6 i9 jr js=>mV u (ofK kd s) (ofK kd t) ao ca bo cb g6 i9 jr js;unfold bov at xC Jh;have kM:gN s t kd=(if (ofK kd s).ce<(ofK kd t).ce then 1 else 0)/\gZ s t kd=(if (ofK kd s).ce<(ofK kd t).ce then ofK kd t else ofK kd s)/\gB s t kd=decide (¬ (if (ofK kd s).ce<(ofK kd t).ce then ofK kd t else ofK kd s).ce=0):=⟨rfl,rfl,rfl⟩
  obtain⟨u,hu⟩:=fd (ofK kd s)
  obtain⟨u2,xH⟩:=fd (ofK kd t)
  rw [<- hu,<- xH] at xC Jh kM;clear xD A9;by_cases hlt:u.ce<u2.ce
  ·rw [zk hlt,zk hlt] at kM;simp only [zk hlt] at Jh;clear hlt;by_cases hz:u2.ce=0
   ·have Hl:(u2.ce != 0)=H:=by simp [hz]
    rw [zp (p:=¬ u2.ce=0) (fun h=>h hz)] at kM;have kX:U _:=kM;clear kM hz;go_enter Tryz.func341,Tryz.ntmps341
    go_wp2_with fail
    rw [<- bi,<- ci,<- jz];clear bi jW j7 ci jX kc jz pu xq;refine(HR.out _ Bw.out).mono ?_;rintro e wa ⟨ao,ca,bo,cb,g6,i9,jr,js,rfl,jO,jV,ha⟩;have kZ:=am jO;have m6:=am jV;have HA:=am ha;clear jO jV ha;obtain⟨wb,jD⟩:=fd (wa.alloc (D #[J Z ((s.kd.toNat:Nat):Int),J I s.ix,J I s.ce,J I s.st,O ao s.vn ca,O bo s.dn cb,J Z ((t.kd.toNat:Nat):Int),J I t.ix,J I t.ce,J I t.st,O g6 t.vn i9,O jr t.dn js] 254))
    have HB:U (b7 wa wb):=by show Y _ _ _;rw [jD];exact bal _ _
    have qE:=am (ah (ap Bw.out HA.out) jD);go_wp2_with fail
    rw [<- jD];clear jD;refine(xC.out _ ao ca bo cb g6 i9 jr js).mono ?_;rintro e wc ⟨rfl,hc⟩;have HC:=am hc;clear hc;obtain⟨fo,fa,go,gb,jQ,jR,jS,jT,hf⟩:∃ fo fa go gb jQ jR jS jT,fo=keA (s.kd == kd) ao/\fa=keN (s.kd == kd) ca/\go=keA (s.kd == kd) bo/\gb=keN (s.kd == kd) cb/\jQ=keA (t.kd == kd) g6/\jR=keN (t.kd == kd) i9/\jS=keA (t.kd == kd) jr/\jT=keN (t.kd == kd) js:=⟨_,_,_,_,_,_,_,_,rfl,rfl,rfl,rfl,rfl,rfl,rfl,rfl⟩
    obtain⟨f1,f2,f3,f4,f5,f6,f7,f8⟩:=hf;rw [<- f1,<- f2,<- f3,<- f4,<- f5,<- f6,<- f7,<- f8];obtain⟨wd,jN⟩:=fd (((((((((((((wc.setCell ⟨wa.heap.size,0,Q⟩ (J Z ((u.kd.toNat:Nat):Int))).setCell ⟨wa.heap.size,1,Q⟩ (J I u.ix)).setCell ⟨wa.heap.size,2,Q⟩ (J I u.ce)).setCell ⟨wa.heap.size,3,Q⟩ (J I u.st)).setCell ⟨wa.heap.size,4,Q⟩ (O fo u.vn fa)).setCell ⟨wa.heap.size,5,Q⟩ (O go u.dn gb)).setCell ⟨wa.heap.size,6,Q⟩ (J Z ((u2.kd.toNat:Nat):Int))).setCell ⟨wa.heap.size,7,Q⟩ (J I u2.ix)).setCell ⟨wa.heap.size,8,Q⟩ (J I u2.ce)).setCell ⟨wa.heap.size,9,Q⟩ (J I u2.st)).setCell ⟨wa.heap.size,10,Q⟩ (O jQ u2.vn jR)).setCell ⟨wa.heap.size,11,Q⟩ (O jS u2.dn jT)))
    have yV:U (b7 wa wd):=by show Y _ _ _;rw [jN];have qv:=ap HB.out HC.out;exact qv.trans ((aU wc (wa.heap.size) (J Z ((u.kd.toNat:Nat):Int)) (J I u.ix) (J I u.ce) (J I u.st) (O fo u.vn fa) (O go u.dn gb) (J Z ((u2.kd.toNat:Nat):Int)) (J I u2.ix) (J I u2.ce) (J I u2.st) (O jQ u2.vn jR) (O jS u2.dn jT)).below (fun i hi=>by omega) qv.size)
    have Ht:U (At w wd (wa.heap.size) #[J Z ((u.kd.toNat:Nat):Int),J I u.ix,J I u.ce,J I u.st,O fo u.vn fa,O go u.dn gb,J Z ((u2.kd.toNat:Nat):Int),J I u2.ix,J I u2.ce,J I u2.st,O jQ u2.vn jR,O jS u2.dn jT] 254):=by show At _ _ _ _ _;rw [jN];exact np (qE.out.below HC.out) (J Z ((u.kd.toNat:Nat):Int)) (J I u.ix) (J I u.ce) (J I u.st) (O fo u.vn fa) (O go u.dn gb) (J Z ((u2.kd.toNat:Nat):Int)) (J I u2.ix) (J I u2.ce) (J I u2.st) (O jQ u2.vn jR) (O jS u2.dn jT)
    have HG:U (Got w2.heap.size wd u2 jQ jR jS jT):=by show Got _ _ _ _ _ _ _;rw [f5,f6,f7,f8,xH];exact(m6.out.only kd).below yV.out
    have FP:U (At w wd (w.heap.size+1+1) #[J Z 0,J I 0,J I 0,J I 0,O Q 0 0,O Q 0 0] 107):=(xM.out wa HA.out).below yV.out;have HD:=am (ap (ap Bw.out HA.out) yV.out);clear f1 f2 f3 f4 f5 f6 f7 f8 kZ m6 hu xH yV;have q3:=qE.out.below HC.out;have s0:=q3.cz 0;have s1:=q3.cz 1;have s2:=q3.cz 2;have s3:=q3.cz 3;have s4:=q3.cz 4;have s5:=q3.cz 5;have s6:=q3.cz 6;have s7:=q3.cz 7;have s8:=q3.cz 8;have s9:=q3.cz 9;have yK:=q3.cz 10;have yL:=q3.cz 11;have sf:=q3.free;clear q3;go_wp2_with fail
    rw [<- jN];clear jN s0 s1 s2 s3 s4 s5 s6 s7 s8 s9 yK yL sf;refine(Jh.out _ fo fa go gb jQ jR jS jT).mono ?_;rintro e we ⟨rfl,he⟩;have HE:=am he;clear he;have q2:=FP.out.below HE.out;have q3:=Ht.out.below HE.out;have r0:=q2.cz 0;have r1:=q2.cz 1;have r2:=q2.cz 2;have r3:=q2.cz 3;have r4:=q2.cz 4;have r5:=q2.cz 5;have rf:=q2.free;have s6:=q3.cz 6;have s7:=q3.cz 7;have s8:=q3.cz 8;have s9:=q3.cz 9;have yK:=q3.cz 10;have yL:=q3.cz 11;have nq:¬ wa.heap.size=w.heap.size+1+1:=by have:=HA.out.size;have:=n7.out;omega
    have Kl:¬ w.heap.size+1+1=wa.heap.size:=za;clear q2 q3;go_wp2_with fail
    go_region_held3 (fun v=>v.cell? ⟨wa.heap.size,6,Q⟩=X (J Z ((u2.kd.toNat:Nat):Int))/\v.cell? ⟨wa.heap.size,7,Q⟩=X (J I u2.ix)/\v.cell? ⟨wa.heap.size,8,Q⟩=X (J I u2.ce)/\v.cell? ⟨wa.heap.size,9,Q⟩=X (J I u2.st)/\v.cell? ⟨wa.heap.size,10,Q⟩=X (O jQ u2.vn jR)/\v.cell? ⟨wa.heap.size,11,Q⟩=X (O jS u2.dn jT)) (go_keep) (fail)
    go_wp2_with fail
    refine bodyPost_ret (v:=L #[J I 1,P #[J Z ((u2.kd.toNat:Nat):Int),J I u2.ix,J I u2.ce,J I u2.st,O jQ u2.vn jR,O jS u2.dn jT],T H,J I 0]) (by simp [results,Tryz.results341,go_sem,r0,r1,r2,r3,r4,r5]) rfl ?_;obtain⟨g1,g2,g3⟩:=kX.out;rw [g1,g2,g3];have j9:=ap HD.out HE.out;have ho:=(aW we (w.heap.size+1+1) (J Z ((u2.kd.toNat:Nat):Int)) (J I u2.ix) (J I u2.ce) (J I u2.st) (O jQ u2.vn jR) (O jS u2.dn jT)).drew;exact⟨jQ,jR,jS,jT,rfl,((HG.out.below HE.out).stay ho (by have:=n7.out;omega)).mono (by have:=n7.out;omega),j9.trans (ho.below (fun i hi=>by omega) j9.size)⟩
   ·have Hl:(u2.ce != 0)=F:=by simpa using hz
    rw [zm (p:=¬ u2.ce=0) hz] at kM;have kX:U _:=kM;clear kM hz;go_enter Tryz.func341,Tryz.ntmps341
    go_wp2_with fail
    rw [<- bi,<- ci,<- jz];clear bi jW j7 ci jX kc jz pu xq;refine(HR.out _ Bw.out).mono ?_;rintro e wa ⟨ao,ca,bo,cb,g6,i9,jr,js,rfl,jO,jV,ha⟩;have kZ:=am jO;have m6:=am jV;have HA:=am ha;clear jO jV ha;obtain⟨wb,jD⟩:=fd (wa.alloc (D #[J Z ((s.kd.toNat:Nat):Int),J I s.ix,J I s.ce,J I s.st,O ao s.vn ca,O bo s.dn cb,J Z ((t.kd.toNat:Nat):Int),J I t.ix,J I t.ce,J I t.st,O g6 t.vn i9,O jr t.dn js] 254))
    have HB:U (b7 wa wb):=by show Y _ _ _;rw [jD];exact bal _ _
    have qE:=am (ah (ap Bw.out HA.out) jD);go_wp2_with fail
    rw [<- jD];clear jD;refine(xC.out _ ao ca bo cb g6 i9 jr js).mono ?_;rintro e wc ⟨rfl,hc⟩;have HC:=am hc;clear hc;obtain⟨fo,fa,go,gb,jQ,jR,jS,jT,hf⟩:∃ fo fa go gb jQ jR jS jT,fo=keA (s.kd == kd) ao/\fa=keN (s.kd == kd) ca/\go=keA (s.kd == kd) bo/\gb=keN (s.kd == kd) cb/\jQ=keA (t.kd == kd) g6/\jR=keN (t.kd == kd) i9/\jS=keA (t.kd == kd) jr/\jT=keN (t.kd == kd) js:=⟨_,_,_,_,_,_,_,_,rfl,rfl,rfl,rfl,rfl,rfl,rfl,rfl⟩
    obtain⟨f1,f2,f3,f4,f5,f6,f7,f8⟩:=hf;rw [<- f1,<- f2,<- f3,<- f4,<- f5,<- f6,<- f7,<- f8];obtain⟨wd,jN⟩:=fd (((((((((((((wc.setCell ⟨wa.heap.size,0,Q⟩ (J Z ((u.kd.toNat:Nat):Int))).setCell ⟨wa.heap.size,1,Q⟩ (J I u.ix)).setCell ⟨wa.heap.size,2,Q⟩ (J I u.ce)).setCell ⟨wa.heap.size,3,Q⟩ (J I u.st)).setCell ⟨wa.heap.size,4,Q⟩ (O fo u.vn fa)).setCell ⟨wa.heap.size,5,Q⟩ (O go u.dn gb)).setCell ⟨wa.heap.size,6,Q⟩ (J Z ((u2.kd.toNat:Nat):Int))).setCell ⟨wa.heap.size,7,Q⟩ (J I u2.ix)).setCell ⟨wa.heap.size,8,Q⟩ (J I u2.ce)).setCell ⟨wa.heap.size,9,Q⟩ (J I u2.st)).setCell ⟨wa.heap.size,10,Q⟩ (O jQ u2.vn jR)).setCell ⟨wa.heap.size,11,Q⟩ (O jS u2.dn jT)))
    have yV:U (b7 wa wd):=by show Y _ _ _;rw [jN];have qv:=ap HB.out HC.out;exact qv.trans ((aU wc (wa.heap.size) (J Z ((u.kd.toNat:Nat):Int)) (J I u.ix) (J I u.ce) (J I u.st) (O fo u.vn fa) (O go u.dn gb) (J Z ((u2.kd.toNat:Nat):Int)) (J I u2.ix) (J I u2.ce) (J I u2.st) (O jQ u2.vn jR) (O jS u2.dn jT)).below (fun i hi=>by omega) qv.size)
    have Ht:U (At w wd (wa.heap.size) #[J Z ((u.kd.toNat:Nat):Int),J I u.ix,J I u.ce,J I u.st,O fo u.vn fa,O go u.dn gb,J Z ((u2.kd.toNat:Nat):Int),J I u2.ix,J I u2.ce,J I u2.st,O jQ u2.vn jR,O jS u2.dn jT] 254):=by show At _ _ _ _ _;rw [jN];exact np (qE.out.below HC.out) (J Z ((u.kd.toNat:Nat):Int)) (J I u.ix) (J I u.ce) (J I u.st) (O fo u.vn fa) (O go u.dn gb) (J Z ((u2.kd.toNat:Nat):Int)) (J I u2.ix) (J I u2.ce) (J I u2.st) (O jQ u2.vn jR) (O jS u2.dn jT)
    have HG:U (Got w2.heap.size wd u2 jQ jR jS jT):=by show Got _ _ _ _ _ _ _;rw [f5,f6,f7,f8,xH];exact(m6.out.only kd).below yV.out
    have FP:U (At w wd (w.heap.size+1+1) #[J Z 0,J I 0,J I 0,J I 0,O Q 0 0,O Q 0 0] 107):=(xM.out wa HA.out).below yV.out;have HD:=am (ap (ap Bw.out HA.out) yV.out);clear f1 f2 f3 f4 f5 f6 f7 f8 kZ m6 hu xH yV;have q3:=qE.out.below HC.out;have s0:=q3.cz 0;have s1:=q3.cz 1;have s2:=q3.cz 2;have s3:=q3.cz 3;have s4:=q3.cz 4;have s5:=q3.cz 5;have s6:=q3.cz 6;have s7:=q3.cz 7;have s8:=q3.cz 8;have s9:=q3.cz 9;have yK:=q3.cz 10;have yL:=q3.cz 11;have sf:=q3.free;clear q3;go_wp2_with fail
    rw [<- jN];clear jN s0 s1 s2 s3 s4 s5 s6 s7 s8 s9 yK yL sf;refine(Jh.out _ fo fa go gb jQ jR jS jT).mono ?_;rintro e we ⟨rfl,he⟩;have HE:=am he;clear he;have q2:=FP.out.below HE.out;have q3:=Ht.out.below HE.out;have r0:=q2.cz 0;have r1:=q2.cz 1;have r2:=q2.cz 2;have r3:=q2.cz 3;have r4:=q2.cz 4;have r5:=q2.cz 5;have rf:=q2.free;have s6:=q3.cz 6;have s7:=q3.cz 7;have s8:=q3.cz 8;have s9:=q3.cz 9;have yK:=q3.cz 10;have yL:=q3.cz 11;have nq:¬ wa.heap.size=w.heap.size+1+1:=by have:=HA.out.size;have:=n7.out;omega
    have Kl:¬ w.heap.size+1+1=wa.heap.size:=za;clear q2 q3;go_wp2_with fail
    go_region_held3 (fun v=>v.cell? ⟨wa.heap.size,6,Q⟩=X (J Z ((u2.kd.toNat:Nat):Int))/\v.cell? ⟨wa.heap.size,7,Q⟩=X (J I u2.ix)/\v.cell? ⟨wa.heap.size,8,Q⟩=X (J I u2.ce)/\v.cell? ⟨wa.heap.size,9,Q⟩=X (J I u2.st)/\v.cell? ⟨wa.heap.size,10,Q⟩=X (O jQ u2.vn jR)/\v.cell? ⟨wa.heap.size,11,Q⟩=X (O jS u2.dn jT)) (go_keep) (fail)
    go_wp2_with fail
    refine bodyPost_ret (v:=L #[J I 1,P #[J Z ((u2.kd.toNat:Nat):Int),J I u2.ix,J I u2.ce,J I u2.st,O jQ u2.vn jR,O jS u2.dn jT],T F,J I 0]) (by simp [results,Tryz.results341,go_sem,r0,r1,r2,r3,r4,r5]) rfl ?_;obtain⟨g1,g2,g3⟩:=kX.out;rw [g1,g2,g3];have j9:=ap HD.out HE.out;have ho:=(aW we (w.heap.size+1+1) (J Z ((u2.kd.toNat:Nat):Int)) (J I u2.ix) (J I u2.ce) (J I u2.st) (O jQ u2.vn jR) (O jS u2.dn jT)).drew;exact⟨jQ,jR,jS,jT,rfl,((HG.out.below HE.out).stay ho (by have:=n7.out;omega)).mono (by have:=n7.out;omega),j9.trans (ho.below (fun i hi=>by omega) j9.size)⟩
  ·rw [zl hlt,zl hlt] at kM;simp only [zl hlt] at Jh;clear hlt;by_cases hz:u.ce=0
   ·have Hl:(u.ce != 0)=H:=by simp [hz]
    rw [zp (p:=¬ u.ce=0) (fun h=>h hz)] at kM;have kX:U _:=kM;clear kM hz;go_enter Tryz.func341,Tryz.ntmps341
    go_wp2_with fail
    rw [<- bi,<- ci,<- jz];clear bi jW j7 ci jX kc jz pu xq;refine(HR.out _ Bw.out).mono ?_;rintro e wa ⟨ao,ca,bo,cb,g6,i9,jr,js,rfl,jO,jV,ha⟩;have kZ:=am jO;have m6:=am jV;have HA:=am ha;clear jO jV ha;obtain⟨wb,jD⟩:=fd (wa.alloc (D #[J Z ((s.kd.toNat:Nat):Int),J I s.ix,J I s.ce,J I s.st,O ao s.vn ca,O bo s.dn cb,J Z ((t.kd.toNat:Nat):Int),J I t.ix,J I t.ce,J I t.st,O g6 t.vn i9,O jr t.dn js] 254))
    have HB:U (b7 wa wb):=by show Y _ _ _;rw [jD];exact bal _ _
    have qE:=am (ah (ap Bw.out HA.out) jD);go_wp2_with fail
    rw [<- jD];clear jD;refine(xC.out _ ao ca bo cb g6 i9 jr js).mono ?_;rintro e wc ⟨rfl,hc⟩;have HC:=am hc;clear hc;obtain⟨fo,fa,go,gb,jQ,jR,jS,jT,hf⟩:∃ fo fa go gb jQ jR jS jT,fo=keA (s.kd == kd) ao/\fa=keN (s.kd == kd) ca/\go=keA (s.kd == kd) bo/\gb=keN (s.kd == kd) cb/\jQ=keA (t.kd == kd) g6/\jR=keN (t.kd == kd) i9/\jS=keA (t.kd == kd) jr/\jT=keN (t.kd == kd) js:=⟨_,_,_,_,_,_,_,_,rfl,rfl,rfl,rfl,rfl,rfl,rfl,rfl⟩
    obtain⟨f1,f2,f3,f4,f5,f6,f7,f8⟩:=hf;rw [<- f1,<- f2,<- f3,<- f4,<- f5,<- f6,<- f7,<- f8];obtain⟨wd,jN⟩:=fd (((((((((((((wc.setCell ⟨wa.heap.size,0,Q⟩ (J Z ((u.kd.toNat:Nat):Int))).setCell ⟨wa.heap.size,1,Q⟩ (J I u.ix)).setCell ⟨wa.heap.size,2,Q⟩ (J I u.ce)).setCell ⟨wa.heap.size,3,Q⟩ (J I u.st)).setCell ⟨wa.heap.size,4,Q⟩ (O fo u.vn fa)).setCell ⟨wa.heap.size,5,Q⟩ (O go u.dn gb)).setCell ⟨wa.heap.size,6,Q⟩ (J Z ((u2.kd.toNat:Nat):Int))).setCell ⟨wa.heap.size,7,Q⟩ (J I u2.ix)).setCell ⟨wa.heap.size,8,Q⟩ (J I u2.ce)).setCell ⟨wa.heap.size,9,Q⟩ (J I u2.st)).setCell ⟨wa.heap.size,10,Q⟩ (O jQ u2.vn jR)).setCell ⟨wa.heap.size,11,Q⟩ (O jS u2.dn jT)))
    have yV:U (b7 wa wd):=by show Y _ _ _;rw [jN];have qv:=ap HB.out HC.out;exact qv.trans ((aU wc (wa.heap.size) (J Z ((u.kd.toNat:Nat):Int)) (J I u.ix) (J I u.ce) (J I u.st) (O fo u.vn fa) (O go u.dn gb) (J Z ((u2.kd.toNat:Nat):Int)) (J I u2.ix) (J I u2.ce) (J I u2.st) (O jQ u2.vn jR) (O jS u2.dn jT)).below (fun i hi=>by omega) qv.size)
    have Ht:U (At w wd (wa.heap.size) #[J Z ((u.kd.toNat:Nat):Int),J I u.ix,J I u.ce,J I u.st,O fo u.vn fa,O go u.dn gb,J Z ((u2.kd.toNat:Nat):Int),J I u2.ix,J I u2.ce,J I u2.st,O jQ u2.vn jR,O jS u2.dn jT] 254):=by show At _ _ _ _ _;rw [jN];exact np (qE.out.below HC.out) (J Z ((u.kd.toNat:Nat):Int)) (J I u.ix) (J I u.ce) (J I u.st) (O fo u.vn fa) (O go u.dn gb) (J Z ((u2.kd.toNat:Nat):Int)) (J I u2.ix) (J I u2.ce) (J I u2.st) (O jQ u2.vn jR) (O jS u2.dn jT)
    have HG:U (Got w2.heap.size wd u fo fa go gb):=by show Got _ _ _ _ _ _ _;rw [f1,f2,f3,f4,hu];exact(kZ.out.only kd).below yV.out
    have FP:U (At w wd (w.heap.size+1+1) #[J Z 0,J I 0,J I 0,J I 0,O Q 0 0,O Q 0 0] 107):=(xM.out wa HA.out).below yV.out;have HD:=am (ap (ap Bw.out HA.out) yV.out);clear f1 f2 f3 f4 f5 f6 f7 f8 kZ m6 hu xH yV;have q3:=qE.out.below HC.out;have s0:=q3.cz 0;have s1:=q3.cz 1;have s2:=q3.cz 2;have s3:=q3.cz 3;have s4:=q3.cz 4;have s5:=q3.cz 5;have s6:=q3.cz 6;have s7:=q3.cz 7;have s8:=q3.cz 8;have s9:=q3.cz 9;have yK:=q3.cz 10;have yL:=q3.cz 11;have sf:=q3.free;clear q3;go_wp2_with fail
    rw [<- jN];clear jN s0 s1 s2 s3 s4 s5 s6 s7 s8 s9 yK yL sf;refine(Jh.out _ fo fa go gb jQ jR jS jT).mono ?_;rintro e we ⟨rfl,he⟩;have HE:=am he;clear he;have q2:=FP.out.below HE.out;have q3:=Ht.out.below HE.out;have r0:=q2.cz 0;have r1:=q2.cz 1;have r2:=q2.cz 2;have r3:=q2.cz 3;have r4:=q2.cz 4;have r5:=q2.cz 5;have rf:=q2.free;have s0:=q3.cz 0;have s1:=q3.cz 1;have s2:=q3.cz 2;have s3:=q3.cz 3;have s4:=q3.cz 4;have s5:=q3.cz 5;have nq:¬ wa.heap.size=w.heap.size+1+1:=by have:=HA.out.size;have:=n7.out;omega
    have Kl:¬ w.heap.size+1+1=wa.heap.size:=za;clear q2 q3;go_wp2_with fail
    go_region_held3 (fun v=>v.cell? ⟨wa.heap.size,0,Q⟩=X (J Z ((u.kd.toNat:Nat):Int))/\v.cell? ⟨wa.heap.size,1,Q⟩=X (J I u.ix)/\v.cell? ⟨wa.heap.size,2,Q⟩=X (J I u.ce)/\v.cell? ⟨wa.heap.size,3,Q⟩=X (J I u.st)/\v.cell? ⟨wa.heap.size,4,Q⟩=X (O fo u.vn fa)/\v.cell? ⟨wa.heap.size,5,Q⟩=X (O go u.dn gb)) (go_keep) (fail)
    go_wp2_with fail
    refine bodyPost_ret (v:=L #[J I 0,P #[J Z ((u.kd.toNat:Nat):Int),J I u.ix,J I u.ce,J I u.st,O fo u.vn fa,O go u.dn gb],T H,J I 0]) (by simp [results,Tryz.results341,go_sem,r0,r1,r2,r3,r4,r5]) rfl ?_;obtain⟨g1,g2,g3⟩:=kX.out;rw [g1,g2,g3];have j9:=ap HD.out HE.out;have ho:=(aW we (w.heap.size+1+1) (J Z ((u.kd.toNat:Nat):Int)) (J I u.ix) (J I u.ce) (J I u.st) (O fo u.vn fa) (O go u.dn gb)).drew;exact⟨fo,fa,go,gb,rfl,((HG.out.below HE.out).stay ho (by have:=n7.out;omega)).mono (by have:=n7.out;omega),j9.trans (ho.below (fun i hi=>by omega) j9.size)⟩
   ·have Hl:(u.ce != 0)=F:=by simpa using hz
    rw [zm (p:=¬ u.ce=0) hz] at kM;have kX:U _:=kM;clear kM hz;go_enter Tryz.func341,Tryz.ntmps341
    go_wp2_with fail
    rw [<- bi,<- ci,<- jz];clear bi jW j7 ci jX kc jz pu xq;refine(HR.out _ Bw.out).mono ?_;rintro e wa ⟨ao,ca,bo,cb,g6,i9,jr,js,rfl,jO,jV,ha⟩;have kZ:=am jO;have m6:=am jV;have HA:=am ha;clear jO jV ha;obtain⟨wb,jD⟩:=fd (wa.alloc (D #[J Z ((s.kd.toNat:Nat):Int),J I s.ix,J I s.ce,J I s.st,O ao s.vn ca,O bo s.dn cb,J Z ((t.kd.toNat:Nat):Int),J I t.ix,J I t.ce,J I t.st,O g6 t.vn i9,O jr t.dn js] 254))
    have HB:U (b7 wa wb):=by show Y _ _ _;rw [jD];exact bal _ _
    have qE:=am (ah (ap Bw.out HA.out) jD);go_wp2_with fail
    rw [<- jD];clear jD;refine(xC.out _ ao ca bo cb g6 i9 jr js).mono ?_;rintro e wc ⟨rfl,hc⟩;have HC:=am hc;clear hc;obtain⟨fo,fa,go,gb,jQ,jR,jS,jT,hf⟩:∃ fo fa go gb jQ jR jS jT,fo=keA (s.kd == kd) ao/\fa=keN (s.kd == kd) ca/\go=keA (s.kd == kd) bo/\gb=keN (s.kd == kd) cb/\jQ=keA (t.kd == kd) g6/\jR=keN (t.kd == kd) i9/\jS=keA (t.kd == kd) jr/\jT=keN (t.kd == kd) js:=⟨_,_,_,_,_,_,_,_,rfl,rfl,rfl,rfl,rfl,rfl,rfl,rfl⟩
    obtain⟨f1,f2,f3,f4,f5,f6,f7,f8⟩:=hf;rw [<- f1,<- f2,<- f3,<- f4,<- f5,<- f6,<- f7,<- f8];obtain⟨wd,jN⟩:=fd (((((((((((((wc.setCell ⟨wa.heap.size,0,Q⟩ (J Z ((u.kd.toNat:Nat):Int))).setCell ⟨wa.heap.size,1,Q⟩ (J I u.ix)).setCell ⟨wa.heap.size,2,Q⟩ (J I u.ce)).setCell ⟨wa.heap.size,3,Q⟩ (J I u.st)).setCell ⟨wa.heap.size,4,Q⟩ (O fo u.vn fa)).setCell ⟨wa.heap.size,5,Q⟩ (O go u.dn gb)).setCell ⟨wa.heap.size,6,Q⟩ (J Z ((u2.kd.toNat:Nat):Int))).setCell ⟨wa.heap.size,7,Q⟩ (J I u2.ix)).setCell ⟨wa.heap.size,8,Q⟩ (J I u2.ce)).setCell ⟨wa.heap.size,9,Q⟩ (J I u2.st)).setCell ⟨wa.heap.size,10,Q⟩ (O jQ u2.vn jR)).setCell ⟨wa.heap.size,11,Q⟩ (O jS u2.dn jT)))
    have yV:U (b7 wa wd):=by show Y _ _ _;rw [jN];have qv:=ap HB.out HC.out;exact qv.trans ((aU wc (wa.heap.size) (J Z ((u.kd.toNat:Nat):Int)) (J I u.ix) (J I u.ce) (J I u.st) (O fo u.vn fa) (O go u.dn gb) (J Z ((u2.kd.toNat:Nat):Int)) (J I u2.ix) (J I u2.ce) (J I u2.st) (O jQ u2.vn jR) (O jS u2.dn jT)).below (fun i hi=>by omega) qv.size)
    have Ht:U (At w wd (wa.heap.size) #[J Z ((u.kd.toNat:Nat):Int),J I u.ix,J I u.ce,J I u.st,O fo u.vn fa,O go u.dn gb,J Z ((u2.kd.toNat:Nat):Int),J I u2.ix,J I u2.ce,J I u2.st,O jQ u2.vn jR,O jS u2.dn jT] 254):=by show At _ _ _ _ _;rw [jN];exact np (qE.out.below HC.out) (J Z ((u.kd.toNat:Nat):Int)) (J I u.ix) (J I u.ce) (J I u.st) (O fo u.vn fa) (O go u.dn gb) (J Z ((u2.kd.toNat:Nat):Int)) (J I u2.ix) (J I u2.ce) (J I u2.st) (O jQ u2.vn jR) (O jS u2.dn jT)
    have HG:U (Got w2.heap.size wd u fo fa go gb):=by show Got _ _ _ _ _ _ _;rw [f1,f2,f3,f4,hu];exact(kZ.out.only kd).below yV.out
    have FP:U (At w wd (w.heap.size+1+1) #[J Z 0,J I 0,J I 0,J I 0,O Q 0 0,O Q 0 0] 107):=(xM.out wa HA.out).below yV.out;have HD:=am (ap (ap Bw.out HA.out) yV.out);clear f1 f2 f3 f4 f5 f6 f7 f8 kZ m6 hu xH yV;have q3:=qE.out.below HC.out;have s0:=q3.cz 0;have s1:=q3.cz 1;have s2:=q3.cz 2;have s3:=q3.cz 3;have s4:=q3.cz 4;have s5:=q3.cz 5;have s6:=q3.cz 6;have s7:=q3.cz 7;have s8:=q3.cz 8;have s9:=q3.cz 9;have yK:=q3.cz 10;have yL:=q3.cz 11;have sf:=q3.free;clear q3;go_wp2_with fail
    rw [<- jN];clear jN s0 s1 s2 s3 s4 s5 s6 s7 s8 s9 yK yL sf;refine(Jh.out _ fo fa go gb jQ jR jS jT).mono ?_;rintro e we ⟨rfl,he⟩;have HE:=am he;clear he;have q2:=FP.out.below HE.out;have q3:=Ht.out.below HE.out;have r0:=q2.cz 0;have r1:=q2.cz 1;have r2:=q2.cz 2;have r3:=q2.cz 3;have r4:=q2.cz 4;have r5:=q2.cz 5;have rf:=q2.free;have s0:=q3.cz 0;have s1:=q3.cz 1;have s2:=q3.cz 2;have s3:=q3.cz 3;have s4:=q3.cz 4;have s5:=q3.cz 5;have nq:¬ wa.heap.size=w.heap.size+1+1:=by have:=HA.out.size;have:=n7.out;omega
    have Kl:¬ w.heap.size+1+1=wa.heap.size:=za;clear q2 q3;go_wp2_with fail
    go_region_held3 (fun v=>v.cell? ⟨wa.heap.size,0,Q⟩=X (J Z ((u.kd.toNat:Nat):Int))/\v.cell? ⟨wa.heap.size,1,Q⟩=X (J I u.ix)/\v.cell? ⟨wa.heap.size,2,Q⟩=X (J I u.ce)/\v.cell? ⟨wa.heap.size,3,Q⟩=X (J I u.st)/\v.cell? ⟨wa.heap.size,4,Q⟩=X (O fo u.vn fa)/\v.cell? ⟨wa.heap.size,5,Q⟩=X (O go u.dn gb)) (go_keep) (fail)
    go_wp2_with fail
    refine bodyPost_ret (v:=L #[J I 0,P #[J Z ((u.kd.toNat:Nat):Int),J I u.ix,J I u.ce,J I u.st,O fo u.vn fa,O go u.dn gb],T F,J I 0]) (by simp [results,Tryz.results341,go_sem,r0,r1,r2,r3,r4,r5]) rfl ?_;obtain⟨g1,g2,g3⟩:=kX.out;rw [g1,g2,g3];have j9:=ap HD.out HE.out;have ho:=(aW we (w.heap.size+1+1) (J Z ((u.kd.toNat:Nat):Int)) (J I u.ix) (J I u.ce) (J I u.st) (O fo u.vn fa) (O go u.dn gb)).drew;exact⟨fo,fa,go,gb,rfl,((HG.out.below HE.out).stay ho (by have:=n7.out;omega)).mono (by have:=n7.out;omega),j9.trans (ho.below (fun i hi=>by omega) j9.size)⟩
 ·have f9:¬ E=0:=by rw [qF];exact eC
  subst qF;have hq:(E != 0)=F:=by simpa using eC
  go_enter Tryz.func341,Tryz.ntmps341
  go_wp2_with fail
  rw [<- bi,<- ci,<- jz];clear bi jW j7 ci jX kc jz pu xq;refine(HR.out _ Bw.out).mono ?_;rintro e wa ⟨ao,ca,bo,cb,g6,i9,jr,js,rfl,jO,jV,ha⟩;have kZ:=am jO;have m6:=am jV;have HA:=am ha;clear jO jV ha;have q2:=xM.out wa HA.out;have r0:=fun o=>(q2.alloc o).cz 0;have r1:=fun o=>(q2.alloc o).cz 1;have r2:=fun o=>(q2.alloc o).cz 2;have r3:=fun o=>(q2.alloc o).cz 3;have r4:=fun o=>(q2.alloc o).cz 4;have r5:=fun o=>(q2.alloc o).cz 5;have rf:=fun o=>(q2.alloc o).free;clear q2;go_wp2_with fail
  refine bodyPost_ret (v:=L #[J I 0,P #[J Z 0,J I 0,J I 0,J I 0,O Q 0 0,O Q 0 0],T H,J I E]) (by simp [results,Tryz.results341,go_sem,r0,r1,r2,r3,r4,r5]) rfl ?_;obtain⟨rfl,rfl⟩:=xD.out (by first | assumption | decide | trivial);rw [(vE kd).1,(vE kd).2.1,(vE kd).2.2];refine⟨Q,0,Q,0,rfl,aR _ _,?_⟩;have j9:=aa (ap Bw.out HA.out) (D #[J Z ((s.kd.toNat:Nat):Int),J I s.ix,J I s.ce,J I s.st,O ao s.vn ca,O bo s.dn cb,J Z ((t.kd.toNat:Nat):Int),J I t.ix,J I t.ce,J I t.st,O g6 t.vn i9,O jr t.dn js] 254);exact j9.trans ((aW (wa.alloc (D #[J Z ((s.kd.toNat:Nat):Int),J I s.ix,J I s.ce,J I s.st,O ao s.vn ca,O bo s.dn cb,J Z ((t.kd.toNat:Nat):Int),J I t.ix,J I t.ce,J I t.st,O g6 t.vn i9,O jr t.dn js] 254)) (w.heap.size+1+1) (J Z 0) (J I 0) (J I 0) (J I 0) (O Q 0 0) (O Q 0 0)).below (fun i hi=>by omega) j9.size)
end Go.Proofs.YtemlojjkokooeaaGreat
