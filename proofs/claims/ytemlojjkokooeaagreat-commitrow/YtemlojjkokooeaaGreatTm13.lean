import Derived.Test.YtemlojjkokooeaaGreatTm12
open Go.Value renaming int->J,slice->I,agg->P,bool->L,tuple->T
open Go.IntKind renaming i64->O,u8->U
open Go.RowKit renaming Below->Q,Hid->Y
open Option renaming none->Z,some->g
open Go.Proofs.Tryz renaming prog->X
open Go.Obj renaming cells->D
open Go.Ending renaming returned->G
open Bool renaming true->V,false->B
open Go renaming Calls->H,Addr->S,World->A
open Go.RowKit.Below renaming refl->j
open Nat renaming zero_le->f
set_option maxHeartbeats 16000000
set_option maxRecDepth 100000
namespace Go.Proofs.YtemlojjkokooeaaGreat
open Go.RowKit
def hB (y:Sl) (kd:UInt8) (v:Int):Bool:=decide (v ≠ 0/\y.kd=kd/\y.ce=v)
def fN (y0 y1:Sl) (kd:UInt8) (v:Int):Nat:=if hB y0 kd v=V then 0 else if hB y1 kd v=V then 1 else 0
def fZ (y0 y1:Sl) (kd:UInt8) (v:Int):Sl:=if hB y0 kd v=V then y0 else if hB y1 kd v=V then y1 else zSl
def fB (y0 y1:Sl) (kd:UInt8) (v:Int):Bool:=hB y0 kd v || hB y1 kd v
def gN (y0 y1:Sl) (kd:UInt8):Nat:=if (ofK kd y0).ce<(ofK kd y1).ce then 1 else 0
def gZ (y0 y1:Sl) (kd:UInt8):Sl:=if (ofK kd y0).ce<(ofK kd y1).ce then ofK kd y1 else ofK kd y0
def gB (y0 y1:Sl) (kd:UInt8):Bool:=decide (¬ (gZ y0 y1 kd).ce=0)
def oN (y0 y1:Sl) (kd:UInt8) (v:Int):Nat:=if hB y0 kd v=V then 1 else if hB y1 kd v=V then 0 else if y1.ce<y0.ce then 1 else 0
def erF (C v:Int):Int:=if C=0 then (if 1<=v/\v<=1073741824 then 0 else 2) else C
def erO (C v:Int):Int:=if C=0 then (if 0<=v/\v<=1073741824 then 0 else 2) else C
def AnsF (w:A) (E:Int) (n:Nat) (z:Sl) (i:Bool) (e:Ending) (w':A):Prop :=
  ∃ ao ca bo cb,e=.returned (.tuple #[.int .i64 (n:Int),slv z ao ca bo cb,.bool i,.int .i64 E])/\Got w.heap.size w' z ao ca bo cb/\b7 w w'
theorem hB_z(kd:UInt8)(v:Int):hB zSl kd v=B:=zp fun h=>h.1 h.2.2.symm
theorem eE{kd:UInt8}{y:Sl}{v:Int}(hv:v ≠ 0):decide ((ofK kd y).ce=v)=hB y kd v:=by
 unfold hB ofK;by_cases e:y.kd=kd
 ·rw [zk e];exact decide_eq_decide.2 ⟨fun h=>⟨hv,e,h⟩,fun h=>h.2.2⟩
 ·rw [zl e,zp (p:=v ≠ 0/\y.kd=kd/\y.ce=v) (fun h=>e h.2.1)];exact zp fun h=>hv h.symm
theorem fF(kd:UInt8)(v:Int):fN zSl zSl kd v=0/\fZ zSl zSl kd v=zSl/\fB zSl zSl kd v=B:=by
 unfold fN fZ fB;rw [hB_z];exact⟨rfl,rfl,rfl⟩
theorem vy{k r c q:Int}{N W:Nat}{x:Int}(h:Par k r c q N W x)(w:A)(a0:Option S)(n0 c0:Nat)(F0:Nat->UInt8)(a1:Option S)(n1 c1:Nat)(F1:Nat->UInt8)(h0:Bec w a0 n0 c0 F0)(h1:Bec w a1 n1 c1 F1)(kd:UInt8)(ix v:Int)(E:Int)(hE:erF (erC x N c n0 n1 ((kd.toNat:Nat):Int) ix) v=E)(y0 y1:Sl)(qK:he E N c ix n0 F0=y0)(kL:he E N c ix n1 F1=y1):
  H X 136 #[Pz k r c q,P #[I a0 n0 c0,I a1 n1 c1],J U ((kd.toNat:Nat):Int),J O ix,J O v] w (AnsF w E (fN y0 y1 kd v) (fZ y0 y1 kd v) (fB y0 y1 kd v)):=by
 obtain⟨w0,bi⟩:=jM w k r c q
 have jW:=jt bi
 have j7:=ks bi
 obtain⟨w1,ci⟩:=fd (w0.alloc (D #[I a0 n0 c0,I a1 n1 c1] 97))
 have jX:=jt ci
 have kc:w1.heap.size=w.heap.size+1+1:=by rw [ci];simp [j7]
 obtain⟨w2,jz⟩:=fd (w1.alloc (D #[J U 0,J O 0,J O 0,J O 0,I Z 0 0,I Z 0 0] 107))
 have pu:=jt jz
 have xq:w2.heap.size=w.heap.size+1+1+1:=by rw [jz];simp [kc]
 have Bw:Y (b7 w w2):=(ap (ap jW jX) pu)
 have kF:Y (∀ v,b7 w2 v->At w v (w.heap.size) #[J O k,J O r,J O c,J O q] 23):=fun v hv=>by exact(ah (j _ _) bi).below (ap (ap jX pu) hv)
 have kV:Y (∀ v,b7 w2 v->At w v (w.heap.size+1) #[I a0 n0 c0,I a1 n1 c1] 97):=fun v hv=>by rw [<- j7];exact(ah jW ci).below (ap pu hv)
 have xM:Y (∀ v,b7 w2 v->At w v (w.heap.size+1+1) #[J U 0,J O 0,J O 0,J O 0,I Z 0 0,I Z 0 0] 107):=fun v hv=>by rw [<- kc];exact(ah (ap jW jX) jz).below (ap (j _ _) hv)
 obtain⟨C,hC⟩:=km (erC x N c n0 n1 ((kd.toNat:Nat):Int) ix)
 obtain⟨s,hs⟩:=km (he C N c ix n0 F0)
 obtain⟨t,ht⟩:=km (he C N c ix n1 F1)
 have HR:=am fun v (hv:b7 w v)=>eD h v a0 n0 c0 F0 a1 n1 c1 F1 (h0.below hv) (h1.below hv) ((kd.toNat:Nat):Int) ix C hC s t hs ht;have n7:=am xq;have xD:Y (¬ E=0->y0=zSl/\y1=zSl):=fun e=>by
  rw [<- qK,<- kL];unfold he;rw [zl e,zl e];exact⟨rfl,rfl⟩
 have A9:Y (E=0->C=0->s=y0/\t=y1):=fun e e2=>by
  rw [<- qK,<- kL,<- hs,<- ht,e,e2];exact⟨rfl,rfl⟩
 have qF:E=if C=0 then (if 1<=v/\v<=1073741824 then 0 else 2) else C:=by rw [<- hE,hC];rfl
 clear hE qK kL hs ht hC h h0 h1;unfold gI bov at HR;unfold AnsF slv;by_cases eC:C=0
 ·subst eC;rw [zk rfl] at qF;by_cases vv:1<=v/\v<=1073741824
  ·rw [zk vv] at qF;subst qF;obtain⟨v1,v2⟩:=vv;obtain⟨rfl,rfl⟩:=A9.out rfl rfl;have v3:¬ v<1:=za;have v4:¬ 1073741824<v:=za;have v5:v ≠ 0:=za;have xC:Y (∀ v (ao:Option S) (ca:Nat) (bo:Option S) (cb:Nat) (g6:Option S) (i9:Nat) (jr:Option S) (js:Nat),H X 208 #[bov s ao ca bo cb t g6 i9 jr js,J U ((kd.toNat:Nat):Int)] v fun e w'=>e=G (bov (ofK kd s) (keA (s.kd == kd) ao) (keN (s.kd == kd) ca) (keA (s.kd == kd) bo) (keN (s.kd == kd) cb) (ofK kd t) (keA (t.kd == kd) g6) (keN (t.kd == kd) i9) (keA (t.kd == kd) jr) (keN (t.kd == kd) js))/\b7 v w'):=fun v ao ca bo cb g6 i9 jr js=>gX v s t ao ca bo cb g6 i9 jr js kd;have kW:Y (∀ u (ao:Option S) (ca:Nat) (bo:Option S) (cb:Nat) (g6:Option S) (i9:Nat) (jr:Option S) (js:Nat),H X 209 #[bov (ofK kd s) ao ca bo cb (ofK kd t) g6 i9 jr js,J O v] u fun e w'=>e=G (T #[J O (if hB s kd v=V then 0 else if hB t kd v=V then 1 else 0),L (hB s kd v || hB t kd v)])/\b7 u w'):=fun u ao ca bo cb g6 i9 jr js=>by
    have hf:=iP u (ofK kd s) (ofK kd t) ao ca bo cb g6 i9 jr js v;rw [eE v5,eE v5] at hf;refine hf.mono ?_;rintro e w' ⟨rfl,hb⟩;refine⟨?_,hb⟩;rw [<- eE (y:=s) v5,<- eE (y:=t) v5];simp only [decide_eq_true_eq]
   clear v1 v2 v5 xD A9;unfold bov at xC kW;have kM:fN s t kd v=(if hB s kd v=V then 0 else if hB t kd v=V then 1 else 0)/\fZ s t kd v=(if hB s kd v=V then s else if hB t kd v=V then t else zSl)/\fB s t kd v=(hB s kd v || hB t kd v):=⟨rfl,rfl,rfl⟩
   obtain⟨u,hu⟩:=fd (ofK kd s)
   obtain⟨u2,xH⟩:=fd (ofK kd t)
   rw [<- hu,<- xH] at xC kW;clear hu xH;cases hs0:hB s kd v
   ·rw [hs0] at kW kM;cases ht0:hB t kd v
    ·rw [ht0] at kW kM;simp only [Bool.false_eq_true,if_false,Bool.or_self] at kW kM;have zu:=kW;have kX:Y _:=kM;clear kW kM hs0 ht0;go_enter Tryz.func136,Tryz.ntmps136
     go_wp2_with fail
     rw [<- bi,<- ci,<- jz];clear bi jW j7 ci jX kc jz pu xq;refine(HR.out _ Bw.out).mono ?_;rintro e wa ⟨ao,ca,bo,cb,g6,i9,jr,js,rfl,jO,jV,ha⟩;have kZ:=am jO;have m6:=am jV;have HA:=am ha;clear jO jV ha;obtain⟨wb,jD⟩:=fd (wa.alloc (D #[J U ((s.kd.toNat:Nat):Int),J O s.ix,J O s.ce,J O s.st,I ao s.vn ca,I bo s.dn cb,J U ((t.kd.toNat:Nat):Int),J O t.ix,J O t.ce,J O t.st,I g6 t.vn i9,I jr t.dn js] 254))
     have HB:Y (b7 wa wb):=by show Q _ _ _;rw [jD];exact bal _ _
     have qE:=am (ah (ap Bw.out HA.out) jD);go_wp2_with fail
     rw [<- jD];clear jD;refine(xC.out _ ao ca bo cb g6 i9 jr js).mono ?_;rintro e wc ⟨rfl,hc⟩;have HC:=am hc;clear hc;obtain⟨fo,fa,go,gb,jQ,jR,jS,jT,hf⟩:∃ fo fa go gb jQ jR jS jT,fo=keA (s.kd == kd) ao/\fa=keN (s.kd == kd) ca/\go=keA (s.kd == kd) bo/\gb=keN (s.kd == kd) cb/\jQ=keA (t.kd == kd) g6/\jR=keN (t.kd == kd) i9/\jS=keA (t.kd == kd) jr/\jT=keN (t.kd == kd) js:=⟨_,_,_,_,_,_,_,_,rfl,rfl,rfl,rfl,rfl,rfl,rfl,rfl⟩
     obtain⟨f1,f2,f3,f4,f5,f6,f7,f8⟩:=hf;rw [<- f1,<- f2,<- f3,<- f4,<- f5,<- f6,<- f7,<- f8];clear f1 f2 f3 f4 f5 f6 f7 f8;go_wp2_with fail
     refine(zu.out _ fo fa go gb jQ jR jS jT).mono ?_;rintro e wd ⟨rfl,hd⟩;have HD:=am (ap HC.out hd);clear hd HC;have q2:=xM.out wd (ap (ap HA.out HB.out) HD.out);have r0:=q2.cz 0;have r1:=q2.cz 1;have r2:=q2.cz 2;have r3:=q2.cz 3;have r4:=q2.cz 4;have r5:=q2.cz 5;have rf:=q2.free;clear q2;go_wp2_with fail
     refine bodyPost_ret (v:=T #[J O 0,P #[J U 0,J O 0,J O 0,J O 0,I Z 0 0,I Z 0 0],L B,J O 0]) (by simp [results,Tryz.results136,go_sem,r0,r1,r2,r3,r4,r5]) rfl ?_;obtain⟨g1,g2,g3⟩:=kX.out;rw [g1,g2,g3];refine⟨Z,0,Z,0,rfl,aR _ _,?_⟩;have j9:=ap (ap Bw.out HA.out) (ap HB.out HD.out);exact j9.trans ((aW wd (w.heap.size+1+1) (J U 0) (J O 0) (J O 0) (J O 0) (I Z 0 0) (I Z 0 0)).below (fun i hi=>by omega) j9.size)
    ·rw [ht0] at kW kM;simp only [Bool.false_eq_true,if_false,if_true,Bool.or_true] at kW kM;have zu:=kW;have kX:Y _:=kM;clear kW kM hs0 ht0;go_enter Tryz.func136,Tryz.ntmps136
     go_wp2_with fail
     rw [<- bi,<- ci,<- jz];clear bi jW j7 ci jX kc jz pu xq;refine(HR.out _ Bw.out).mono ?_;rintro e wa ⟨ao,ca,bo,cb,g6,i9,jr,js,rfl,jO,jV,ha⟩;have kZ:=am jO;have m6:=am jV;have HA:=am ha;clear jO jV ha;obtain⟨wb,jD⟩:=fd (wa.alloc (D #[J U ((s.kd.toNat:Nat):Int),J O s.ix,J O s.ce,J O s.st,I ao s.vn ca,I bo s.dn cb,J U ((t.kd.toNat:Nat):Int),J O t.ix,J O t.ce,J O t.st,I g6 t.vn i9,I jr t.dn js] 254))
     have HB:Y (b7 wa wb):=by show Q _ _ _;rw [jD];exact bal _ _
     have qE:=am (ah (ap Bw.out HA.out) jD);go_wp2_with fail
     rw [<- jD];clear jD;refine(xC.out _ ao ca bo cb g6 i9 jr js).mono ?_;rintro e wc ⟨rfl,hc⟩;have HC:=am hc;clear hc;obtain⟨fo,fa,go,gb,jQ,jR,jS,jT,hf⟩:∃ fo fa go gb jQ jR jS jT,fo=keA (s.kd == kd) ao/\fa=keN (s.kd == kd) ca/\go=keA (s.kd == kd) bo/\gb=keN (s.kd == kd) cb/\jQ=keA (t.kd == kd) g6/\jR=keN (t.kd == kd) i9/\jS=keA (t.kd == kd) jr/\jT=keN (t.kd == kd) js:=⟨_,_,_,_,_,_,_,_,rfl,rfl,rfl,rfl,rfl,rfl,rfl,rfl⟩
     obtain⟨f1,f2,f3,f4,f5,f6,f7,f8⟩:=hf;rw [<- f1,<- f2,<- f3,<- f4,<- f5,<- f6,<- f7,<- f8];clear f1 f2 f3 f4 f5 f6 f7 f8;go_wp2_with fail
     refine(zu.out _ fo fa go gb jQ jR jS jT).mono ?_;rintro e wd ⟨rfl,hd⟩;have HD:=am (ap HC.out hd);clear hd HC;have q2:=xM.out wd (ap (ap HA.out HB.out) HD.out);have r0:=q2.cz 0;have r1:=q2.cz 1;have r2:=q2.cz 2;have r3:=q2.cz 3;have r4:=q2.cz 4;have r5:=q2.cz 5;have rf:=q2.free;have q3:=qE.out.below HD.out;have s6:=q3.cz 6;have s7:=q3.cz 7;have s8:=q3.cz 8;have s9:=q3.cz 9;have yK:=q3.cz 10;have yL:=q3.cz 11;clear q2 q3;go_wp2_with fail
     refine wp_region_still_tail 5 zh zh ?_;simp only [List.take_succ_cons,List.take_zero,List.drop_succ_cons,List.drop_zero]
     repeat (refine wpStill_step (fun K hK=>?_);go_simp;refine hK _ ?_;clear hK K)
     refine wpStill_nil ?_;go_wp2_with fail
     refine bodyPost_ret (v:=T #[J O 1,P #[J U ((t.kd.toNat:Nat):Int),J O t.ix,J O t.ce,J O t.st,I g6 t.vn i9,I jr t.dn js],L V,J O 0]) (by simp [results,Tryz.results136,go_sem,r0,r1,r2,r3,r4,r5]) rfl ?_;obtain⟨g1,g2,g3⟩:=kX.out;rw [g1,g2,g3];have j9:=ap (ap Bw.out HA.out) (ap HB.out HD.out);have ho:=(aW wd (w.heap.size+1+1) (J U ((t.kd.toNat:Nat):Int)) (J O t.ix) (J O t.ce) (J O t.st) (I g6 t.vn i9) (I jr t.dn js)).drew;exact⟨g6,i9,jr,js,rfl,((m6.out.below (ap HB.out HD.out)).stay ho (by have:=n7.out;omega)).mono (by have:=n7.out;omega),j9.trans (ho.below (fun i hi=>by omega) j9.size)⟩
   ·rw [hs0] at kW kM;simp only [if_true,Bool.true_or] at kW kM;have zu:=kW;have kX:Y _:=kM;clear kW kM hs0;go_enter Tryz.func136,Tryz.ntmps136
    go_wp2_with fail
    rw [<- bi,<- ci,<- jz];clear bi jW j7 ci jX kc jz pu xq;refine(HR.out _ Bw.out).mono ?_;rintro e wa ⟨ao,ca,bo,cb,g6,i9,jr,js,rfl,jO,jV,ha⟩;have kZ:=am jO;have m6:=am jV;have HA:=am ha;clear jO jV ha;obtain⟨wb,jD⟩:=fd (wa.alloc (D #[J U ((s.kd.toNat:Nat):Int),J O s.ix,J O s.ce,J O s.st,I ao s.vn ca,I bo s.dn cb,J U ((t.kd.toNat:Nat):Int),J O t.ix,J O t.ce,J O t.st,I g6 t.vn i9,I jr t.dn js] 254))
    have HB:Y (b7 wa wb):=by show Q _ _ _;rw [jD];exact bal _ _
    have qE:=am (ah (ap Bw.out HA.out) jD);go_wp2_with fail
    rw [<- jD];clear jD;refine(xC.out _ ao ca bo cb g6 i9 jr js).mono ?_;rintro e wc ⟨rfl,hc⟩;have HC:=am hc;clear hc;obtain⟨fo,fa,go,gb,jQ,jR,jS,jT,hf⟩:∃ fo fa go gb jQ jR jS jT,fo=keA (s.kd == kd) ao/\fa=keN (s.kd == kd) ca/\go=keA (s.kd == kd) bo/\gb=keN (s.kd == kd) cb/\jQ=keA (t.kd == kd) g6/\jR=keN (t.kd == kd) i9/\jS=keA (t.kd == kd) jr/\jT=keN (t.kd == kd) js:=⟨_,_,_,_,_,_,_,_,rfl,rfl,rfl,rfl,rfl,rfl,rfl,rfl⟩
    obtain⟨f1,f2,f3,f4,f5,f6,f7,f8⟩:=hf;rw [<- f1,<- f2,<- f3,<- f4,<- f5,<- f6,<- f7,<- f8];clear f1 f2 f3 f4 f5 f6 f7 f8;go_wp2_with fail
    refine(zu.out _ fo fa go gb jQ jR jS jT).mono ?_;rintro e wd ⟨rfl,hd⟩;have HD:=am (ap HC.out hd);clear hd HC;have q2:=xM.out wd (ap (ap HA.out HB.out) HD.out);have r0:=q2.cz 0;have r1:=q2.cz 1;have r2:=q2.cz 2;have r3:=q2.cz 3;have r4:=q2.cz 4;have r5:=q2.cz 5;have rf:=q2.free;have q3:=qE.out.below HD.out;have s0:=q3.cz 0;have s1:=q3.cz 1;have s2:=q3.cz 2;have s3:=q3.cz 3;have s4:=q3.cz 4;have s5:=q3.cz 5;clear q2 q3;go_wp2_with fail
    refine wp_region_still_tail 5 zh zh ?_;simp only [List.take_succ_cons,List.take_zero,List.drop_succ_cons,List.drop_zero]
    repeat (refine wpStill_step (fun K hK=>?_);go_simp;refine hK _ ?_;clear hK K)
    refine wpStill_nil ?_;go_wp2_with fail
    refine bodyPost_ret (v:=T #[J O 0,P #[J U ((s.kd.toNat:Nat):Int),J O s.ix,J O s.ce,J O s.st,I ao s.vn ca,I bo s.dn cb],L V,J O 0]) (by simp [results,Tryz.results136,go_sem,r0,r1,r2,r3,r4,r5]) rfl ?_;obtain⟨g1,g2,g3⟩:=kX.out;rw [g1,g2,g3];have j9:=ap (ap Bw.out HA.out) (ap HB.out HD.out);have ho:=(aW wd (w.heap.size+1+1) (J U ((s.kd.toNat:Nat):Int)) (J O s.ix) (J O s.ce) (J O s.st) (I ao s.vn ca) (I bo s.dn cb)).drew;exact⟨ao,ca,bo,cb,rfl,((kZ.out.below (ap HB.out HD.out)).stay ho (by have:=n7.out;omega)).mono (by have:=n7.out;omega),j9.trans (ho.below (fun i hi=>by omega) j9.size)⟩
  ·rw [zl vv] at qF;subst qF;by_cases v1:v<1
   ·clear vv;go_enter Tryz.func136,Tryz.ntmps136
    go_wp2_with fail
    rw [<- bi,<- ci,<- jz];clear bi jW j7 ci jX kc jz pu xq;refine(HR.out _ Bw.out).mono ?_;rintro e wa ⟨ao,ca,bo,cb,g6,i9,jr,js,rfl,jO,jV,ha⟩;have kZ:=am jO;have m6:=am jV;have HA:=am ha;clear jO jV ha;have q2:=xM.out wa HA.out;have r0:=fun o=>(q2.alloc o).cz 0;have r1:=fun o=>(q2.alloc o).cz 1;have r2:=fun o=>(q2.alloc o).cz 2;have r3:=fun o=>(q2.alloc o).cz 3;have r4:=fun o=>(q2.alloc o).cz 4;have r5:=fun o=>(q2.alloc o).cz 5;have rf:=fun o=>(q2.alloc o).free;clear q2;go_wp2_with fail
    refine bodyPost_ret (v:=T #[J O 0,P #[J U 0,J O 0,J O 0,J O 0,I Z 0 0,I Z 0 0],L B,J O 2]) (by simp [results,Tryz.results136,go_sem,r0,r1,r2,r3,r4,r5]) rfl ?_;obtain⟨rfl,rfl⟩:=xD.out (by first | assumption | decide | trivial);rw [(fF kd v).1,(fF kd v).2.1,(fF kd v).2.2];refine⟨Z,0,Z,0,rfl,aR _ _,?_⟩;have j9:=aa (ap Bw.out HA.out) (D #[J U ((s.kd.toNat:Nat):Int),J O s.ix,J O s.ce,J O s.st,I ao s.vn ca,I bo s.dn cb,J U ((t.kd.toNat:Nat):Int),J O t.ix,J O t.ce,J O t.st,I g6 t.vn i9,I jr t.dn js] 254);exact j9.trans ((aW (wa.alloc (D #[J U ((s.kd.toNat:Nat):Int),J O s.ix,J O s.ce,J O s.st,I ao s.vn ca,I bo s.dn cb,J U ((t.kd.toNat:Nat):Int),J O t.ix,J O t.ce,J O t.st,I g6 t.vn i9,I jr t.dn js] 254)) (w.heap.size+1+1) (J U 0) (J O 0) (J O 0) (J O 0) (I Z 0 0) (I Z 0 0)).below (fun i hi=>by omega) j9.size)
   ·have v2:1073741824<v:=za;clear vv;go_enter Tryz.func136,Tryz.ntmps136
    go_wp2_with fail
    rw [<- bi,<- ci,<- jz];clear bi jW j7 ci jX kc jz pu xq;refine(HR.out _ Bw.out).mono ?_;rintro e wa ⟨ao,ca,bo,cb,g6,i9,jr,js,rfl,jO,jV,ha⟩;have kZ:=am jO;have m6:=am jV;have HA:=am ha;clear jO jV ha;have q2:=xM.out wa HA.out;have r0:=fun o=>(q2.alloc o).cz 0;have r1:=fun o=>(q2.alloc o).cz 1;have r2:=fun o=>(q2.alloc o).cz 2;have r3:=fun o=>(q2.alloc o).cz 3;have r4:=fun o=>(q2.alloc o).cz 4;have r5:=fun o=>(q2.alloc o).cz 5;have rf:=fun o=>(q2.alloc o).free;clear q2;go_wp2_with fail
    refine bodyPost_ret (v:=T #[J O 0,P #[J U 0,J O 0,J O 0,J O 0,I Z 0 0,I Z 0 0],L B,J O 2]) (by simp [results,Tryz.results136,go_sem,r0,r1,r2,r3,r4,r5]) rfl ?_;obtain⟨rfl,rfl⟩:=xD.out (by first | assumption | decide | trivial);rw [(fF kd v).1,(fF kd v).2.1,(fF kd v).2.2];refine⟨Z,0,Z,0,rfl,aR _ _,?_⟩;have j9:=aa (ap Bw.out HA.out) (D #[J U ((s.kd.toNat:Nat):Int),J O s.ix,J O s.ce,J O s.st,I ao s.vn ca,I bo s.dn cb,J U ((t.kd.toNat:Nat):Int),J O t.ix,J O t.ce,J O t.st,I g6 t.vn i9,I jr t.dn js] 254);exact j9.trans ((aW (wa.alloc (D #[J U ((s.kd.toNat:Nat):Int),J O s.ix,J O s.ce,J O s.st,I ao s.vn ca,I bo s.dn cb,J U ((t.kd.toNat:Nat):Int),J O t.ix,J O t.ce,J O t.st,I g6 t.vn i9,I jr t.dn js] 254)) (w.heap.size+1+1) (J U 0) (J O 0) (J O 0) (J O 0) (I Z 0 0) (I Z 0 0)).below (fun i hi=>by omega) j9.size)
 ·rw [zl eC] at qF;subst qF;have hq:(E != 0)=V:=by simpa using eC
  go_enter Tryz.func136,Tryz.ntmps136
  go_wp2_with fail
  rw [<- bi,<- ci,<- jz];clear bi jW j7 ci jX kc jz pu xq;refine(HR.out _ Bw.out).mono ?_;rintro e wa ⟨ao,ca,bo,cb,g6,i9,jr,js,rfl,jO,jV,ha⟩;have kZ:=am jO;have m6:=am jV;have HA:=am ha;clear jO jV ha;have q2:=xM.out wa HA.out;have r0:=fun o=>(q2.alloc o).cz 0;have r1:=fun o=>(q2.alloc o).cz 1;have r2:=fun o=>(q2.alloc o).cz 2;have r3:=fun o=>(q2.alloc o).cz 3;have r4:=fun o=>(q2.alloc o).cz 4;have r5:=fun o=>(q2.alloc o).cz 5;have rf:=fun o=>(q2.alloc o).free;clear q2;go_wp2_with fail
  refine bodyPost_ret (v:=T #[J O 0,P #[J U 0,J O 0,J O 0,J O 0,I Z 0 0,I Z 0 0],L B,J O E]) (by simp [results,Tryz.results136,go_sem,r0,r1,r2,r3,r4,r5]) rfl ?_;obtain⟨rfl,rfl⟩:=xD.out (by first | assumption | decide | trivial);rw [(fF kd v).1,(fF kd v).2.1,(fF kd v).2.2];refine⟨Z,0,Z,0,rfl,aR _ _,?_⟩;have j9:=aa (ap Bw.out HA.out) (D #[J U ((s.kd.toNat:Nat):Int),J O s.ix,J O s.ce,J O s.st,I ao s.vn ca,I bo s.dn cb,J U ((t.kd.toNat:Nat):Int),J O t.ix,J O t.ce,J O t.st,I g6 t.vn i9,I jr t.dn js] 254);exact j9.trans ((aW (wa.alloc (D #[J U ((s.kd.toNat:Nat):Int),J O s.ix,J O s.ce,J O s.st,I ao s.vn ca,I bo s.dn cb,J U ((t.kd.toNat:Nat):Int),J O t.ix,J O t.ce,J O t.st,I g6 t.vn i9,I jr t.dn js] 254)) (w.heap.size+1+1) (J U 0) (J O 0) (J O 0) (J O 0) (I Z 0 0) (I Z 0 0)).below (fun i hi=>by omega) j9.size)
theorem eP(k r c q:Int)(w:A):
  H X 110 #[Pz k r c q] w fun e w'=>e=G (L (may k r c q))/\b7 w w':=by
 have HW:Y (1<=k->k<=12->8<=c->c<=64->wrap64 (k*c)=k*c):=eS;go_enter Tryz.func110,Tryz.ntmps110
 go_wp2;all_goals (go_ret;have:=HW.out;refine⟨ay ?_,bal _ _⟩;rw [iJ];first | exact decide_eq_decide.2 za | exact(zp za).symm)
theorem dZ(v:Int)(w:A):H X 103 #[J O v] w fun e w'=>e=G (L (fj v))/\w'=w:=by
 have HV:Y (fj v=decide (1<=v/\v<=1073741824)):=rfl;go_enter Tryz.func103,Tryz.ntmps103
 go_wp2;all_goals (go_ret;refine⟨ay ?_,rfl⟩;rw [HV.out])
 ·by_cases h:v<=1073741824
  ·rw [zm (p:=1<=v/\v<=1073741824) za,zm h]
  ·rw [zp (p:=1<=v/\v<=1073741824) za,zp h]
 ·rw [zp za]
theorem lW{k r:Int}(c q:Int){N:Nat}(h:(N:Int)=k+r)(hk:N<=16)(w:A):
  H X 111 #[Pz k r c q] w fun e w'=>e=G (J O (N:Int))/\b7 w w':=by
 have HN:=am (h.symm);go_enter Tryz.func111,Tryz.ntmps111
 go_wp2;go_ret;exact⟨aN HN.out,bal _ _⟩
theorem mb{k r c q:Int}{N W:Nat}(h:Par k r c q N W 0)(w:A):
  H X 263 #[.agg #[.int .i64 k,.int .i64 r,.int .i64 c,.int .i64 q]] w fun e w'=>e=.returned (.int .i64 ((sz N c:Nat):Int))/\Q w.heap.size w w':=by
 have hN:=h.few;have hc:=h.cell rfl;have HC:=fun w=>lW c q h.sum hN w;have HS:Y (12+4*(N:Int)+c=((sz N c:Nat):Int)):=by show _=_;unfold sz;omega
 have k9:-1000<=c:=za;have xX:c<=1000:=za;have e1:IntKind.i64.wrap (4*(N:Int))=4*(N:Int):=by rw [IntKind.wrap_i64];omega
 have e2:IntKind.i64.wrap (12+4*(N:Int))=12+4*(N:Int):=by rw [IntKind.wrap_i64];omega
 have e3:IntKind.i64.wrap (12+4*(N:Int)+c)=12+4*(N:Int)+c:=by rw [IntKind.wrap_i64];omega
 clear h;obtain⟨w0,bi⟩:=jM w k r c q
 have b0:=jt bi
 obtain⟨s0,s1,s2,s3⟩:=ak bi (j _ _);go_enter Tryz.func263,Tryz.ntmps263
 go_wp2_with fail
 rw [<- bi];clear bi;have SH:Y (∀ v,Q w0.drew.heap.size w0.drew v->v.cell? ⟨w.heap.size,0,Z⟩=g (.int .i64 k)/\v.cell? ⟨w.heap.size,1,Z⟩=g (.int .i64 r)/\v.cell? ⟨w.heap.size,2,Z⟩=g (.int .i64 c)/\v.cell? ⟨w.heap.size,3,Z⟩=g (.int .i64 q)):=fun v hv=>have kC:=aG hv;⟨held s0 kC,held s1 kC,held s2 kC,held s3 kC⟩;go_region_held3 (fun v=>v.cell? ⟨w.heap.size,0,Z⟩=g (.int .i64 k)/\v.cell? ⟨w.heap.size,1,Z⟩=g (.int .i64 r)/\v.cell? ⟨w.heap.size,2,Z⟩=g (.int .i64 c)/\v.cell? ⟨w.heap.size,3,Z⟩=g (.int .i64 q)) (go_keep)
  ((go_at_call 111;refine(HC _).mono ?_;rintro e wa ⟨rfl,ha⟩;obtain⟨q0,q1,q2,q3⟩:=SH.out _ ha))
 all_goals (go_wp2;go_ret;exact⟨aN HS.out,ap b0.drew ha⟩)
theorem uC{k r:Int}(c q:Int){N:Nat}(h:(N:Int)=k+r)(hk:N<=16)(w:A)(ao:Option S)(n ca:Nat)(R:Nat->Int)(hr:RdI w ao n R):
  H X 317 #[.agg #[.int .i64 k,.int .i64 r,.int .i64 c,.int .i64 q],.slice ao n ca] w fun e w'=>e=.returned (.int .i64 (if vok N n R=V then mx R n else 0))/\Q w.heap.size w w':=by
 have HD:=fun w=>lW c q h hk w;have HR:=am hr;clear h hr;obtain⟨w0,bi⟩:=jM w k r c q
 have b0:=jt bi
 by_cases hnN:n=N
 ·by_cases hall:∀ i,i<n->1<=R i/\R i<=1073741824
  ·rw [show vok N n R=V from zm ⟨hnN,hall⟩,zk rfl];have HA:=am hall;have HM:Y (∀ i,mx R (i+1)=gr (mx R i) (R i)):=fun _=>rfl;have yt:Y (mx R 0=0):=rfl;clear hall;subst hnN;go_enter Tryz.func317,Tryz.ntmps317
   go_wp2_with fail
   rw [<- bi];refine(HD _).mono ?_;rintro e wa ⟨rfl,ha⟩;have HB:=am (ap b0 ha);have HS:Y (RdI wa ao n R):=HR.out.below HB.out;clear bi ha b0 HD;go_wp2_with fail
   go_loop [5,6] (fun v x=>∃ i:Nat,i<=n/\x=.int .i64 (i:Int)/\∃ y,v=.int .i64 y/\Y (y=mx R i)) (fun _ x=>n-(intOf x).toNat)
   case atStart=>exact⟨0,f _,rfl,0,rfl,yt.out.symm⟩
   case round =>
    obtain⟨i,hi,rfl,y,rfl,hy⟩:=hrel;by_cases hlt:i<n
    ·obtain⟨b,off,rfl,hc⟩:=HS.out za;have ck:=hc i hlt;have HV:=fun w=>dZ (R i) w;rw [show fj (R i)=V from zm (HA.out i hlt)] at HV;clear hc;have i1:(0:Int)<=(i:Int):=za
     have i2:(i:Int)<(n:Int):=za;have HY:Y (mx R (i+1)=gr y (R i)):=by show _=_;rw [HM.out i,<- hy.out]
     by_cases hg:y<R i
     ·have Jl:Y (R i=mx R (i+1)):=by show _=_;rw [HY.out];unfold gr;rw [zk hg]
      go_wp2_with fail
      refine(HV _).mono ?_;rintro e w' ⟨rfl,rfl⟩;go_wp2_with fail
      go_round
      case rel=>exact⟨i+1,za,by go_num,_,rfl,Jl.out⟩
      case measure=>simp [intOf];omega
     ·have Jl:Y (y=mx R (i+1)):=by show _=_;rw [HY.out];unfold gr;rw [zl hg]
      go_wp2_with fail
      refine(HV _).mono ?_;rintro e w' ⟨rfl,rfl⟩;go_wp2_with fail
      go_round
      case rel=>exact⟨i+1,za,by go_num,_,rfl,Jl.out⟩
      case measure=>simp [intOf];omega
    ·obtain rfl:i=n:=za;go_wp2;go_ret;exact⟨aN hy.out,HB.out⟩
  ·rw [show vok N n R=B from zp fun h=>hall h.2,zl zb];obtain⟨p,hp,f9,heq⟩:=bA hall;have HE:Y (∀ i,i<p->fj (R i)=V):=fun i hi=>zm (heq i hi);have HN:Y (fj (R p)=B):=zp f9;clear hall f9 heq;subst hnN;go_enter Tryz.func317,Tryz.ntmps317
   go_wp2_with fail
   rw [<- bi];refine(HD _).mono ?_;rintro e wa ⟨rfl,ha⟩;have HB:=am (ap b0 ha);have HS:Y (RdI wa ao n R):=HR.out.below HB.out;clear bi ha b0 HD;go_wp2_with fail
   go_loop [5,6] (fun v x=>∃ i:Nat,i<=p/\x=.int .i64 (i:Int)/\∃ y:Int,v=.int .i64 y) (fun _ x=>n-(intOf x).toNat)
   case atStart=>exact⟨0,f _,rfl,0,rfl⟩
   case round =>
    obtain⟨i,hi,rfl,y,rfl⟩:=hrel;have hlt:i<n:=za;obtain⟨b,off,rfl,hc⟩:=HS.out za;have ck:=hc i hlt;have HV:=fun w=>dZ (R i) w;clear hc;have i1:(0:Int)<=(i:Int):=za
    have i2:(i:Int)<(n:Int):=za;by_cases hiq:i<p
    ·rw [HE.out i hiq] at HV;by_cases hg:y<R i
     ·go_wp2_with fail
      refine(HV _).mono ?_;rintro e w' ⟨rfl,rfl⟩;go_wp2_with fail
      go_round
      case rel=>exact⟨i+1,za,by go_num,_,rfl⟩
      case measure=>simp [intOf];omega
     ·go_wp2_with fail
      refine(HV _).mono ?_;rintro e w' ⟨rfl,rfl⟩;go_wp2_with fail
      go_round
      case rel=>exact⟨i+1,za,by go_num,_,rfl⟩
      case measure=>simp [intOf];omega
    ·obtain rfl:i=p:=za;rw [HN.out] at HV;go_wp2_with fail
     refine(HV _).mono ?_;rintro e w' ⟨rfl,rfl⟩;go_wp2_with fail
     go_ret;exact⟨rfl,HB.out⟩
 ·rw [show vok N n R=B from zp fun h=>hnN h.1,zl zb];go_enter Tryz.func317,Tryz.ntmps317
  go_wp2_with fail
  rw [<- bi];refine(HD _).mono ?_;rintro e wa ⟨rfl,ha⟩;have HB:=am (ap b0 ha);clear bi ha b0 HD;go_wp2_with fail
  go_ret;exact⟨rfl,HB.out⟩
theorem cr(w:A)(ao:Option S)(n ca at_:Nat)(F:Nat->UInt8)(hr:RdU w ao n F)(ha:at_+4<=n)(hn:n<=1000):
  H X 279 #[I ao n ca,J O (at_:Int)] w fun e w'=>e=G (J O ((nm F at_ 4:Nat):Int))/\b7 w w':=by
 obtain⟨b,off,rfl,hc⟩:=hr za;have c0:=hc at_ za;have c1:=hc (at_+1) za;have c2:=hc (at_+2) za;have c3:=hc (at_+3) za;have l0:(F at_).toNat<256:=(F at_).toNat_lt;have l1:(F (at_+1)).toNat<256:=(F (at_+1)).toNat_lt;have l2:(F (at_+2)).toNat<256:=(F (at_+2)).toNat_lt;have l3:(F (at_+3)).toNat<256:=(F (at_+3)).toNat_lt;have HN:Y (nm F at_ 4=(((F at_).toNat*256+(F (at_+1)).toNat)*256+(F (at_+2)).toNat)*256+(F (at_+3)).toNat):=by show _=_;rw [nm,nm,nm,nm,nm];simp
 obtain⟨u0,zJ⟩:∃ u:Nat,(F at_).toNat=u:=⟨_,rfl⟩
 obtain⟨u1,zK⟩:∃ u:Nat,(F (at_+1)).toNat=u:=⟨_,rfl⟩
 obtain⟨u2,xH⟩:∃ u:Nat,(F (at_+2)).toNat=u:=⟨_,rfl⟩
 obtain⟨u3,R2⟩:∃ u:Nat,(F (at_+3)).toNat=u:=⟨_,rfl⟩
 rw [zJ] at c0 l0 HN;rw [zK] at c1 l1 HN;rw [xH] at c2 l2 HN;rw [R2] at c3 l3 HN;clear zJ zK xH R2 hc hr;have i0:(0:Int)<=(at_:Int):=za;have i1:(at_:Int)<(n:Int):=za;have i2:(at_:Int)+1<(n:Int):=za;have i3:(at_:Int)+2<(n:Int):=za;have i4:(at_:Int)+3<(n:Int):=za;go_enter Tryz.func279,Tryz.ntmps279
 go_wp2_with fail
 go_quiet (fail)
 go_wp2;go_ret;refine⟨aN ?_,below_drewN _ _ _⟩;rw [HN.out]
 trace_state
 omega
end Go.Proofs.YtemlojjkokooeaaGreat
