import Derived.Test.YtemlojjkokooeaaGreatProg
import Derived.Test.YtemlojjkokooeaaGreatTm13
open Go.Value renaming int->J,slice->I,tuple->T
open Go.IntKind renaming i64->O,u8->X
open Go.RowKit renaming Below->Q,Hid->Z
open Go.Proofs.Tryz renaming prog->Y
open Go.Ending renaming returned->U
open Go renaming Calls->D,Addr->V,World->P
open Int renaming toNat_natCast->G
open Bool renaming true->L,false->R
open Go.Obj renaming cells->H
open Go.RowKit.Below renaming refl->S
set_option maxHeartbeats 16000000
set_option maxRecDepth 100000
namespace Go.Proofs.YtemlojjkokooeaaGreat
open Go.RowKit
theorem wU(kd:UInt8)(v:Int):oN zSl zSl kd v=0:=by unfold oN;rw [hB_z];rfl
theorem tZ{k r c q:Int}{N W:Nat}{x:Int}(h:Par k r c q N W x)(w:P)(a0:Option V)(n0 c0:Nat)(F0:Nat->UInt8)(a1:Option V)(n1 c1:Nat)(F1:Nat->UInt8)(h0:Bec w a0 n0 c0 F0)(h1:Bec w a1 n1 c1 F1)(kd:UInt8)(ix v:Int)(E:Int)(hE:erO (erC x N c n0 n1 ((kd.toNat:Nat):Int) ix) v=E)(y0 y1:Sl)(qK:he E N c ix n0 F0=y0)(kL:he E N c ix n1 F1=y1):
  D Y 150 #[Pz k r c q,.agg #[I a0 n0 c0,I a1 n1 c1],J X ((kd.toNat:Nat):Int),J O ix,J O v] w fun e w'=>e=U (T #[J O ((oN y0 y1 kd v:Nat):Int),J O E])/\b7 w w':=by
 obtain⟨w0,bi⟩:=jM w k r c q
 have jW:=jt bi
 have j7:=ks bi
 obtain⟨w1,ci⟩:=fd (w0.alloc (H #[I a0 n0 c0,I a1 n1 c1] 97))
 have jX:=jt ci
 have kc:w1.heap.size=w.heap.size+1+1:=by rw [ci];simp [j7]
 have Bw:Z (b7 w w1):=(ap jW jX)
 have kF:Z (∀ v,b7 w1 v->At w v (w.heap.size) #[J O k,J O r,J O c,J O q] 23):=fun v hv=>by exact(ah (S _ _) bi).below (ap jX hv)
 have kV:Z (∀ v,b7 w1 v->At w v (w.heap.size+1) #[I a0 n0 c0,I a1 n1 c1] 97):=fun v hv=>by rw [<- j7];exact(ah jW ci).below (ap (S _ _) hv)
 obtain⟨C,hC⟩:=km (erC x N c n0 n1 ((kd.toNat:Nat):Int) ix)
 obtain⟨s,hs⟩:=km (he C N c ix n0 F0)
 obtain⟨t,ht⟩:=km (he C N c ix n1 F1)
 have HR:=am fun v (hv:b7 w v)=>eD h v a0 n0 c0 F0 a1 n1 c1 F1 (h0.below hv) (h1.below hv) ((kd.toNat:Nat):Int) ix C hC s t hs ht;have n7:=am kc;have xD:Z (¬ E=0->y0=zSl/\y1=zSl):=fun e=>by
  rw [<- qK,<- kL];unfold he;rw [zl e,zl e];exact⟨rfl,rfl⟩
 have A9:Z (E=0->C=0->s=y0/\t=y1):=fun e e2=>by
  rw [<- qK,<- kL,<- hs,<- ht,e,e2];exact⟨rfl,rfl⟩
 have qF:E=if C=0 then (if 0<=v/\v<=1073741824 then 0 else 2) else C:=by rw [<- hE,hC];rfl
 clear hE qK kL hs ht hC h h0 h1;unfold gI bov at HR;by_cases eC:C=0
 ·subst eC;rw [zk rfl] at qF;by_cases vv:0<=v/\v<=1073741824
  ·rw [zk vv] at qF;subst qF;obtain⟨v1,v2⟩:=vv;obtain⟨rfl,rfl⟩:=A9.out rfl rfl;have v3:¬ v<0:=za;have v4:¬ 1073741824<v:=za;have xC:Z (∀ v (ao:Option V) (ca:Nat) (bo:Option V) (cb:Nat) (g6:Option V) (i9:Nat) (jr:Option V) (js:Nat),D Y 208 #[bov s ao ca bo cb t g6 i9 jr js,J X ((kd.toNat:Nat):Int)] v fun e w'=>e=U (bov (ofK kd s) (keA (s.kd == kd) ao) (keN (s.kd == kd) ca) (keA (s.kd == kd) bo) (keN (s.kd == kd) cb) (ofK kd t) (keA (t.kd == kd) g6) (keN (t.kd == kd) i9) (keA (t.kd == kd) jr) (keN (t.kd == kd) js))/\b7 v w'):=fun v ao ca bo cb g6 i9 jr js=>gX v s t ao ca bo cb g6 i9 jr js kd;have L4:Z (∀ u (ao:Option V) (ca:Nat) (bo:Option V) (cb:Nat) (g6:Option V) (i9:Nat) (jr:Option V) (js:Nat),D Y 220 #[bov s ao ca bo cb t g6 i9 jr js] u fun e w'=>e=U (J O (if t.ce<s.ce then 1 else 0))/\b7 u w'):=fun u ao ca bo cb g6 i9 jr js=>ue u s t ao ca bo cb g6 i9 jr js;have KO:Z (∀ u (ao:Option V) (ca:Nat) (bo:Option V) (cb:Nat) (g6:Option V) (i9:Nat) (jr:Option V) (js:Nat),D Y 220 #[bov s ao ca bo cb t g6 i9 jr js] u fun e w'=>e=U (J O ((if t.ce<s.ce then 1 else 0:Nat):Int))/\b7 u w'):=fun u ao ca bo cb g6 i9 jr js=>by
    refine(L4.out u ao ca bo cb g6 i9 jr js).mono ?_;rintro e w' ⟨rfl,hb⟩;refine⟨?_,hb⟩;split <;> rfl
   clear L4;have kW:Z (∀ u (ao:Option V) (ca:Nat) (bo:Option V) (cb:Nat) (g6:Option V) (i9:Nat) (jr:Option V) (js:Nat),D Y 209 #[bov (ofK kd s) ao ca bo cb (ofK kd t) g6 i9 jr js,J O v] u fun e w'=>e=U (T #[J O (if (ofK kd s).ce=v then 0 else if (ofK kd t).ce=v then 1 else 0),.bool (decide ((ofK kd s).ce=v) || decide ((ofK kd t).ce=v))])/\b7 u w'):=fun u ao ca bo cb g6 i9 jr js=>iP u (ofK kd s) (ofK kd t) ao ca bo cb g6 i9 jr js v;have kM:oN s t kd v=(if hB s kd v=L then 1 else if hB t kd v=L then 0 else if t.ce<s.ce then 1 else 0):=rfl;unfold bov at xC kW KO;obtain⟨ls,L5⟩:∃ ls:Nat,ls=(if t.ce<s.ce then 1 else 0):=⟨_,rfl⟩
   rw [<- L5] at KO kM;clear L5 xD A9;by_cases v0:v=0
   ·rw [show hB s kd v=R from zp fun h=>h.1 v0,show hB t kd v=R from zp fun h=>h.1 v0] at kM;simp only [Bool.false_eq_true,if_false] at kM;have v5:(v != 0)=R:=by simp [v0]
    clear v0 v1 v2;obtain⟨i,hi⟩:=fd ((decide ((ofK kd s).ce=v) || decide ((ofK kd t).ce=v)))
    obtain⟨m,hm⟩:∃ m:Int,m=(if (ofK kd s).ce=v then 0 else if (ofK kd t).ce=v then 1 else 0):=⟨_,rfl⟩
    rw [<- hi,<- hm] at kW;obtain⟨u,hu⟩:=fd (ofK kd s)
    obtain⟨u2,xH⟩:=fd (ofK kd t)
    rw [<- hu,<- xH] at xC kW;have zu:=kW;have kX:Z _:=kM;clear kW kM hi hm hu xH;cases i
    ·skip
     go_enter Tryz.func150,Tryz.ntmps150
     go_wp2_with fail
     rw [<- bi,<- ci];clear bi jW j7 ci jX kc;refine(HR.out _ Bw.out).mono ?_;rintro e wa ⟨ao,ca,bo,cb,g6,i9,jr,js,rfl,jO,jV,ha⟩;have kZ:=am jO;have m6:=am jV;have HA:=am ha;clear jO jV ha;obtain⟨wb,jD⟩:=fd (wa.alloc (H #[J X ((s.kd.toNat:Nat):Int),J O s.ix,J O s.ce,J O s.st,I ao s.vn ca,I bo s.dn cb,J X ((t.kd.toNat:Nat):Int),J O t.ix,J O t.ce,J O t.st,I g6 t.vn i9,I jr t.dn js] 254))
     have HB:Z (b7 wa wb):=by show Q _ _ _;rw [jD];exact bal _ _
     have qE:=am (ah (ap Bw.out HA.out) jD);go_wp2_with fail
     rw [<- jD];clear jD;refine(xC.out _ ao ca bo cb g6 i9 jr js).mono ?_;rintro e wc ⟨rfl,hc⟩;have HC:=am hc;clear hc;obtain⟨fo,fa,go,gb,jQ,jR,jS,jT,hf⟩:∃ fo fa go gb jQ jR jS jT,fo=keA (s.kd == kd) ao/\fa=keN (s.kd == kd) ca/\go=keA (s.kd == kd) bo/\gb=keN (s.kd == kd) cb/\jQ=keA (t.kd == kd) g6/\jR=keN (t.kd == kd) i9/\jS=keA (t.kd == kd) jr/\jT=keN (t.kd == kd) js:=⟨_,_,_,_,_,_,_,_,rfl,rfl,rfl,rfl,rfl,rfl,rfl,rfl⟩
     obtain⟨f1,f2,f3,f4,f5,f6,f7,f8⟩:=hf;rw [<- f1,<- f2,<- f3,<- f4,<- f5,<- f6,<- f7,<- f8];clear f1 f2 f3 f4 f5 f6 f7 f8;go_wp2_with fail
     refine(zu.out _ fo fa go gb jQ jR jS jT).mono ?_;rintro e wd ⟨rfl,hd⟩;have HD:=am (ap HC.out hd);clear hd HC;have q3:=qE.out.below HD.out;have s0:=q3.cz 0;have s1:=q3.cz 1;have s2:=q3.cz 2;have s3:=q3.cz 3;have s4:=q3.cz 4;have s5:=q3.cz 5;have s6:=q3.cz 6;have s7:=q3.cz 7;have s8:=q3.cz 8;have s9:=q3.cz 9;have yK:=q3.cz 10;have yL:=q3.cz 11;clear q3;go_wp2_with fail
     refine(KO.out _ ao ca bo cb g6 i9 jr js).mono ?_;rintro e we ⟨rfl,he⟩;have HE:=am he;clear he;go_wp2_with fail
     go_ret2;rw [kX.out];exact⟨rfl,ap (ap (ap Bw.out HA.out) (ap HB.out HD.out)) HE.out⟩
    ·skip
     go_enter Tryz.func150,Tryz.ntmps150
     go_wp2_with fail
     rw [<- bi,<- ci];clear bi jW j7 ci jX kc;refine(HR.out _ Bw.out).mono ?_;rintro e wa ⟨ao,ca,bo,cb,g6,i9,jr,js,rfl,jO,jV,ha⟩;have kZ:=am jO;have m6:=am jV;have HA:=am ha;clear jO jV ha;obtain⟨wb,jD⟩:=fd (wa.alloc (H #[J X ((s.kd.toNat:Nat):Int),J O s.ix,J O s.ce,J O s.st,I ao s.vn ca,I bo s.dn cb,J X ((t.kd.toNat:Nat):Int),J O t.ix,J O t.ce,J O t.st,I g6 t.vn i9,I jr t.dn js] 254))
     have HB:Z (b7 wa wb):=by show Q _ _ _;rw [jD];exact bal _ _
     have qE:=am (ah (ap Bw.out HA.out) jD);go_wp2_with fail
     rw [<- jD];clear jD;refine(xC.out _ ao ca bo cb g6 i9 jr js).mono ?_;rintro e wc ⟨rfl,hc⟩;have HC:=am hc;clear hc;obtain⟨fo,fa,go,gb,jQ,jR,jS,jT,hf⟩:∃ fo fa go gb jQ jR jS jT,fo=keA (s.kd == kd) ao/\fa=keN (s.kd == kd) ca/\go=keA (s.kd == kd) bo/\gb=keN (s.kd == kd) cb/\jQ=keA (t.kd == kd) g6/\jR=keN (t.kd == kd) i9/\jS=keA (t.kd == kd) jr/\jT=keN (t.kd == kd) js:=⟨_,_,_,_,_,_,_,_,rfl,rfl,rfl,rfl,rfl,rfl,rfl,rfl⟩
     obtain⟨f1,f2,f3,f4,f5,f6,f7,f8⟩:=hf;rw [<- f1,<- f2,<- f3,<- f4,<- f5,<- f6,<- f7,<- f8];clear f1 f2 f3 f4 f5 f6 f7 f8;go_wp2_with fail
     refine(zu.out _ fo fa go gb jQ jR jS jT).mono ?_;rintro e wd ⟨rfl,hd⟩;have HD:=am (ap HC.out hd);clear hd HC;have q3:=qE.out.below HD.out;have s0:=q3.cz 0;have s1:=q3.cz 1;have s2:=q3.cz 2;have s3:=q3.cz 3;have s4:=q3.cz 4;have s5:=q3.cz 5;have s6:=q3.cz 6;have s7:=q3.cz 7;have s8:=q3.cz 8;have s9:=q3.cz 9;have yK:=q3.cz 10;have yL:=q3.cz 11;clear q3;go_wp2_with fail
     refine(KO.out _ ao ca bo cb g6 i9 jr js).mono ?_;rintro e we ⟨rfl,he⟩;have HE:=am he;clear he;go_wp2_with fail
     go_ret2;rw [kX.out];exact⟨rfl,ap (ap (ap Bw.out HA.out) (ap HB.out HD.out)) HE.out⟩
   ·have xp:Z (∀ u (ao:Option V) (ca:Nat) (bo:Option V) (cb:Nat) (g6:Option V) (i9:Nat) (jr:Option V) (js:Nat),D Y 209 #[bov (ofK kd s) ao ca bo cb (ofK kd t) g6 i9 jr js,J O v] u fun e w'=>e=U (T #[J O (if hB s kd v=L then 0 else if hB t kd v=L then 1 else 0),.bool (hB s kd v || hB t kd v)])/\b7 u w'):=fun u ao ca bo cb g6 i9 jr js=>by
     have hf:=iP u (ofK kd s) (ofK kd t) ao ca bo cb g6 i9 jr js v;rw [eE v0,eE v0] at hf;refine hf.mono ?_;rintro e w' ⟨rfl,hb⟩;refine⟨?_,hb⟩;rw [<- eE (y:=s) v0,<- eE (y:=t) v0];simp only [decide_eq_true_eq]
    unfold bov at xp;have v5:(v != 0)=L:=by simpa using v0
    clear kW v0 v1 v2;obtain⟨u,hu⟩:=fd (ofK kd s)
    obtain⟨u2,xH⟩:=fd (ofK kd t)
    rw [<- hu,<- xH] at xC xp;clear hu xH;cases hs0:hB s kd v
    ·rw [hs0] at xp kM;cases ht0:hB t kd v
     ·rw [ht0] at xp kM;simp only [Bool.false_eq_true,if_false,Bool.or_self] at xp kM;have zu:=xp;have kX:Z _:=kM;clear xp kM hs0 ht0;go_enter Tryz.func150,Tryz.ntmps150
      go_wp2_with fail
      rw [<- bi,<- ci];clear bi jW j7 ci jX kc;refine(HR.out _ Bw.out).mono ?_;rintro e wa ⟨ao,ca,bo,cb,g6,i9,jr,js,rfl,jO,jV,ha⟩;have kZ:=am jO;have m6:=am jV;have HA:=am ha;clear jO jV ha;obtain⟨wb,jD⟩:=fd (wa.alloc (H #[J X ((s.kd.toNat:Nat):Int),J O s.ix,J O s.ce,J O s.st,I ao s.vn ca,I bo s.dn cb,J X ((t.kd.toNat:Nat):Int),J O t.ix,J O t.ce,J O t.st,I g6 t.vn i9,I jr t.dn js] 254))
      have HB:Z (b7 wa wb):=by show Q _ _ _;rw [jD];exact bal _ _
      have qE:=am (ah (ap Bw.out HA.out) jD);go_wp2_with fail
      rw [<- jD];clear jD;refine(xC.out _ ao ca bo cb g6 i9 jr js).mono ?_;rintro e wc ⟨rfl,hc⟩;have HC:=am hc;clear hc;obtain⟨fo,fa,go,gb,jQ,jR,jS,jT,hf⟩:∃ fo fa go gb jQ jR jS jT,fo=keA (s.kd == kd) ao/\fa=keN (s.kd == kd) ca/\go=keA (s.kd == kd) bo/\gb=keN (s.kd == kd) cb/\jQ=keA (t.kd == kd) g6/\jR=keN (t.kd == kd) i9/\jS=keA (t.kd == kd) jr/\jT=keN (t.kd == kd) js:=⟨_,_,_,_,_,_,_,_,rfl,rfl,rfl,rfl,rfl,rfl,rfl,rfl⟩
      obtain⟨f1,f2,f3,f4,f5,f6,f7,f8⟩:=hf;rw [<- f1,<- f2,<- f3,<- f4,<- f5,<- f6,<- f7,<- f8];clear f1 f2 f3 f4 f5 f6 f7 f8;go_wp2_with fail
      refine(zu.out _ fo fa go gb jQ jR jS jT).mono ?_;rintro e wd ⟨rfl,hd⟩;have HD:=am (ap HC.out hd);clear hd HC;have q3:=qE.out.below HD.out;have s0:=q3.cz 0;have s1:=q3.cz 1;have s2:=q3.cz 2;have s3:=q3.cz 3;have s4:=q3.cz 4;have s5:=q3.cz 5;have s6:=q3.cz 6;have s7:=q3.cz 7;have s8:=q3.cz 8;have s9:=q3.cz 9;have yK:=q3.cz 10;have yL:=q3.cz 11;clear q3;go_wp2_with fail
      refine(KO.out _ ao ca bo cb g6 i9 jr js).mono ?_;rintro e we ⟨rfl,he⟩;have HE:=am he;clear he;go_wp2_with fail
      go_ret2;rw [kX.out];exact⟨rfl,ap (ap (ap Bw.out HA.out) (ap HB.out HD.out)) HE.out⟩
     ·rw [ht0] at xp kM;simp only [Bool.false_eq_true,if_false,if_true,Bool.or_true] at xp kM;have zu:=xp;have kX:Z _:=kM;clear xp kM hs0 ht0;go_enter Tryz.func150,Tryz.ntmps150
      go_wp2_with fail
      rw [<- bi,<- ci];clear bi jW j7 ci jX kc;refine(HR.out _ Bw.out).mono ?_;rintro e wa ⟨ao,ca,bo,cb,g6,i9,jr,js,rfl,jO,jV,ha⟩;have kZ:=am jO;have m6:=am jV;have HA:=am ha;clear jO jV ha;obtain⟨wb,jD⟩:=fd (wa.alloc (H #[J X ((s.kd.toNat:Nat):Int),J O s.ix,J O s.ce,J O s.st,I ao s.vn ca,I bo s.dn cb,J X ((t.kd.toNat:Nat):Int),J O t.ix,J O t.ce,J O t.st,I g6 t.vn i9,I jr t.dn js] 254))
      have HB:Z (b7 wa wb):=by show Q _ _ _;rw [jD];exact bal _ _
      have qE:=am (ah (ap Bw.out HA.out) jD);go_wp2_with fail
      rw [<- jD];clear jD;refine(xC.out _ ao ca bo cb g6 i9 jr js).mono ?_;rintro e wc ⟨rfl,hc⟩;have HC:=am hc;clear hc;obtain⟨fo,fa,go,gb,jQ,jR,jS,jT,hf⟩:∃ fo fa go gb jQ jR jS jT,fo=keA (s.kd == kd) ao/\fa=keN (s.kd == kd) ca/\go=keA (s.kd == kd) bo/\gb=keN (s.kd == kd) cb/\jQ=keA (t.kd == kd) g6/\jR=keN (t.kd == kd) i9/\jS=keA (t.kd == kd) jr/\jT=keN (t.kd == kd) js:=⟨_,_,_,_,_,_,_,_,rfl,rfl,rfl,rfl,rfl,rfl,rfl,rfl⟩
      obtain⟨f1,f2,f3,f4,f5,f6,f7,f8⟩:=hf;rw [<- f1,<- f2,<- f3,<- f4,<- f5,<- f6,<- f7,<- f8];clear f1 f2 f3 f4 f5 f6 f7 f8;go_wp2_with fail
      refine(zu.out _ fo fa go gb jQ jR jS jT).mono ?_;rintro e wd ⟨rfl,hd⟩;have HD:=am (ap HC.out hd);clear hd HC;go_wp2_with fail
      go_ret2;rw [kX.out];exact⟨rfl,ap (ap Bw.out HA.out) (ap HB.out HD.out)⟩
    ·rw [hs0] at xp kM;simp only [if_true,Bool.true_or] at xp kM;have zu:=xp;have kX:Z _:=kM;clear xp kM hs0;go_enter Tryz.func150,Tryz.ntmps150
     go_wp2_with fail
     rw [<- bi,<- ci];clear bi jW j7 ci jX kc;refine(HR.out _ Bw.out).mono ?_;rintro e wa ⟨ao,ca,bo,cb,g6,i9,jr,js,rfl,jO,jV,ha⟩;have kZ:=am jO;have m6:=am jV;have HA:=am ha;clear jO jV ha;obtain⟨wb,jD⟩:=fd (wa.alloc (H #[J X ((s.kd.toNat:Nat):Int),J O s.ix,J O s.ce,J O s.st,I ao s.vn ca,I bo s.dn cb,J X ((t.kd.toNat:Nat):Int),J O t.ix,J O t.ce,J O t.st,I g6 t.vn i9,I jr t.dn js] 254))
     have HB:Z (b7 wa wb):=by show Q _ _ _;rw [jD];exact bal _ _
     have qE:=am (ah (ap Bw.out HA.out) jD);go_wp2_with fail
     rw [<- jD];clear jD;refine(xC.out _ ao ca bo cb g6 i9 jr js).mono ?_;rintro e wc ⟨rfl,hc⟩;have HC:=am hc;clear hc;obtain⟨fo,fa,go,gb,jQ,jR,jS,jT,hf⟩:∃ fo fa go gb jQ jR jS jT,fo=keA (s.kd == kd) ao/\fa=keN (s.kd == kd) ca/\go=keA (s.kd == kd) bo/\gb=keN (s.kd == kd) cb/\jQ=keA (t.kd == kd) g6/\jR=keN (t.kd == kd) i9/\jS=keA (t.kd == kd) jr/\jT=keN (t.kd == kd) js:=⟨_,_,_,_,_,_,_,_,rfl,rfl,rfl,rfl,rfl,rfl,rfl,rfl⟩
     obtain⟨f1,f2,f3,f4,f5,f6,f7,f8⟩:=hf;rw [<- f1,<- f2,<- f3,<- f4,<- f5,<- f6,<- f7,<- f8];clear f1 f2 f3 f4 f5 f6 f7 f8;go_wp2_with fail
     refine(zu.out _ fo fa go gb jQ jR jS jT).mono ?_;rintro e wd ⟨rfl,hd⟩;have HD:=am (ap HC.out hd);clear hd HC;go_wp2_with fail
     go_ret2;rw [kX.out];exact⟨rfl,ap (ap Bw.out HA.out) (ap HB.out HD.out)⟩
  ·rw [zl vv] at qF;subst qF;by_cases v1:v<0
   ·clear vv;go_enter Tryz.func150,Tryz.ntmps150
    go_wp2_with fail
    rw [<- bi,<- ci];clear bi jW j7 ci jX kc;refine(HR.out _ Bw.out).mono ?_;rintro e wa ⟨ao,ca,bo,cb,g6,i9,jr,js,rfl,jO,jV,ha⟩;have kZ:=am jO;have m6:=am jV;have HA:=am ha;clear jO jV ha;go_wp2_with fail
    obtain⟨rfl,rfl⟩:=xD.out (by first | assumption | decide | trivial);go_ret2;rw [wU];exact⟨rfl,aa (ap Bw.out HA.out) _⟩
   ·have v2:1073741824<v:=za;clear vv;go_enter Tryz.func150,Tryz.ntmps150
    go_wp2_with fail
    rw [<- bi,<- ci];clear bi jW j7 ci jX kc;refine(HR.out _ Bw.out).mono ?_;rintro e wa ⟨ao,ca,bo,cb,g6,i9,jr,js,rfl,jO,jV,ha⟩;have kZ:=am jO;have m6:=am jV;have HA:=am ha;clear jO jV ha;go_wp2_with fail
    obtain⟨rfl,rfl⟩:=xD.out (by first | assumption | decide | trivial);go_ret2;rw [wU];exact⟨rfl,aa (ap Bw.out HA.out) _⟩
 ·rw [zl eC] at qF;subst qF;have hq:(E != 0)=L:=by simpa using eC
  go_enter Tryz.func150,Tryz.ntmps150
  go_wp2_with fail
  rw [<- bi,<- ci];clear bi jW j7 ci jX kc;refine(HR.out _ Bw.out).mono ?_;rintro e wa ⟨ao,ca,bo,cb,g6,i9,jr,js,rfl,jO,jV,ha⟩;have kZ:=am jO;have m6:=am jV;have HA:=am ha;clear jO jV ha;go_wp2_with fail
  obtain⟨rfl,rfl⟩:=xD.out (by first | assumption | decide | trivial);go_ret2;rw [wU];exact⟨rfl,aa (ap Bw.out HA.out) _⟩
end Go.Proofs.YtemlojjkokooeaaGreat
namespace Go.Proofs.YtemlojjkokooeaaGreat.Cod.Gf
def dbl (a:Nat):Nat:=(a <<< 1 &&& 255) ^^^ (if a.testBit 7 then 29 else 0)
def dblTo:Nat->Nat->Nat
  | 0,a=>a
  | k+1,a=>dbl (dblTo k a)
def pick (c:Bool) (x:Nat):Nat:=if c then x else 0
def sumTo:Nat->Nat->Nat->Nat
  | 0,_,_=>0
  | k+1,a,b=>sumTo k a b ^^^ pick (b.testBit k) (dblTo k a)
def shr (b k:Nat):Nat:=b >>> k
def mul (a b:Nat):Nat:=sumTo 8 a b
def pw (a:Nat):Nat->Nat
  | 0=>1
  | n+1=>mul (pw a n) a
def E (k:Nat):Nat:=dblTo k 1
def lgs:List Nat:=[0,0,1,25,2,50,26,198,3,223,51,238,27,104,199,75,4,100,224,14,52,141,239,129,28,193,105,248,200,8,76,113,5,138,101,47,225,36,15,33,53,147,142,218,240,18,130,69,29,181,194,125,106,39,249,185,201,154,9,120,77,228,114,166,6,191,139,98,102,221,48,253,226,152,37,179,16,145,34,136,54,208,148,206,143,150,219,189,241,210,19,92,131,56,70,64,30,66,182,163,195,72,126,110,107,58,40,84,250,133,186,61,202,94,155,159,10,21,121,43,78,212,229,172,115,243,167,87,7,112,192,247,140,128,99,13,103,74,222,237,49,197,254,24,227,165,153,119,38,184,180,124,17,68,146,217,35,32,137,46,55,63,209,91,149,188,207,205,144,135,151,178,220,252,190,97,242,86,211,171,20,42,93,158,132,60,57,83,71,109,65,162,31,45,67,216,183,123,164,118,196,23,73,236,127,12,111,246,108,161,59,82,41,157,85,170,251,96,134,177,187,204,62,90,203,89,95,176,156,169,160,81,11,245,22,235,122,117,44,215,79,174,213,233,230,231,173,232,116,214,244,234,168,80,88,175]
def lg (a:Nat):Nat:=lgs.getD a 0
theorem shr_succ(b k:Nat):shr b (k+1)=shr b k / 2:=Nat.shiftRight_succ b k
theorem shr_le(b k:Nat):shr b k<=b:=Nat.shiftRight_le b k
theorem testBit_shr(b k:Nat):b.testBit k=decide (shr b k % 2=1):=by
 unfold shr;rw [Nat.testBit_eq_decide_div_mod_eq,Nat.shiftRight_eq_div_pow]
theorem xor4(a b c d:Nat):(a ^^^ b) ^^^ (c ^^^ d)=(a ^^^ c) ^^^ (b ^^^ d):=by
 rw [Nat.xor_assoc,Nat.xor_assoc,<- Nat.xor_assoc b,<- Nat.xor_assoc c,Nat.xor_comm b c]
theorem Ci(x y:Nat):dbl (x ^^^ y)=dbl x ^^^ dbl y:=by
 unfold dbl;rw [Nat.shiftLeft_xor_distrib,Nat.and_xor_distrib_right,Nat.testBit_xor,xor4];congr 1
 cases x.testBit 7 <;> cases y.testBit 7 <;> decide
theorem DO(x:Nat):dbl x<256:=by
 unfold dbl;refine Nat.xor_lt_two_pow (n:=8) ?_ ?_
 ·exact Nat.lt_of_le_of_lt Nat.and_le_right zb
 ·split <;> decide
theorem dblTo_lt(k x:Nat)(h:x<256):dblTo k x<256:=by
 cases k with
 | zero=>exact h
 | succ k=>exact DO _
theorem tR(k x:Nat):dblTo k (dbl x)=dbl (dblTo k x):=by
 induction k with
 | zero=>rfl
 | succ k ih=>show dbl (dblTo k (dbl x))=dbl (dbl (dblTo k x));rw [ih]
theorem lL(i j x:Nat):dblTo (i+j) x=dblTo i (dblTo j x):=by
 induction i with
 | zero=>rw [Nat.zero_add];rfl
 | succ i ih=>rw [Nat.succ_add];show dbl (dblTo (i+j) x)=dbl (dblTo i (dblTo j x));rw [ih]
theorem mu(c d:Bool)(x:Nat):pick (c ^^ d) x=pick c x ^^^ pick d x:=by
 cases c <;> cases d <;> simp [pick]
theorem dbl_zero:dbl 0=0:=zb
theorem rR(k:Nat):dblTo k 0=0:=by
 induction k with
 | zero=>rfl
 | succ k ih=>show dbl (dblTo k 0)=0;rw [ih,dbl_zero]
theorem wX(c:Bool)(x:Nat):dbl (pick c x)=pick c (dbl x):=by
 cases c
 ·exact dbl_zero
 ·rfl
theorem gK(k a x y:Nat):sumTo k a (x ^^^ y)=sumTo k a x ^^^ sumTo k a y:=by
 induction k with
 | zero=>exact(Nat.xor_self 0).symm
 | succ k ih =>
  show sumTo k a (x ^^^ y) ^^^ pick _ (dblTo k a)=(sumTo k a x ^^^ pick _ _) ^^^ (sumTo k a y ^^^ pick _ _);rw [ih,Nat.testBit_xor,mu,xor4]
theorem uL(k a b:Nat):sumTo k (dbl a) b=dbl (sumTo k a b):=by
 induction k with
 | zero=>exact dbl_zero.symm
 | succ k ih =>
  show sumTo k (dbl a) b ^^^ pick _ (dblTo k (dbl a))=dbl (sumTo k a b ^^^ pick _ _);rw [ih,tR,Ci,wX]
theorem gL(k b:Nat):sumTo k 0 b=0:=by
 induction k with
 | zero=>rfl
 | succ k ih =>
  show sumTo k 0 b ^^^ pick _ (dblTo k 0)=0;rw [ih,rR];cases b.testBit k <;> rfl
theorem fS(k a:Nat):sumTo k a 0=0:=by
 induction k with
 | zero=>rfl
 | succ k ih =>
  show sumTo k a 0 ^^^ pick _ (dblTo k a)=0;rw [ih,Nat.zero_testBit];exact Nat.xor_self 0
theorem sumTo_lt(k a b:Nat)(h:a<256):sumTo k a b<256:=by
 induction k with
 | zero=>exact Nat.zero_lt_succ 255
 | succ k ih =>
  refine Nat.xor_lt_two_pow (n:=8) ih ?_;unfold pick;split
  ·exact dblTo_lt k a h
  ·decide
theorem mul_lt(a b:Nat)(h:a<256):mul a b<256:=sumTo_lt 8 a b h
theorem zero_mul(b:Nat):mul 0 b=0:=gL 8 b
theorem mul_zero(a:Nat):mul a 0=0:=fS 8 a
theorem BM(a b c:Nat):mul a (b ^^^ c)=mul a b ^^^ mul a c:=gK 8 a b c
theorem CK(a b:Nat):mul (dbl a) b=dbl (mul a b):=uL 8 a b
theorem all256{p:Nat->Bool}(h:(List.range 256).all p=L)(a:Nat)(ha:a<256):p a=L :=
 List.all_eq_true.1 h a (List.mem_range.2 ha)
theorem Ev{p:Nat->Bool}(h:(List.range 255).all p=L)(a:Nat)(ha:a<255):p a=L :=
 List.all_eq_true.1 h a (List.mem_range.2 ha)
theorem one_mul(b:Nat)(h:b<256):mul 1 b=b:=by
 have:=all256 (p:=fun b=>mul 1 b == b) (by decide +kernel) b h;exact eq_of_beq this
theorem E_lt(k:Nat):E k<256:=dblTo_lt k 1 zb
theorem DL(k:Nat):E (k+1)=dbl (E k):=rfl
theorem uv(k b:Nat)(h:b<256):mul (E k) b=dblTo k b:=by
 induction k with
 | zero=>exact one_mul b h
 | succ k ih=>rw [DL,CK,ih];rfl
theorem gG(i j:Nat):mul (E i) (E j)=E (i+j):=by
 rw [uv i _ (E_lt j)];exact(lL i j 1).symm
theorem E_255:E 255=1:=by decide +kernel
theorem wH(k:Nat):E (k+255)=E k:=by
 unfold E;rw [lL];exact congrArg (dblTo k) E_255
theorem oS(k m:Nat):E (k+255*m)=E k:=by
 induction m with
 | zero=>rfl
 | succ m ih=>rw [Nat.mul_succ,<- Nat.add_assoc,wH,ih]
theorem E_mod(k:Nat):E (k % 255)=E k:=by
 rw [<- oS (k % 255) (k / 255),Nat.mod_add_div]
theorem E_lg(a:Nat)(h:a<256)(h0:a ≠ 0):E (lg a)=a:=by
 have:=all256 (p:=fun a=>a == 0 || E (lg a) == a) (by decide +kernel) a h
 simpa [h0] using this
theorem lg_lt(a:Nat)(h:a<256):lg a<255:=by
 have:=all256 (p:=fun a=>decide (lg a<255)) (by decide +kernel) a h
 simpa using this
theorem lT(k:Nat):E k ≠ 0:=by
 rw [<- E_mod];have:=Ev (p:=fun k=>E k != 0) (by decide +kernel) (k % 255) (Nat.mod_lt _ zb);exact bne_iff_ne.1 this
theorem bV(a:Nat)(h:a<256)(h0:a ≠ 0):∃ k,k<255/\a=E k:=⟨lg a,lg_lt a h,(E_lg a h h0).symm⟩
theorem mul_comm(a b:Nat)(ha:a<256)(hb:b<256):mul a b=mul b a:=by
 by_cases h:a=0
 ·subst h;rw [zero_mul,mul_zero]
 by_cases g:b=0
 ·subst g;rw [zero_mul,mul_zero]
 obtain⟨i,_,rfl⟩:=bV a ha h;obtain⟨j,_,rfl⟩:=bV b hb g;rw [gG,gG,Nat.add_comm]
theorem mul_assoc(a b c:Nat)(ha:a<256)(hb:b<256)(hc:c<256):mul (mul a b) c=mul a (mul b c):=by
 by_cases h:a=0
 ·subst h;rw [zero_mul,zero_mul,zero_mul]
 by_cases g:b=0
 ·subst g;rw [mul_zero,zero_mul,mul_zero]
 by_cases f:c=0
 ·subst f;rw [mul_zero,mul_zero,mul_zero]
 obtain⟨i,_,rfl⟩:=bV a ha h;obtain⟨j,_,rfl⟩:=bV b hb g;obtain⟨k,_,rfl⟩:=bV c hc f;rw [gG,gG,gG,gG,Nat.add_assoc]
theorem mul_one(a:Nat)(ha:a<256):mul a 1=a:=by rw [mul_comm a 1 ha zb,one_mul a ha]
theorem mul_ne_zero(a b:Nat)(ha:a<256)(hb:b<256)(h:a ≠ 0)(g:b ≠ 0):mul a b ≠ 0:=by
 obtain⟨i,_,rfl⟩:=bV a ha h;obtain⟨j,_,rfl⟩:=bV b hb g;rw [gG];exact lT _
def add (a b:Nat):Nat:=a ^^^ b
theorem add_lt(a b:Nat)(ha:a<256)(hb:b<256):add a b<256:=Nat.xor_lt_two_pow (n:=8) ha hb
theorem add_comm(a b:Nat):add a b=add b a:=Nat.xor_comm a b
theorem add_assoc(a b c:Nat):add (add a b) c=add a (add b c):=Nat.xor_assoc a b c
theorem add_self(a:Nat):add a a=0:=Nat.xor_self a
theorem add_zero(a:Nat):add a 0=a:=Nat.xor_zero a
theorem mul_add(a b c:Nat):mul a (add b c)=add (mul a b) (mul a c):=BM a b c
theorem pw_lt(a n:Nat):pw a n<256:=by
 induction n with
 | zero=>show 1<256;decide
 | succ n ih=>exact mul_lt _ _ ih
theorem pw_E(i n:Nat):pw (E i) n=E (i*n):=by
 induction n with
 | zero=>rfl
 | succ n ih=>show mul (pw (E i) n) (E i)=_;rw [ih,gG,Nat.mul_succ]
theorem Et(a n m:Nat)(ha:a<256):pw a (n+m)=mul (pw a n) (pw a m):=by
 induction m with
 | zero=>exact(mul_one _ (pw_lt a n)).symm
 | succ m ih =>
  show mul (pw a (n+m)) a=mul (pw a n) (mul (pw a m) a);rw [ih,mul_assoc _ _ _ (pw_lt a n) (pw_lt a m) ha]
theorem DC(a n:Nat)(ha:a<256):pw (mul a a) n=pw a (2*n):=by
 induction n with
 | zero=>rfl
 | succ n ih =>
  show mul (pw (mul a a) n) (mul a a)=pw a (2*n+2);rw [ih,Et a (2*n) 2 ha];show _=mul _ (mul (mul 1 a) a);rw [one_mul a ha]
theorem DQ(a:Nat)(ha:a<256)(h:a ≠ 0):pw a 255=1:=by
 obtain⟨i,_,rfl⟩:=bV a ha h;rw [pw_E,Nat.mul_comm,<- Nat.zero_add (255*i),oS];rfl
theorem mul_inv(a:Nat)(ha:a<256)(h:a ≠ 0):mul a (pw a 254)=1:=by
 rw [mul_comm _ _ ha (pw_lt a 254)];exact DQ a ha h
theorem sq_even(x y:Nat)(hx:x<256)(h:y % 2 ≠ 1):pw (mul x x) (y / 2)=pw x y:=by
 rw [DC x _ hx,show 2*(y / 2)=y by omega]
theorem sq_odd(p x y:Nat)(hp:p<256)(hx:x<256)(h:y % 2=1):mul (mul p x) (pw (mul x x) (y / 2))=mul p (pw x y):=by
 rw [DC x _ hx,mul_assoc _ _ _ hp hx (pw_lt _ _),mul_comm x _ hx (pw_lt _ _)];show mul p (pw x (2*(y / 2)+1))=_;rw [show 2*(y / 2)+1=y by omega]
theorem tmod_neg(n:Int)(h:n<0):n.tmod 255=-((-n) % 255):=by
 rw [<- Int.tmod_eq_emod_of_nonneg za,Int.neg_tmod,Int.neg_neg]
theorem iZ(n:Int)(h:0<=n):n.tmod 255=n % 255:=Int.tmod_eq_emod_of_nonneg h
theorem tmod_lo(n:Int):-254<=n.tmod 255/\n.tmod 255<=254:=by
 by_cases h:n<0
 ·rw [tmod_neg n h];omega
 ·rw [iZ n za];omega
theorem tmod_below(n:Int)(h:n.tmod 255<0):n.tmod 255+255=n % 255:=by
 by_cases g:n<0
 ·rw [tmod_neg n g] at h ⊢;omega
 ·rw [iZ n za] at h ⊢;omega
theorem tmod_above(n:Int)(h:0<=n.tmod 255):n.tmod 255=n % 255:=by
 by_cases g:n<0
 ·rw [tmod_neg n g] at h ⊢;omega
 ·rw [iZ n za]
end Go.Proofs.YtemlojjkokooeaaGreat.Cod.Gf
namespace Go.Proofs.YtemlojjkokooeaaGreat.Cod
open Go.RowKit
theorem aN{k:IntKind}{a b:Int}(h:a=b):Ending.returned (J k a)=U (J k b):=by rw [h]
theorem Aw(n:Nat)(h:n<256):bits .xor X ((n:Int)*2 % 256) (bits .and X 29 (-((n:Int) / 128) % 256))=((Gf.dbl n:Nat):Int):=by
 have hm:-((n:Int) / 128) % 256=((if n<128 then 0 else 255:Nat):Int):=by split <;> omega
 have h2:(n:Int)*2 % 256=((n*2 % 256:Nat):Int):=za;rw [hm,h2,show (29:Int)=((29:Nat):Int) from rfl,u8_and_nat _ _ zb (by split <;> decide),u8_xor_nat _ _ za (by have:=@Nat.and_le_left 29 (if n<128 then 0 else 255);omega)];have:=Gf.all256 (p:=fun n=>(n*2 % 256) ^^^ (29 &&& (if n<128 then 0 else 255)) == Gf.dbl n) (by decide +kernel) n h;rw [eq_of_beq this]
theorem uz(s d b k:Nat)(hs:s<256)(hd:d<256)(hb:Gf.shr b k<256):
  bits .xor X (s:Int) (bits .and X (d:Int) (-(bits .and X ((Gf.shr b k:Nat):Int) 1) % 256))=((s ^^^ Gf.pick (b.testBit k) d:Nat):Int):=by
 rw [show (1:Int)=((1:Nat):Int) from rfl,u8_and_nat _ _ hb zb,nat_mask1,Gf.testBit_shr];by_cases h:Gf.shr b k % 2=1
 ·have hm:-((Gf.shr b k % 2:Nat):Int) % 256=((255:Nat):Int):=by rw [h];decide
  rw [hm,u8_and_nat _ _ hd zb,nat_mask8,Nat.mod_eq_of_lt hd,u8_xor_nat _ _ hs hd,zm h];rfl
 ·have hm:-((Gf.shr b k % 2:Nat):Int) % 256=((0:Nat):Int):=by rw [show Gf.shr b k % 2=0 by omega];decide
  rw [hm,u8_and_nat _ _ hd zb,Nat.and_zero,u8_xor_nat _ _ hs zb,zp h];rfl
theorem bT(a:Int)(w:P):
  D Y 355 #[J X a] w fun e w'=>e=U (J X (-a % 256))/\w'=w:=by
 go_enter Tryz.func355,Tryz.ntmps355
 go_wp2;go_ret;exact⟨rfl,rfl⟩
theorem rG(a:Int)(w:P)(h0:0<=a)(h1:a<=255):
  D Y 356 #[J X a] w fun e w'=>e=U (J X ((Gf.dbl a.toNat:Nat):Int))/\w'=w:=by
 obtain⟨n,rfl⟩:=Int.eq_ofNat_of_zero_le h0;rw [G];have hd:=Aw n za;have HD:=am hd;clear hd;go_enter Tryz.func356,Tryz.ntmps356
 go_wp2;go_ret;exact⟨aN HD.out,rfl⟩
theorem BG(a b:Int)(w:P)(h0:0<=a)(h1:a<=255)(g0:0<=b)(g1:b<=255):
  D Y 328 #[J X a,J X b] w fun e w'=>e=U (J X ((Gf.add a.toNat b.toNat:Nat):Int))/\w'=w:=by
 have HD:Z (bits .xor X a b=((Gf.add a.toNat b.toNat:Nat):Int)):=u8_xor a b h0 za g0 za;go_enter Tryz.func328,Tryz.ntmps328
 go_wp2;go_ret;exact⟨aN HD.out,rfl⟩
theorem mR(a b:Int)(w:P)(h0:0<=a)(h1:a<=255)(g0:0<=b)(g1:b<=255):
  D Y 348 #[.int .u8 a,.int .u8 b] w fun e w'=>e=.returned (.int .u8 ((Gf.mul a.toNat b.toNat:Nat):Int))/\w'=w:=by
 obtain⟨n,rfl⟩:=Int.eq_ofNat_of_zero_le h0;obtain⟨m,rfl⟩:=Int.eq_ofNat_of_zero_le g0;rw [G,G];go_enter Tryz.func348,Tryz.ntmps348
 go_wp2;go_loop [0,1,5,6] (fun x y s i=>∃ k:Nat,k<=8/\i=.int .i64 k/\x=.int .u8 ((Gf.dblTo k n:Nat):Int)/\y=.int .u8 ((Gf.shr m k:Nat):Int)/\s=.int .u8 ((Gf.sumTo k n m:Nat):Int)) (fun _ _ _ i=>8-(intOf i).toNat)
 case atStart=>exact⟨0,Nat.zero_le _,rfl,rfl,rfl,rfl⟩
 case round =>
  obtain⟨k,hk,rfl,rfl,rfl,rfl⟩:=hrel;have hd:Gf.dblTo k n<256:=Gf.dblTo_lt k n za;have hs:Gf.sumTo k n m<256:=Gf.sumTo_lt k n m za;have hb:Gf.shr m k<256:=Nat.lt_of_le_of_lt (Gf.shr_le _ _) za;have HM:Z (bits .xor .u8 ((Gf.sumTo k n m:Nat):Int) (bits .and .u8 ((Gf.dblTo k n:Nat):Int) (-(bits .and .u8 ((Gf.shr m k:Nat):Int) 1) % 256))=((Gf.sumTo (k+1) n m:Nat):Int)):=uz _ _ m k hs hd hb;by_cases hlt:k<8
  ·go_wp2_with (first | (go_at_call 355;refine(bT _ _).mono ?_;rintro e w' ⟨rfl,rfl⟩) | (go_at_call 356;refine(rG _ _ za za).mono ?_;rintro e w' ⟨rfl,rfl⟩))
   go_round
   case rel=>exact⟨k+1,za,by go_num,rfl,by rw [Gf.shr_succ];go_num,by rw [HM.out]⟩
   case measure=>simp [intOf];omega
  ·go_wp2;go_ret;have:k=8:=za;subst this;exact⟨rfl,rfl⟩
theorem nY(y:Nat)(h:y<=254):bits .and O (y:Int) 1=((y % 2:Nat):Int):=by
 have:=Gf.all256 (p:=fun y=>bits .and O (y:Int) 1 == ((y % 2:Nat):Int)) (by decide +kernel) y za;exact eq_of_beq this
theorem nf(n:Int)(w:P):
  D Y 350 #[J O n] w fun e w'=>e=U (J O (n % 255))/\w'=w:=by
 have hl:=(Gf.tmod_lo n).1;have hh:=(Gf.tmod_lo n).2;by_cases h:n.tmod 255<0
 ·have HE:=am (Gf.tmod_below n h);go_enter Tryz.func350,Tryz.ntmps350
  go_wp2;go_ret;exact⟨aN HE.out,rfl⟩
 ·have HE:Z (n.tmod 255=n % 255):=Gf.tmod_above n za;go_enter Tryz.func350,Tryz.ntmps350
  go_wp2;go_ret;exact⟨aN HE.out,rfl⟩
theorem ug(a n:Int)(w:P)(h0:0<=a)(h1:a<=255)(g0:0<=n)(g1:n<=254):
  D Y 349 #[J X a,J O n] w fun e w'=>e=U (J X ((Gf.pw a.toNat n.toNat:Nat):Int))/\w'=w:=by
 obtain⟨n,rfl⟩:=Int.eq_ofNat_of_zero_le g0;obtain⟨a,rfl⟩:=Int.eq_ofNat_of_zero_le h0;rw [G,G];go_enter Tryz.func349,Tryz.ntmps349
 go_wp2;go_loop [0,1,5] (fun x y p=>∃ x' y' p':Nat,x'<256/\y'<=254/\p'<256/\x=J X (x':Int)/\y=J O (y':Int)/\p=J X (p':Int)/\Z (Gf.mul p' (Gf.pw x' y')=Gf.pw a n)) (fun _ y _=>(intOf y).toNat)
 case atStart=>exact⟨a,n,1,za,za,zb,rfl,rfl,rfl,Gf.one_mul _ (Gf.pw_lt _ _)⟩
 case round =>
  obtain⟨x,y,p,hx,hy,hp,rfl,rfl,rfl,hI⟩:=hrel;have PC:Gf.mul x x<256:=Gf.mul_lt x x hx;have VN:Gf.mul p x<256:=Gf.mul_lt p x hp;by_cases hlt:0<y
  ·by_cases ho:y % 2=1
   ·have hb:(bits .and O (y:Int) 1 == 1)=L:=by rw [nY y hy,ho];rfl
    have HO:=am ho;clear ho;go_wp2_with (go_at_call 348;refine(mR _ _ _ za za za za).mono ?_;rintro e w' ⟨rfl,rfl⟩)
    go_round
    case rel=>exact⟨Gf.mul x x,y / 2,Gf.mul p x,PC,za,VN,rfl,by go_num,rfl,(Gf.sq_odd p x y hp hx HO.out).trans hI⟩
    case measure=>simp [intOf];omega
   ·have hb:(bits .and O (y:Int) 1 == 1)=R:=by rw [nY y hy,show y % 2=0 by omega];rfl
    have HO:=am ho;clear ho;go_wp2_with (go_at_call 348;refine(mR _ _ _ za za za za).mono ?_;rintro e w' ⟨rfl,rfl⟩)
    go_round
    case rel=>exact⟨Gf.mul x x,y / 2,p,PC,za,hp,rfl,by go_num,rfl,(congrArg (Gf.mul p) (Gf.sq_even x y hx HO.out)).trans hI⟩
    case measure=>simp [intOf];omega
  ·go_wp2;go_ret;have qK:y=0:=za;subst qK;exact⟨aN (by rw [<- hI.out];exact congrArg _ (Gf.mul_one p hp).symm),rfl⟩
theorem Dh(a n:Int)(w:P)(h0:0<a)(h1:a<=255):
  D Y 340 #[J X a,J O n] w fun e w'=>e=U (T #[J X ((Gf.pw a.toNat (n % 255).toNat:Nat):Int),J O 0])/\w'=w:=by
 have hl:0<=n % 255:=Int.emod_nonneg _ zb;have hh:n % 255<255:=Int.emod_lt_of_pos _ zb;have hb:(a != 0)=L:=by rw [bne_iff_ne];omega
 go_enter Tryz.func340,Tryz.ntmps340
 go_wp2_with (first | (go_at_call 350;refine(nf _ _).mono ?_;rintro e w' ⟨rfl,rfl⟩) | (go_at_call 349;refine(ug _ _ _ za za za za).mono ?_;rintro e w' ⟨rfl,rfl⟩))
 go_ret2;exact⟨rfl,rfl⟩
theorem Bv(a:Int)(w:P)(h0:0<a)(h1:a<=255):
  D Y 327 #[J X a] w fun e w'=>e=U (T #[J X ((Gf.pw a.toNat 254:Nat):Int),J O 0])/\w'=w:=by
 go_enter Tryz.func327,Tryz.ntmps327
 go_wp2_with (go_at_call 340;refine(Dh _ _ _ za za).mono ?_;rintro e w' ⟨rfl,rfl⟩)
 go_ret2;exact⟨rfl,rfl⟩
theorem Dw(x y:Nat)(w:P)(hx:x<256)(hy:y<256):D Y 328 #[J X (x:Int),J X (y:Int)] w fun e w'=>e=U (J X ((Gf.add x y:Nat):Int))/\w'=w :=
 BG x y w za za za za
theorem Dx(x y:Nat)(w:P)(hx:x<256)(hy:y<256):D Y 348 #[J X (x:Int),J X (y:Int)] w fun e w'=>e=U (J X ((Gf.mul x y:Nat):Int))/\w'=w :=
 mR x y w za za za za
theorem inv_n(x:Nat)(w:P)(hx:x<256)(h:x ≠ 0):D Y 327 #[J X (x:Int)] w fun e w'=>e=U (T #[J X ((Gf.pw x 254:Nat):Int),J O 0])/\w'=w :=
 Bv x w za za
end Go.Proofs.YtemlojjkokooeaaGreat.Cod
