import Derived.LoopN
import Derived.Test.YtemlojjkokooeaaGreatTm9
open Go.Value renaming int->J,slice->O,agg->H,tuple->R,bool->A
open Nat renaming le_succ->I
open Go.IntKind renaming i64->Q,u8->L
open Option renaming none->Y,some->T
open Bool renaming false->Z,true->V
open Go.RowKit renaming Below->U,Hid->P
open Go renaming Addr->D,World->S,Value->f,Calls->l
open Go.Proofs.Tryz renaming prog->G
open Go.Ending renaming returned->C
open Go.Obj renaming cells->d
open Go.RowKit.Below renaming refl->ja
set_option maxHeartbeats 16000000
set_option maxRecDepth 100000
namespace Go.Proofs.YtemlojjkokooeaaGreat
open Go.RowKit
def erQ (x:Int) (N:Nat) (c:Int) (n:Nat):Int:=if x=0 then (if n=0\/n=sz N c then 0 else 100) else x
def isQ (x:Int) (N:Nat) (c:Int) (n:Nat) (F:Nat->UInt8):Bool:=decide (x=0) && isS N c n F
def slQ (i:Bool) (N:Nat) (c:Int) (F:Nat->UInt8):Sl:=if i=V then dec N c F else zSl
def pE (w:S) (E:Int) (i:Bool) (z:Sl) (e:Ending) (w':S):Prop :=
  ∃ ao ca bo cb,e=.returned (.tuple #[slv z ao ca bo cb,.bool i,.int .i64 E])/\Got w.heap.size w' z ao ca bo cb/\b7 w w'
theorem sq(w:S)(b:Nat)(u0 u1 u2 u3 u4 u5:f):Only (fun x=>x=b) w ((((((w.setCell ⟨b,0,Y⟩ u0).setCell ⟨b,1,Y⟩ u1).setCell ⟨b,2,Y⟩ u2).setCell ⟨b,3,Y⟩ u3).setCell ⟨b,4,Y⟩ u4).setCell ⟨b,5,Y⟩ u5):=by
 have h0:Only (fun x=>x=b) w (w.setCell ⟨b,0,Y⟩ u0):=Only.setCell (X:=fun x=>x=b) (p:=⟨b,0,Y⟩) (Only.refl _ _) rfl _;have h1:=Only.setCell (X:=fun x=>x=b) (p:=⟨b,1,Y⟩) h0 rfl u1;have h2:=Only.setCell (X:=fun x=>x=b) (p:=⟨b,2,Y⟩) h1 rfl u2;have h3:=Only.setCell (X:=fun x=>x=b) (p:=⟨b,3,Y⟩) h2 rfl u3;have h4:=Only.setCell (X:=fun x=>x=b) (p:=⟨b,4,Y⟩) h3 rfl u4;exact Only.setCell (X:=fun x=>x=b) (p:=⟨b,5,Y⟩) h4 rfl u5
theorem aH{a v:S}{B:Nat}(h:U B a v){p:D}(hp:B<=p.block)(u:f):U B a (v.setCell p u):=h.setCell hp u
theorem Parse_any{k r c q:Int}{N W:Nat}{x:Int}(h:Par k r c q N W x)(w:S)(bo:Option D)(n cb:Nat)(F:Nat->UInt8)(hb:Bec w bo n cb F)(E:Int)(hE:erQ x N c n=E)(i:Bool)(hi:isQ x N c n F=i)(z:Sl)(hz:slQ i N c F=z):
  l G 133 #[Pz k r c q,O bo n cb] w (pE w E i z):=by
 have HZ:=fun w=>iU h w;have hx:=h.err;have hN:=h.few;obtain⟨w0,bi⟩:=jM w k r c q
 obtain⟨w1,ci⟩:=fd (w0.alloc (d #[J L 0,J Q 0,J Q 0,J Q 0,O Y 0 0,O Y 0 0] 107))
 have b0:=jt bi
 have b1:=jt ci
 have z0:=ks bi
 have z1:w1.heap.size=w.heap.size+2:=by rw [ci];simp [z0]
 have C0:P (Cel w1 w.heap.size [J Q k,J Q r,J Q c,J Q q]):=(cF bi).below b1;have C1:P (Cel w1 (w.heap.size+1) [J L 0,J Q 0,J Q 0,J Q 0,O Y 0 0,O Y 0 0]):=by show Cel _ _ _;rw [<- z0];exact cF ci
 have F1:P (∀ v,b7 w1 v->∀ i,v.frozen? ⟨w.heap.size+1,i,Y⟩=Z):=fun v hv i=>by rw [<- z0];exact aI ci hv i
 have jZ:=am (ap b0 b1);have xK:=am z1;have zG:P (∀ v,b7 w1 v->At w0 v (w.heap.size+1) #[J L 0,J Q 0,J Q 0,J Q 0,O Y 0 0,O Y 0 0] 107):=fun v hv=>by rw [<- z0,ci] at *;exact(an (ja _ _) _ _).below hv
 unfold pE;rcases hx with rfl | rfl
 ·have KG:=h.some rfl;have hc:=h.cell rfl;rw [show szE 0 N c=sz N c by unfold szE;rw [zk rfl]] at HZ;obtain⟨m,hm⟩:=fd (sz N c)
  have yr:m=12+4*N+c.toNat:=hm;have Jz:m<=1000:=za;rw [<- hm] at HZ;have IQ:isS N c n F=i:=by rw [<- hi];unfold isQ;rw [zm rfl,Bool.true_and]
  by_cases hn0:n=0
  ·obtain rfl:E=0:=by rw [<- hE];unfold erQ;rw [zk rfl,zk (.inl hn0)]
   obtain rfl:i=Z:=by rw [<- IQ];exact zp fun h=>by have:=h.1;omega
   obtain rfl:z=zSl:=hz.symm;subst hn0;have RW:¬ m=0:=za;clear hE hi IQ hz hm yr hb h;unfold slv zSl;go_enter Tryz.func133,Tryz.ntmps133
   go_wp2_with fail
   rw [<- bi,<- ci];refine(HZ _).mono ?_;rintro e wa ⟨rfl,ha⟩;have ba:=am (ap jZ.out ha);have HA:=am ha;have ca:=C1.out.below ha;have c0:=ca 0 _ rfl;have c1:=ca 1 _ rfl;have c2:=ca 2 _ rfl;have c3:=ca 3 _ rfl;have c4:=ca 4 _ rfl;have c5:=ca 5 _ rfl;have cf:=F1.out wa ha;clear bi ci b0 b1 z0 z1 HZ ca ha;go_wp2_with fail
   refine bodyPost_ret (v:=R #[H #[J L 0,J Q 0,J Q 0,J Q 0,O Y 0 0,O Y 0 0],A Z,J Q 0]) (by simp [results,Tryz.results133,go_sem,c0,c1,c2,c3,c4,c5]) rfl ?_;exact⟨Y,0,Y,0,rfl,aR _ _,aH (aH (aH (aH (aH (aH ba.out (I _) _) (I _) _) (I _) _) (I _) _) (I _) _) (I _) _⟩
  ·by_cases hnm:n=m
   ·obtain rfl:E=0:=by rw [<- hE];unfold erQ;rw [zk rfl,zk (.inr (by rw [hnm];exact hm))]
    subst hnm;obtain⟨g,o,rfl,hr⟩:=hb.rd za;have HR:=am hr;have l8:=hb.room;have Jt:=fun v=>sY v k r c q g o n cb N yr l8 KG hN hc.1 hc.2;have RX:=fun v s ao ca bo cb hs y hy=>eN h v s ao ca bo cb hs y hy;have Pp:=fun v hr=>gU (N:=N) (c:=c) v g o n F KG hN hc.1 hc.2 hm hr;have A7:=am hb;obtain⟨pt,F3⟩:=fd (prt g o (4*N) c.toNat)
    have KD:=am F3;have Vu:¬ (n:Int)=0:=za;have Pq:12<=n:=za;clear hE hb hr h F3;unfold prt at Jt;by_cases hmk:F 0=84/\F 1=50
    ·have Vv:((sOf (lsF 2 F)).toList == [84,50])=V:=by
      rw [fp,show lsF 2 F=[F 0,F 1] from rfl,hmk.1,hmk.2];rfl
     obtain⟨s,hs⟩:=fd (dec N c F)
     have FO:okS N c s=i:=by
      rw [<- IQ,hs];unfold isS;cases e:okS N c (dec N c F)
      ·exact(zp fun h=>by cases h.2.2.2).symm
      ·exact(zm ⟨hm,hmk.1,hmk.2,rfl⟩).symm
     rw [<- hs] at Pp;have RY:P (z=if i=V then s else zSl):=by show _=_;rw [<- hz,hs];rfl
     unfold prt slv at Pp;unfold slv at RX;clear hi IQ hz hm yr hmk hs;cases i
     all_goals (
      go_enter Tryz.func133,Tryz.ntmps133
      go_wp2_with fail
      rw [<- bi,<- ci];refine(HZ _).mono ?_;rintro e wa ⟨rfl,ha⟩;have ba:=am (ap jZ.out ha);have HA:=am ha;have ca:=C1.out.below ha;have c0:=ca 0 _ rfl;have c1:=ca 1 _ rfl;have c2:=ca 2 _ rfl;have c3:=ca 3 _ rfl;have c4:=ca 4 _ rfl;have c5:=ca 5 _ rfl;have cf:=F1.out wa ha;clear bi ci b0 b1 z0 z1 HZ ca ha;have pa:=C0.out.below HA.out;have p0:=pa 0 _ rfl;have p1:=pa 1 _ rfl;have p2:=pa 2 _ rfl;have p3:=pa 3 _ rfl;clear pa;go_wp2_with fail
      refine(Jt _).mono ?_;rintro e wb ⟨rfl,hb⟩;obtain⟨wc,qJ⟩:=fd (wb.alloc (d #[O (T ⟨g,o,Y⟩) 2 2,O (T ⟨g,o+2,Y⟩) 1 1,O (T ⟨g,o+3,Y⟩) 1 1,O (T ⟨g,o+4,Y⟩) 4 4,O (T ⟨g,o+8,Y⟩) 4 4,O (T ⟨g,o+12,Y⟩) (4*N) (4*N),O (T ⟨g,o+12+4*N,Y⟩) c.toNat c.toNat] 247))
      have n8:P (b7 w1 wc):=ap (ap HA.out hb) (by rw [qJ];exact bal _ _);have bc:=am (ap jZ.out n8.out);have yz:(convert 36 9 (O (T ⟨g,o,Y⟩) 2 2)).run G wc=.ok (.string (sOf (lsF 2 F))) wc:=bm ⟨fun _=>⟨g,o,rfl,fun j hj=>held (HR.out j za) bc.out⟩,(fun h=>by cases h),Nat.le_refl _⟩;clear c0 c1 c2 c3 c4 c5 cf p0 p1 p2 p3;have jx:=zG.out wc n8.out;have c0:=jx.cz 0;have c1:=jx.cz 1;have c2:=jx.cz 2;have c3:=jx.cz 3;have c4:=jx.cz 4;have c5:=jx.cz 5;have cf:=jx.free;go_wp2_with fail
      rw [<- qJ,yz];have dd:=ae qJ (ja _ _);have d0:=dd 0 rfl;have d1:=dd 1 rfl;have d2:=dd 2 rfl;have d3:=dd 3 rfl;have d4:=dd 4 rfl;have d5:=dd 5 rfl;have d6:=dd 6 rfl;have G5:P (w.heap.size+2<=wc.heap.size):=by show _<=_;rw [<- xK.out];exact n8.out.size
      clear qJ yz dd;go_wp2_with fail
      refine(Pp _ (fun j hj=>held (HR.out j hj) bc.out)).mono ?_;rintro e wd ⟨ao,ca,bo,IR,rfl,zH,hd⟩;have LN:=am zH;have Fp:=am (ap n8.out hd);clear c0 c1 c2 c3 c4 c5 cf d0 d1 d2 d3 d4 d5 d6 jx zH hd;have jx:=zG.out wd Fp.out;have c0:=jx.cz 0;have c1:=jx.cz 1;have c2:=jx.cz 2;have c3:=jx.cz 3;have c4:=jx.cz 4;have c5:=jx.cz 5;have cf:=jx.free;have pd:=C0.out.below Fp.out;have p0:=pd 0 _ rfl;have p1:=pd 1 _ rfl;have p2:=pd 2 _ rfl;have p3:=pd 3 _ rfl;have nq:¬ w.heap.size=w.heap.size+1:=za;have Yk:¬ w.heap.size+1=w.heap.size:=za;clear pd;obtain⟨we,Fq⟩:=fd ((((((wd.setCell ⟨w.heap.size+1,0,Y⟩ (J L ((s.kd.toNat:Nat):Int))).setCell ⟨w.heap.size+1,1,Y⟩ (J Q s.ix)).setCell ⟨w.heap.size+1,2,Y⟩ (J Q s.ce)).setCell ⟨w.heap.size+1,3,Y⟩ (J Q s.st)).setCell ⟨w.heap.size+1,4,Y⟩ (O ao s.vn ca)).setCell ⟨w.heap.size+1,5,Y⟩ (O bo s.dn IR))
      have RZ:P (Only (fun b=>b=w.heap.size+1) wd we):=by show Only _ _ _;rw [Fq];exact sq _ _ _ _ _ _ _ _
      have Vw:P (At w0 we (w.heap.size+1) #[J L ((s.kd.toNat:Nat):Int),J Q s.ix,J Q s.ce,J Q s.st,O ao s.vn ca,O bo s.dn IR] 107):=by show At _ _ _ _ _;rw [Fq];exact((((((jx.set 0 _).set 1 _).set 2 _).set 3 _).set 4 _).set 5 _)
      have LO:P (∀ v,Only (fun b=>b=w.heap.size+1) wd v->Got wc.heap.size v s ao ca bo IR):=fun v hv=>⟨LN.out.vec.stay fun g hg hl=>hv.block g hl (by have:=G5.out;omega),LN.out.bec.stay fun g hg hl=>hv.block g hl (by have:=G5.out;omega)⟩
      clear jx
      go_wp2_with fail
      rw [<- Fq];clear Fq;refine(RX _ s ao ca bo IR (LO.out _ RZ.out).has _ FO).mono ?_;rintro e wf ⟨rfl,hf⟩;have Jy:=am (Vw.out.below hf);have A6:=am (RZ.out.then hf)
      clear c0 c1 c2 c3 c4 c5 cf p0 p1 p2 p3 hf;have IU:=Jy.out;have c0:=IU.cz 0;have c1:=IU.cz 1;have c2:=IU.cz 2;have c3:=IU.cz 3;have c4:=IU.cz 4;have c5:=IU.cz 5;have cf:=IU.free;have zI:P (b7 w wf):=(ap jZ.out Fp.out).trans (A6.out.below (fun i hi=>by omega) (Nat.le_trans jZ.out.size Fp.out.size));clear IU;go_wp2_with fail)
     ·obtain rfl:z=zSl:=RY.out;unfold slv zSl;refine bodyPost_ret (v:=R #[H #[J L 0,J Q 0,J Q 0,J Q 0,O Y 0 0,O Y 0 0],A Z,J Q 0]) (by simp [results,Tryz.results133,go_sem,c0,c1,c2,c3,c4,c5]) rfl ?_;exact⟨Y,0,Y,0,rfl,aR _ _,aH (aH (aH (aH (aH (aH zI.out (I _) _) (I _) _) (I _) _) (I _) _) (I _) _) (I _) _⟩
     ·obtain rfl:z=s:=RY.out;unfold slv;refine bodyPost_ret (v:=R #[H #[J L ((z.kd.toNat:Nat):Int),J Q z.ix,J Q z.ce,J Q z.st,O ao z.vn ca,O bo z.dn IR],A V,J Q 0]) (by simp [results,Tryz.results133,go_sem,c0,c1,c2,c3,c4,c5]) rfl ?_;refine⟨ao,ca,bo,IR,rfl,(LO.out _ ?_).mono (by have:=G5.out;omega),aH (aH (aH (aH (aH (aH zI.out (I _) _) (I _) _) (I _) _) (I _) _) (I _) _) (I _) _⟩;exact A6.out.trans (sq _ _ _ _ _ _ _ _)
    ·have Vv:((sOf (lsF 2 F)).toList == [84,50])=Z:=by
      rw [fp,show lsF 2 F=[F 0,F 1] from rfl];simp only [beq_eq_false_iff_ne,ne_eq];intro e;simp at e;exact hmk e
     obtain rfl:i=Z:=by rw [<- IQ];exact zp fun h=>hmk ⟨h.2.1,h.2.2.1⟩
     obtain rfl:z=zSl:=hz.symm;clear hi IQ hz hm yr hmk;unfold slv zSl;go_enter Tryz.func133,Tryz.ntmps133
     go_wp2_with fail
     rw [<- bi,<- ci];refine(HZ _).mono ?_;rintro e wa ⟨rfl,ha⟩;have ba:=am (ap jZ.out ha);have HA:=am ha;have ca:=C1.out.below ha;have c0:=ca 0 _ rfl;have c1:=ca 1 _ rfl;have c2:=ca 2 _ rfl;have c3:=ca 3 _ rfl;have c4:=ca 4 _ rfl;have c5:=ca 5 _ rfl;have cf:=F1.out wa ha;clear bi ci b0 b1 z0 z1 HZ ca ha;have pa:=C0.out.below HA.out;have p0:=pa 0 _ rfl;have p1:=pa 1 _ rfl;have p2:=pa 2 _ rfl;have p3:=pa 3 _ rfl;clear pa;go_wp2_with fail
     refine(Jt _).mono ?_;rintro e wb ⟨rfl,hb⟩;obtain⟨wc,qJ⟩:=fd (wb.alloc (d #[O (T ⟨g,o,Y⟩) 2 2,O (T ⟨g,o+2,Y⟩) 1 1,O (T ⟨g,o+3,Y⟩) 1 1,O (T ⟨g,o+4,Y⟩) 4 4,O (T ⟨g,o+8,Y⟩) 4 4,O (T ⟨g,o+12,Y⟩) (4*N) (4*N),O (T ⟨g,o+12+4*N,Y⟩) c.toNat c.toNat] 247))
     have n8:P (b7 w1 wc):=ap (ap HA.out hb) (by rw [qJ];exact bal _ _);have bc:=am (ap jZ.out n8.out);have yz:(convert 36 9 (O (T ⟨g,o,Y⟩) 2 2)).run G wc=.ok (.string (sOf (lsF 2 F))) wc:=bm ⟨fun _=>⟨g,o,rfl,fun j hj=>held (HR.out j za) bc.out⟩,(fun h=>by cases h),Nat.le_refl _⟩;clear c0 c1 c2 c3 c4 c5 cf p0 p1 p2 p3;have jx:=zG.out wc n8.out;have c0:=jx.cz 0;have c1:=jx.cz 1;have c2:=jx.cz 2;have c3:=jx.cz 3;have c4:=jx.cz 4;have c5:=jx.cz 5;have cf:=jx.free;clear jx
     go_wp2_with fail
     rw [<- qJ,yz];clear qJ yz;go_wp2_with fail
     refine bodyPost_ret (v:=R #[H #[J L 0,J Q 0,J Q 0,J Q 0,O Y 0 0,O Y 0 0],A Z,J Q 0]) (by simp [results,Tryz.results133,go_sem,c0,c1,c2,c3,c4,c5]) rfl ?_;exact⟨Y,0,Y,0,rfl,aR _ _,aH (aH (aH (aH (aH (aH bc.out (I _) _) (I _) _) (I _) _) (I _) _) (I _) _) (I _) _⟩
   ·obtain rfl:E=100:=by rw [<- hE];unfold erQ;rw [zk rfl,zl (by rw [<- hm];omega)]
    obtain rfl:i=Z:=by rw [<- IQ];exact zp fun h=>hnm (by rw [hm];exact h.1)
    obtain rfl:z=zSl:=hz.symm;clear hE hi IQ hz hm yr hb h;unfold slv zSl;have A8:((n:Int) == 0)=Z:=by simp only [beq_eq_false_iff_ne];omega
    have A5:((n:Int) != (m:Int))=V:=by simp only [bne_iff_ne];omega
    go_enter Tryz.func133,Tryz.ntmps133
    go_wp2_with fail
    rw [<- bi,<- ci];refine(HZ _).mono ?_;rintro e wa ⟨rfl,ha⟩;have ba:=am (ap jZ.out ha);have HA:=am ha;have ca:=C1.out.below ha;have c0:=ca 0 _ rfl;have c1:=ca 1 _ rfl;have c2:=ca 2 _ rfl;have c3:=ca 3 _ rfl;have c4:=ca 4 _ rfl;have c5:=ca 5 _ rfl;have cf:=F1.out wa ha;clear bi ci b0 b1 z0 z1 HZ ca ha;go_wp2_with fail
    refine bodyPost_ret (v:=R #[H #[J L 0,J Q 0,J Q 0,J Q 0,O Y 0 0,O Y 0 0],A Z,J Q 100]) (by simp [results,Tryz.results133,go_sem,c0,c1,c2,c3,c4,c5]) rfl ?_;exact⟨Y,0,Y,0,rfl,aR _ _,aH (aH (aH (aH (aH (aH ba.out (I _) _) (I _) _) (I _) _) (I _) _) (I _) _) (I _) _⟩
 ·obtain rfl:E=2:=by rw [<- hE];unfold erQ;rw [zl zb]
  obtain rfl:i=Z:=by rw [<- hi];rfl
  obtain rfl:z=zSl:=hz.symm;clear hE hi hz hb h;unfold slv zSl;go_enter Tryz.func133,Tryz.ntmps133
  go_wp2_with fail
  rw [<- bi,<- ci];refine(HZ _).mono ?_;rintro e wa ⟨rfl,ha⟩;have ba:=am (ap jZ.out ha);have HA:=am ha;have ca:=C1.out.below ha;have c0:=ca 0 _ rfl;have c1:=ca 1 _ rfl;have c2:=ca 2 _ rfl;have c3:=ca 3 _ rfl;have c4:=ca 4 _ rfl;have c5:=ca 5 _ rfl;have cf:=F1.out wa ha;clear bi ci b0 b1 z0 z1 HZ ca ha;go_wp2_with fail
  refine bodyPost_ret (v:=R #[H #[J L 0,J Q 0,J Q 0,J Q 0,O Y 0 0,O Y 0 0],A Z,J Q 2]) (by simp [results,Tryz.results133,go_sem,c0,c1,c2,c3,c4,c5]) rfl ?_;exact⟨Y,0,Y,0,rfl,aR _ _,aH (aH (aH (aH (aH (aH ba.out (I _) _) (I _) _) (I _) _) (I _) _) (I _) _) (I _) _⟩
def bov (s:Sl) (ao:Option D) (ca:Nat) (bo:Option D) (cb:Nat) (t:Sl) (g6:Option D) (i9:Nat) (jr:Option D) (js:Nat):f:=.agg #[.int .u8 ((s.kd.toNat:Nat):Int),.int .i64 s.ix,.int .i64 s.ce,.int .i64 s.st,.slice ao s.vn ca,.slice bo s.dn cb,.int .u8 ((t.kd.toNat:Nat):Int),.int .i64 t.ix,.int .i64 t.ce,.int .i64 t.st,.slice g6 t.vn i9,.slice jr t.dn js]
theorem ue(w:S)(s t:Sl)(ao:Option D)(ca:Nat)(bo:Option D)(cb:Nat)(g6:Option D)(i9:Nat)(jr:Option D)(js:Nat):
  l G 220 #[bov s ao ca bo cb t g6 i9 jr js] w fun e w'=>e=C (J Q (if t.ce<s.ce then 1 else 0))/\b7 w w':=by
 unfold bov;by_cases h:t.ce<s.ce
 ·rw [zk h];go_enter Tryz.func220,Tryz.ntmps220
  go_wp2;go_ret;exact⟨rfl,bal _ _⟩
 ·rw [zl h];go_enter Tryz.func220,Tryz.ntmps220
  go_wp2;go_ret;exact⟨rfl,bal _ _⟩
theorem iv(w:S)(x0 x1 x2 x3 x4 x5 x6 x7 x8 x9 kq ya:f):(Instr.index 254 (H #[x0,x1,x2,x3,x4,x5,x6,x7,x8,x9,kq,ya]) (J Q 0)).run G w=.ok (H #[x0,x1,x2,x3,x4,x5]) w:=zh
theorem lv(w:S)(x0 x1 x2 x3 x4 x5 x6 x7 x8 x9 kq ya:f):(Instr.index 254 (H #[x0,x1,x2,x3,x4,x5,x6,x7,x8,x9,kq,ya]) (J Q 1)).run G w=.ok (H #[x6,x7,x8,x9,kq,ya]) w:=zh
theorem iP(w:S)(s t:Sl)(ao:Option D)(ca:Nat)(bo:Option D)(cb:Nat)(g6:Option D)(i9:Nat)(jr:Option D)(js:Nat)(v:Int):
  l G 209 #[bov s ao ca bo cb t g6 i9 jr js,J Q v] w fun e w'=>e=C (R #[J Q (if s.ce=v then 0 else if t.ce=v then 1 else 0),A (decide (s.ce=v) || decide (t.ce=v))])/\b7 w w':=by
 unfold bov;by_cases h:s.ce=v
 ·rw [zk h,zm h,Bool.true_or];have hq:(s.ce == v)=V:=by simpa using h
  clear h;go_enter Tryz.func209,Tryz.ntmps209
  go_wp2;refine wp_loop_rounds 3 ?_;rw [rounds_succ];go_wp2;rw [iv];go_wp2;go_ret2;exact⟨rfl,ap (bal _ _) (bal _ _)⟩
 ·rw [zl h,zp h,Bool.false_or];have hq:(s.ce == v)=Z:=by simpa using h
  clear h;by_cases h:t.ce=v
  ·rw [zk h,zm h];have hp:(t.ce == v)=V:=by simpa using h
   clear h;go_enter Tryz.func209,Tryz.ntmps209
   go_wp2;refine wp_loop_rounds 3 ?_;rw [rounds_succ];go_wp2;rw [iv];go_wp2;rw [rounds_succ];go_wp2;rw [lv];go_wp2;go_ret2;exact⟨rfl,ap (ap (bal _ _) (bal _ _)) (bal _ _)⟩
  ·rw [zl h,zp h];have hp:(t.ce == v)=Z:=by simpa using h
   clear h;go_enter Tryz.func209,Tryz.ntmps209
   go_wp2;refine wp_loop_rounds 3 ?_;rw [rounds_succ];go_wp2;rw [iv];go_wp2;rw [rounds_succ];go_wp2;rw [lv];go_wp2;rw [rounds_succ];go_wp2;go_ret2;exact⟨rfl,ap (ap (bal _ _) (bal _ _)) (bal _ _)⟩
def ofI (ix:Int) (z:Sl):Sl:=if z.ix=ix then z else zSl
def ofK (kd:UInt8) (z:Sl):Sl:=if z.kd=kd then z else zSl
def keA (b:Bool) (ao:Option D):Option D:=if b=V then ao else Y
def keN (b:Bool) (n:Nat):Nat:=if b=V then n else 0
theorem DT(w:S)(s t:Sl)(ao:Option D)(ca:Nat)(bo:Option D)(cb:Nat)(g6:Option D)(i9:Nat)(jr:Option D)(js:Nat)(x:Int):
  l G 282 #[bov s ao ca bo cb t g6 i9 jr js,J Q x] w fun e w'=>e=C (bov (ofI x s) (keA (s.ix == x) ao) (keN (s.ix == x) ca) (keA (s.ix == x) bo) (keN (s.ix == x) cb) (ofI x t) (keA (t.ix == x) g6) (keN (t.ix == x) i9) (keA (t.ix == x) jr) (keN (t.ix == x) js))/\b7 w w':=by
 unfold bov ofI;by_cases h:s.ix=x
 ·have hq:(s.ix == x)=V:=by simpa using h
  simp only [zk h,hq,keA,keN,if_true];have EV:(s.ix != x)=Z:=by simpa using h
  clear h hq;by_cases h:t.ix=x
  ·have hp:(t.ix == x)=V:=by simpa using h
   simp only [zk h,hp,if_true];have G8:(t.ix != x)=Z:=by simpa using h
   clear h hp;go_enter Tryz.func282,Tryz.ntmps282
   go_wp2;refine wp_loop_rounds 3 ?_;rw [rounds_succ];go_wp2;rw [iv];go_wp2;rw [rounds_succ];go_wp2;rw [lv];go_wp2;rw [rounds_succ];go_wp2;refine bodyPost_ret (v:=H #[J L ((s.kd.toNat:Nat):Int),J Q s.ix,J Q s.ce,J Q s.st,O ao s.vn ca,O bo s.dn cb,J L ((t.kd.toNat:Nat):Int),J Q t.ix,J Q t.ce,J Q t.st,O g6 t.vn i9,O jr t.dn js]) (by simp [results,Tryz.results282,go_sem]) rfl ⟨rfl,?_⟩;exact aa (aa (aa (bal _ _) _) _) _
  ·have hp:(t.ix == x)=Z:=by simpa using h
   simp only [zl h,hp,Bool.false_eq_true,if_false];have G8:(t.ix != x)=V:=by simpa using h
   clear h hp;go_enter Tryz.func282,Tryz.ntmps282
   go_wp2;refine wp_loop_rounds 3 ?_;rw [rounds_succ];go_wp2;rw [iv];go_wp2;rw [rounds_succ];go_wp2;rw [lv];go_wp2;rw [rounds_succ];go_wp2;refine bodyPost_ret (v:=H #[J L ((s.kd.toNat:Nat):Int),J Q s.ix,J Q s.ce,J Q s.st,O ao s.vn ca,O bo s.dn cb,J L 0,J Q 0,J Q 0,J Q 0,O Y 0 0,O Y 0 0]) (by simp [results,Tryz.results282,go_sem]) rfl ⟨rfl,?_⟩;exact aa (aa (aa (bal _ _) _) _) _
 ·have hq:(s.ix == x)=Z:=by simpa using h
  simp only [zl h,hq,keA,keN,Bool.false_eq_true,if_false];have EV:(s.ix != x)=V:=by simpa using h
  clear h hq;by_cases h:t.ix=x
  ·have hp:(t.ix == x)=V:=by simpa using h
   simp only [zk h,hp,if_true];have G8:(t.ix != x)=Z:=by simpa using h
   clear h hp;go_enter Tryz.func282,Tryz.ntmps282
   go_wp2;refine wp_loop_rounds 3 ?_;rw [rounds_succ];go_wp2;rw [iv];go_wp2;rw [rounds_succ];go_wp2;rw [lv];go_wp2;rw [rounds_succ];go_wp2;refine bodyPost_ret (v:=H #[J L 0,J Q 0,J Q 0,J Q 0,O Y 0 0,O Y 0 0,J L ((t.kd.toNat:Nat):Int),J Q t.ix,J Q t.ce,J Q t.st,O g6 t.vn i9,O jr t.dn js]) (by simp [results,Tryz.results282,go_sem]) rfl ⟨rfl,?_⟩;exact aa (aa (aa (bal _ _) _) _) _
  ·have hp:(t.ix == x)=Z:=by simpa using h
   simp only [zl h,hp,Bool.false_eq_true,if_false];have G8:(t.ix != x)=V:=by simpa using h
   clear h hp;go_enter Tryz.func282,Tryz.ntmps282
   go_wp2;refine wp_loop_rounds 3 ?_;rw [rounds_succ];go_wp2;rw [iv];go_wp2;rw [rounds_succ];go_wp2;rw [lv];go_wp2;rw [rounds_succ];go_wp2;refine bodyPost_ret (v:=H #[J L 0,J Q 0,J Q 0,J Q 0,O Y 0 0,O Y 0 0,J L 0,J Q 0,J Q 0,J Q 0,O Y 0 0,O Y 0 0]) (by simp [results,Tryz.results282,go_sem]) rfl ⟨rfl,?_⟩;exact aa (aa (aa (bal _ _) _) _) _
theorem Got.of{B:Nat}{w:S}{s:Sl}{ao:Option D}{ca:Nat}{bo:Option D}{cb:Nat}(h:Got B w s ao ca bo cb)(x:Int):Got B w (ofI x s) (keA (s.ix == x) ao) (keN (s.ix == x) ca) (keA (s.ix == x) bo) (keN (s.ix == x) cb):=by
 unfold ofI keA keN;by_cases k:s.ix=x
 ·have hq:(s.ix == x)=V:=by simpa using k
  simp only [zk k,hq,if_true];exact h
 ·have hq:(s.ix == x)=Z:=by simpa using k
  simp only [zl k,hq,Bool.false_eq_true,if_false];exact aR _ _
theorem gX(w:S)(s t:Sl)(ao:Option D)(ca:Nat)(bo:Option D)(cb:Nat)(g6:Option D)(i9:Nat)(jr:Option D)(js:Nat)(x:UInt8):
  l G 208 #[bov s ao ca bo cb t g6 i9 jr js,J L ((x.toNat:Nat):Int)] w fun e w'=>e=C (bov (ofK x s) (keA (s.kd == x) ao) (keN (s.kd == x) ca) (keA (s.kd == x) bo) (keN (s.kd == x) cb) (ofK x t) (keA (t.kd == x) g6) (keN (t.kd == x) i9) (keA (t.kd == x) jr) (keN (t.kd == x) js))/\b7 w w':=by
 unfold bov ofK;by_cases h:s.kd=x
 ·have hq:(s.kd == x)=V:=by simpa using h
  simp only [zk h,hq,keA,keN,if_true];have EV:(((s.kd.toNat:Nat):Int) != ((x.toNat:Nat):Int))=Z:=by simp [h]
  clear h hq;by_cases h:t.kd=x
  ·have hp:(t.kd == x)=V:=by simpa using h
   simp only [zk h,hp,if_true];have G8:(((t.kd.toNat:Nat):Int) != ((x.toNat:Nat):Int))=Z:=by simp [h]
   clear h hp;go_enter Tryz.func208,Tryz.ntmps208
   go_wp2;refine wp_loop_rounds 3 ?_;rw [rounds_succ];go_wp2;rw [iv];go_wp2;rw [rounds_succ];go_wp2;rw [lv];go_wp2;rw [rounds_succ];go_wp2;refine bodyPost_ret (v:=H #[J L ((s.kd.toNat:Nat):Int),J Q s.ix,J Q s.ce,J Q s.st,O ao s.vn ca,O bo s.dn cb,J L ((t.kd.toNat:Nat):Int),J Q t.ix,J Q t.ce,J Q t.st,O g6 t.vn i9,O jr t.dn js]) (by simp [results,Tryz.results208,go_sem]) rfl ⟨rfl,?_⟩;exact aa (aa (aa (bal _ _) _) _) _
  ·have hp:(t.kd == x)=Z:=by simpa using h
   simp only [zl h,hp,Bool.false_eq_true,if_false];have G8:(((t.kd.toNat:Nat):Int) != ((x.toNat:Nat):Int))=V:=by simp only [bne_iff_ne,ne_eq,Int.natCast_inj];exact fun e=>h (UInt8.toNat_inj.1 e)
   clear h hp;go_enter Tryz.func208,Tryz.ntmps208
   go_wp2;refine wp_loop_rounds 3 ?_;rw [rounds_succ];go_wp2;rw [iv];go_wp2;rw [rounds_succ];go_wp2;rw [lv];go_wp2;rw [rounds_succ];go_wp2;refine bodyPost_ret (v:=H #[J L ((s.kd.toNat:Nat):Int),J Q s.ix,J Q s.ce,J Q s.st,O ao s.vn ca,O bo s.dn cb,J L 0,J Q 0,J Q 0,J Q 0,O Y 0 0,O Y 0 0]) (by simp [results,Tryz.results208,go_sem]) rfl ⟨rfl,?_⟩;exact aa (aa (aa (bal _ _) _) _) _
 ·have hq:(s.kd == x)=Z:=by simpa using h
  simp only [zl h,hq,keA,keN,Bool.false_eq_true,if_false];have EV:(((s.kd.toNat:Nat):Int) != ((x.toNat:Nat):Int))=V:=by simp only [bne_iff_ne,ne_eq,Int.natCast_inj];exact fun e=>h (UInt8.toNat_inj.1 e)
  clear h hq;by_cases h:t.kd=x
  ·have hp:(t.kd == x)=V:=by simpa using h
   simp only [zk h,hp,if_true];have G8:(((t.kd.toNat:Nat):Int) != ((x.toNat:Nat):Int))=Z:=by simp [h]
   clear h hp;go_enter Tryz.func208,Tryz.ntmps208
   go_wp2;refine wp_loop_rounds 3 ?_;rw [rounds_succ];go_wp2;rw [iv];go_wp2;rw [rounds_succ];go_wp2;rw [lv];go_wp2;rw [rounds_succ];go_wp2;refine bodyPost_ret (v:=H #[J L 0,J Q 0,J Q 0,J Q 0,O Y 0 0,O Y 0 0,J L ((t.kd.toNat:Nat):Int),J Q t.ix,J Q t.ce,J Q t.st,O g6 t.vn i9,O jr t.dn js]) (by simp [results,Tryz.results208,go_sem]) rfl ⟨rfl,?_⟩;exact aa (aa (aa (bal _ _) _) _) _
  ·have hp:(t.kd == x)=Z:=by simpa using h
   simp only [zl h,hp,Bool.false_eq_true,if_false];have G8:(((t.kd.toNat:Nat):Int) != ((x.toNat:Nat):Int))=V:=by simp only [bne_iff_ne,ne_eq,Int.natCast_inj];exact fun e=>h (UInt8.toNat_inj.1 e)
   clear h hp;go_enter Tryz.func208,Tryz.ntmps208
   go_wp2;refine wp_loop_rounds 3 ?_;rw [rounds_succ];go_wp2;rw [iv];go_wp2;rw [rounds_succ];go_wp2;rw [lv];go_wp2;rw [rounds_succ];go_wp2;refine bodyPost_ret (v:=H #[J L 0,J Q 0,J Q 0,J Q 0,O Y 0 0,O Y 0 0,J L 0,J Q 0,J Q 0,J Q 0,O Y 0 0,O Y 0 0]) (by simp [results,Tryz.results208,go_sem]) rfl ⟨rfl,?_⟩;exact aa (aa (aa (bal _ _) _) _) _
theorem Got.only{B:Nat}{w:S}{s:Sl}{ao:Option D}{ca:Nat}{bo:Option D}{cb:Nat}(h:Got B w s ao ca bo cb)(x:UInt8):Got B w (ofK x s) (keA (s.kd == x) ao) (keN (s.kd == x) ca) (keA (s.kd == x) bo) (keN (s.kd == x) cb):=by
 unfold ofK keA keN;by_cases k:s.kd=x
 ·have hq:(s.kd == x)=V:=by simpa using k
  simp only [zk k,hq,if_true];exact h
 ·have hq:(s.kd == x)=Z:=by simpa using k
  simp only [zl k,hq,Bool.false_eq_true,if_false];exact aR _ _
end Go.Proofs.YtemlojjkokooeaaGreat
