import Derived.Test.YtemlojjkokooeaaGreatTm17
import Derived.Test.YtemlojjkokooeaaGreatTm23
open Go.Value renaming int->J,slice->Y,pointer->H,agg->T,bool->R,tuple->f
open Go.IntKind renaming i64->O,u8->t
open Option renaming none->I,some->Z
open Go.Ground renaming phase->U,data->G
open Go.RowKit renaming Below->X,Hid->B
open Go.Operand renaming tmp->D
open Go.RowKit.Below renaming refl->V
open Go.Proofs.Tryz renaming prog->P
open Go.Ending renaming returned->S
open Bool renaming false->p,true->m
open Go renaming Calls->l,World->d
set_option maxHeartbeats 16000000
set_option maxRecDepth 100000
namespace Go.Proofs.YtemlojjkokooeaaGreat
open Go.RowKit
def hN (y0 y1:Sl) (kd:UInt8) (v:Int):Int:=if hB y0 kd v=m then 0 else if hB y1 kd v=m then 1 else -1
theorem AE(y:Sl)(kd:UInt8)(v:Int):(hB y kd v=p/\decide (¬ y.ce=0)=p)\/(hB y kd v=p/\decide (¬ y.ce=0)=m/\(((y.kd.toNat:Nat):Int) == ((kd.toNat:Nat):Int))=p)\/(hB y kd v=p/\decide (¬ y.ce=0)=m/\(((y.kd.toNat:Nat):Int) == ((kd.toNat:Nat):Int))=m/\(y.ce == v)=p)\/(hB y kd v=m/\decide (¬ y.ce=0)=m/\(((y.kd.toNat:Nat):Int) == ((kd.toNat:Nat):Int))=m/\(y.ce == v)=m):=by
 unfold hB;by_cases h1:y.ce=0
 ·exact .inl ⟨zp fun h=>h.1 (by rw [<- h.2.2];exact h1),zp fun h=>h h1⟩
 ·by_cases h2:y.kd=kd
  ·have e2:(((y.kd.toNat:Nat):Int) == ((kd.toNat:Nat):Int))=m:=by rw [h2];simp
   by_cases h3:y.ce=v
   ·exact .inr (.inr (.inr ⟨zm ⟨by rw [<- h3];exact h1,h2,h3⟩,zm h1,e2,by simpa using h3⟩))
   ·exact .inr (.inr (.inl ⟨zp fun h=>h3 h.2.2,zm h1,e2,by simpa using h3⟩))
  ·refine .inr (.inl ⟨zp fun h=>h2 h.2.1,zm h1,?_⟩);simp only [beq_eq_false_iff_ne,ne_eq,Int.natCast_inj];exact fun e=>h2 (UInt8.toNat_inj.1 e)
theorem hreg(w1:d)(k r c q ix:Int)(g0 g1 i:Nat)(hi:(0:Int)<=(i:Int))(hi2:(i:Int)<2)(a0:Option Addr)(n0 c0:Nat)(y:Sl)(b:Bool)(x0 x1 x2 x4 x7 x8 x9 kq qG qO xr qM qn qH qp qr qI qt qk qu ql o8 m8 lw l5 kO qP yj Fc EE EG B7 B8 zS zT zU zB:Value)
  (HS:B (∀ v,b7 w1 v->(v.cell? ⟨g0,0,I⟩=Z (J O k)/\v.cell? ⟨g0,1,I⟩=Z (J O r)/\v.cell? ⟨g0,2,I⟩=Z (J O c)/\v.cell? ⟨g0,3,I⟩=Z (J O q)/\v.cell? ⟨g1,i,I⟩=Z (Y a0 n0 c0))))
  (kp:B (∀ v,b7 w1 v->l P 135 #[Pz k r c q,Y a0 n0 c0,J O ix] v fun e w'=>∃ ao ca bo cb,e=S (f #[T #[J t ((y.kd.toNat:Nat):Int),J O y.ix,J O y.ce,J O y.st,Y ao y.vn ca,Y bo y.dn cb],R b])/\Got v.heap.size w' y ao ca bo cb/\b7 v w'))
  (Q:Exit->Act->d->Prop) (HQ:B (∀ v g ao ca bo cb,b7 w1 v->At w1 v g #[J t ((y.kd.toNat:Nat):Int),J O y.ix,J O y.ce,J O y.st,Y ao y.vn ca,Y bo y.dn cb] 107->Q .normal ⟨#[x0,x1,x2,J O ix,x4,H (Z ⟨g0,0,I⟩),H (Z ⟨g1,0,I⟩),x7,x8,x9,kq,J O (i:Int),H (Z ⟨g,0,I⟩),R b,xr,qM,qn,qH,f #[T #[J t ((y.kd.toNat:Nat):Int),J O y.ix,J O y.ce,J O y.st,Y ao y.vn ca,Y bo y.dn cb],R b],Pz k r c q,J O (i:Int),H (Z ⟨g1,i,I⟩),Y a0 n0 c0,J O ix,f #[T #[J t ((y.kd.toNat:Nat):Int),J O y.ix,J O y.ce,J O y.st,Y ao y.vn ca,Y bo y.dn cb],R b],T #[J t ((y.kd.toNat:Nat):Int),J O y.ix,J O y.ce,J O y.st,Y ao y.vn ca,Y bo y.dn cb],R b,lw,l5,kO,qP,yj,Fc,EE,EG,B7,B8,zS,zT,zU,zB],[]⟩ v)) :
  Code.wp P (Code.region 4 #[⟨Z 19,.load 23 (D 5),23,"ref.go:51",#[],I⟩,⟨Z 20,.move (D 11),3,"ref.go:51",#[],I⟩,⟨Z 21,.indexAddr 97 (D 6) (D 20),0,"ref.go:51",#[⟨1,G⟩],I⟩,⟨Z 22,.load 36 (D 21),36,"ref.go:51",#[⟨2,G⟩],I⟩,⟨Z 23,.move (D 3),3,"ref.go:51",#[],I⟩,⟨Z 24,.call { callee:=.value (.func 135),args:=#[D 19,D 22,D 23],argTypes:=#[23,36,3]},170,"ref.go:51",#[⟨0,G⟩,⟨3,G⟩,⟨4,G⟩],I⟩,⟨Z 18,.move (D 24),170,"ref.go:51",#[⟨5,G⟩],I⟩,⟨Z 25,.extract (D 18) 0,107,"ref.go:51",#[⟨6,G⟩],I⟩,⟨Z 26,.extract (D 18) 1,4,"ref.go:51",#[⟨6,G⟩,⟨10,Ground.gcOnly Departure.lateStores⟩],I⟩,⟨Z 12,.alloc 107,0,"ref.go:51",#[],I⟩,⟨I,.store 107 (D 12) (D 25),0,"ref.go:51",#[⟨9,G⟩,⟨7,G⟩,⟨5,.chain⟩,⟨0,U⟩,⟨1,U⟩,⟨2,U⟩,⟨3,U⟩,⟨4,U⟩,⟨5,U⟩,⟨6,U⟩,⟨7,U⟩,⟨8,Ground.textOnly Departure.lateStores⟩,⟨9,U⟩],I⟩,⟨Z 13,.assign (D 26),4,"ref.go:51",#[⟨8,G⟩,⟨10,.chain⟩,⟨0,U⟩,⟨1,U⟩,⟨2,U⟩,⟨3,U⟩,⟨4,U⟩,⟨5,U⟩,⟨6,U⟩,⟨7,U⟩,⟨8,U⟩,⟨9,U⟩,⟨10,U⟩],I⟩] m) Q ⟨#[x0,x1,x2,J O ix,x4,H (Z ⟨g0,0,I⟩),H (Z ⟨g1,0,I⟩),x7,x8,x9,kq,J O (i:Int),qG,qO,xr,qM,qn,qH,qp,qr,qI,qt,qk,qu,ql,o8,m8,lw,l5,kO,qP,yj,Fc,EE,EG,B7,B8,zS,zT,zU,zB],[]⟩ w1:=by
 obtain⟨s0,s1,s2,s3,s4⟩:=HS.out w1 (V _ _);have hd0:b7 w1 w1.drew:=bdw _ _;have zV:∀ o,b7 w1 (w1.alloc o).drew:=fun o=>eY (aa (V _ _) o);go_region_held3 (fun v=>v.cell? ⟨g0,0,I⟩=Z (J O k)/\v.cell? ⟨g0,1,I⟩=Z (J O r)/\v.cell? ⟨g0,2,I⟩=Z (J O c)/\v.cell? ⟨g0,3,I⟩=Z (J O q)/\v.cell? ⟨g1,i,I⟩=Z (Y a0 n0 c0)) ((refine HS.out _ ?_;first | with_reducible exact hd0 | with_reducible exact zV _ | with_reducible exact j8 | with_reducible exact aa j8 _ | with_reducible exact aC j8 hgg _ _ _ _ _ _ | with_reducible exact aC (aa j8 _) j8.size _ _ _ _ _ _)) ((first
  | (go_at_call 135;refine(kp.out _ (zV _)).mono ?_;rintro e w' ⟨ao,ca,bo,cb,rfl,hv,g8⟩;have j8:=ap (zV _) g8;have jx:At w1 w' w1.heap.size #[J t 0,J O 0,J O 0,J O 0,Y I 0 0,Y I 0 0] 107:=(an (a:=w1) (V _ _) _ 107).drew.below g8;have hgg:=jx.1;have c0:=jx.cz 0;have c1:=jx.cz 1;have c2:=jx.cz 2;have c3:=jx.cz 3;have c4:=jx.cz 4;have c5:=jx.cz 5;have cf:=jx.free;clear g8)
  | (go_at_call 135;refine(kp.out _ hd0).mono ?_;rintro e w' ⟨ao,ca,bo,cb,rfl,hv,g8⟩;have j8:=ap hd0 g8;clear g8)))
 ·refine HQ.out _ _ ao ca bo cb ?_ ?_
  ·exact aa j8 _
  ·exact an j8 _ _
 ·refine HQ.out _ _ ao ca bo cb ?_ ?_
  ·exact aC j8 hgg _ _ _ _ _ _
  ·exact ik jx _ _ _ _ _ _
theorem lX{k r c q:Int}{N W:Nat}(h:Par k r c q N W 0)(w:d)(a0:Option Addr)(n0 c0:Nat)(F0:Nat->UInt8)(a1:Option Addr)(n1 c1:Nat)(F1:Nat->UInt8)(h0:Bec w a0 n0 c0 F0)(h1:Bec w a1 n1 c1 F1)(l0:n0<=9223372036854775807)(l1:n1<=9223372036854775807)(kd:UInt8)(ix v:Int)(y0 y1:Sl)(qK:he 0 N c ix n0 F0=y0)(kL:he 0 N c ix n1 F1=y1):
  l P 137 #[Pz k r c q,T #[Y a0 n0 c0,Y a1 n1 c1],J t ((kd.toNat:Nat):Int),J O ix,J O v] w fun e w'=>e=S (J O (hN y0 y1 kd v))/\b7 w w':=by
 obtain⟨w0,bi⟩:=jM w k r c q
 have jW:=jt bi
 have j7:=ks bi
 obtain⟨w1,ci⟩:=fd (w0.alloc (.cells #[Y a0 n0 c0,Y a1 n1 c1] 97))
 have jX:=jt ci
 have kc:w1.heap.size=w.heap.size+1+1:=by rw [ci];simp [j7]
 have Bw:B (b7 w w1):=(ap jW jX)
 have kF:B (∀ v,b7 w1 v->At w v (w.heap.size) #[J O k,J O r,J O c,J O q] 23):=fun v hv=>by exact(ah (V _ _) bi).below (ap jX hv)
 have kV:B (∀ v,b7 w1 v->At w v (w.heap.size+1) #[Y a0 n0 c0,Y a1 n1 c1] 97):=fun v hv=>by rw [<- j7];exact(ah jW ci).below (ap (V _ _) hv)
 have Fd:=am fun v (hv:b7 w v)=>fg h v a0 n0 c0 F0 (h0.below hv) l0 ix y0 qK;have qi:=am fun v (hv:b7 w v)=>fg h v a1 n1 c1 F1 (h1.below hv) l1 ix y1 kL;have HO:B (∀ i:Nat,i<2->∃ a n cc y,((i=0/\a=a0/\n=n0/\cc=c0/\y=y0)\/(i=1/\a=a1/\n=n1/\cc=c1/\y=y1))/\(∀ v,b7 w1 v->v.cell? ⟨w.heap.size,0,I⟩=Z (J O k)/\v.cell? ⟨w.heap.size,1,I⟩=Z (J O r)/\v.cell? ⟨w.heap.size,2,I⟩=Z (J O c)/\v.cell? ⟨w.heap.size,3,I⟩=Z (J O q)/\v.cell? ⟨w.heap.size+1,i,I⟩=Z (Y a n cc))/\(∀ v,b7 w v->l P 135 #[Pz k r c q,Y a n cc,J O ix] v fun e w'=>∃ ao ca bo cb,e=S (f #[slv y ao ca bo cb,R (decide (¬ y.ce=0))])/\Got v.heap.size w' y ao ca bo cb/\b7 v w')):=fun i hi=>by
  rcases (show i=0\/i=1 by omega) with rfl | rfl
  ·refine⟨a0,n0,_,y0,.inl ⟨rfl,rfl,rfl,rfl,rfl⟩,fun v hv=>?_,Fd.out⟩;have p0:=kF.out v hv;exact⟨p0.cz 0,p0.cz 1,p0.cz 2,p0.cz 3,(kV.out v hv).cz 0⟩
  ·refine⟨a1,n1,_,y1,.inr ⟨rfl,rfl,rfl,rfl,rfl⟩,fun v hv=>?_,qi.out⟩;have p0:=kF.out v hv;exact⟨p0.cz 0,p0.cz 1,p0.cz 2,p0.cz 3,(kV.out v hv).cz 1⟩
 clear h h0 h1 l0 l1 qK kL Fd qi kF kV;unfold slv at HO;go_enter Tryz.func137,Tryz.ntmps137
 go_wp2_with fail
 rw [<- bi,<- ci];clear bi jW j7 ci jX kc;go_loopw [11] (fun y wr=>∃ i:Nat,i<=2/\y=J O (i:Int)/\B (b7 w1 wr)/\B ((0<i->hB y0 kd v=p)/\(1<i->hB y1 kd v=p))) (fun y _=>2-(intOf y).toNat)
 case atStart=>exact⟨0,Nat.zero_le _,rfl,V _ _,fun hh=>absurd hh za,fun hh=>absurd hh za⟩
 case round =>
  obtain⟨i,hi,rfl,jB,Hf⟩:=hrel;by_cases hlt:i<2
  ·have i1:(0:Int)<=(i:Int):=za;have i2:(i:Int)<2:=za;obtain⟨a,n,cc,y,FT,hs,hp⟩:=HO.out i hlt;have IP:B ((hB y kd v=m->hN y0 y1 kd v=(i:Int))/\(hB y kd v=p->(0<i+1->hB y0 kd v=p)/\(1<i+1->hB y1 kd v=p))):=by
    show _/\_;rcases FT with ⟨rfl,_,_,_,rfl⟩ | ⟨rfl,_,_,_,rfl⟩
    ·refine⟨fun hh=>by unfold hN;rw [zk hh];rfl,fun hh=>⟨fun _=>hh,fun h2=>absurd h2 za⟩⟩
    ·have h3:=Hf.out.1 za;refine⟨fun hh=>by unfold hN;rw [zl (by rw [h3];exact Bool.false_ne_true),zk hh];rfl,fun hh=>⟨fun _=>h3,fun _=>hh⟩⟩
   have HS:=am fun u (hu:b7 wr u)=>hs u (ap jB.out hu);have HP:=fun u (hu:b7 wr u)=>hp u (ap Bw.out (ap jB.out hu));clear hs hp FT Hf;go_wp2_with fail
   refine hreg wr k r c q ix w.heap.size (w.heap.size+1) i i1 i2 a n cc y (decide (¬ y.ce=0)) _ _ _ _ _ _ _ _ _ _ _ _ _ _ _ _ _ _ _ _ _ _ _ _ _ _ _ _ _ _ _ _ _ _ _ _ _ HS HP _ (fun v' g ao ca bo cb ku jx=>?_);have m9:=am (ap jB.out ku);have c0:=jx.cz 0;have c2:=jx.cz 2;clear jx ku HP HS HO;rcases AE y kd v with ⟨e0,e1⟩ | ⟨e0,e1,e2⟩ | ⟨e0,e1,e2,e3⟩ | ⟨e0,e1,e2,e3⟩
   ·rw [e1];go_wp2_with fail
    go_roundw
    case rel=>exact⟨i+1,za,by go_num,m9.out,IP.out.2 e0⟩
    case measure=>simp [intOf];omega
   ·rw [e1];go_wp2_with fail
    go_roundw
    case rel=>exact⟨i+1,za,by go_num,m9.out,IP.out.2 e0⟩
    case measure=>simp [intOf];omega
   ·rw [e1];go_wp2_with fail
    go_roundw
    case rel=>exact⟨i+1,za,by go_num,m9.out,IP.out.2 e0⟩
    case measure=>simp [intOf];omega
   ·rw [e1];go_wp2_with fail
    go_ret;exact⟨by rw [IP.out.1 e0];rfl,ap Bw.out m9.out⟩
  ·have hi2:i=2:=za;subst hi2;go_wp2_with fail
   go_ret;refine⟨?_,ap Bw.out jB.out⟩;unfold hN;rw [zl (by rw [Hf.out.1 za];exact Bool.false_ne_true),zl (by rw [Hf.out.2 za];exact Bool.false_ne_true)];rfl
theorem AW{k r c q:Int}{N W:Nat}(h:Par k r c q N W 0)(w:d)(ro:Option Addr)(rn rc:Nat)(A:Nat->Option Addr)(L C:Nat->Nat)(F:Nat->Nat->UInt8)(hr:Rw w ro rn A L C F)(y:Bool)(hy:decide (rn=N/\∀ j,j<2*rn->L j=0\/L j=sz N c)=y):
  l P 134 #[Pz k r c q,Y ro rn rc] w fun e w'=>e=S (R y)/\b7 w w':=by
 obtain⟨w0,bi⟩:=jM w k r c q
 have B0:B (b7 w w0):=by show X _ _ _;rw [bi];exact bal _ _
 have L0:=am fun v (hv:b7 w0 v)=>(ah (V _ _) bi).below hv;have qe:=h.le;have HN:B (∀ v,l P 111 #[Pz k r c q] v fun e w'=>e=S (J O (N:Int))/\b7 v w'):=fun v=>lW c q h.sum qe v;by_cases hn:rn=N
 ·subst hn;have Ha:((rn:Int) != (rn:Int))=p:=zi;obtain⟨z,hz⟩:=fd (sz rn c)
  have HP:B (∀ v a0 n0 c0 a1 n1 c1,l P 205 #[Pz k r c q,T #[Y a0 n0 c0,Y a1 n1 c1]] v fun e w'=>e=S (R (decide ((n0=0\/n0=z)/\(n1=0\/n1=z))))/\b7 v w'):=fun v a0 n0 c0 a1 n1 c1=>by rw [hz];exact uI h v a0 n0 c0 a1 n1 c1
  rw [<- hz] at hy;have HE:B ((∀ j,j<2*rn->L j=0\/L j=z)/\y=m\/¬ (∀ j,j<2*rn->L j=0\/L j=z)/\y=p):=by
   by_cases g:∀ j,j<2*rn->L j=0\/L j=z
   ·exact .inl ⟨g,by rw [<- hy];exact zm ⟨rfl,g⟩⟩
   ·exact .inr ⟨g,by rw [<- hy];exact zp fun a=>g a.2⟩
  have HR:=am hr;clear hy hr hz h;go_enter Tryz.func134,Tryz.ntmps134
  go_wp2_with fail
  rw [<- bi];clear bi;refine(HN.out _).mono ?_;rintro e wa ⟨rfl,ha⟩;have BA:=am ha;clear ha;go_wp2_with fail
  go_loopw [5] (fun x wr=>∃ i:Nat,i<=rn/\x=J O (i:Int)/\B (b7 wa wr)/\B (∀ j,j<2*i->L j=0\/L j=z)) (fun x _=>rn-(intOf x).toNat)
  case atStart=>exact⟨0,Nat.zero_le _,rfl,V _ _,fun j hj=>absurd hj za⟩
  case round =>
   obtain⟨i,hi,rfl,hb,hall⟩:=hrel;have BR:=am (ap BA.out hb.out);by_cases hlt:i<rn
   ·obtain⟨b,off,rfl,jI⟩:=HR.out.at_ za;have c0:wr.cell? ⟨b,off+i*2,I⟩=Z (Y (A (2*i)) (L (2*i)) (C (2*i))):=held (jI i hlt).1 (ap B0.out BR.out);have c1:wr.cell? ⟨b,off+i*2+1,I⟩=Z (Y (A (2*i+1)) (L (2*i+1)) (C (2*i+1))):=held (jI i hlt).2 (ap B0.out BR.out);clear jI;have i1:(0:Int)<=(i:Int):=za;have i2:(i:Int)<(rn:Int):=za;have pq:=L0.out wr BR.out;have s0:=pq.cz 0;have s1:=pq.cz 1;have s2:=pq.cz 2;have s3:=pq.cz 3;clear pq;have K0:=fun v=>HP.out v (A (2*i)) (L (2*i)) (C (2*i)) (A (2*i+1)) (L (2*i+1)) (C (2*i+1));have CH:B (∀ v,b7 wr v->v.cell? ⟨w.heap.size,0,I⟩=Z (J O k)/\v.cell? ⟨w.heap.size,1,I⟩=Z (J O r)/\v.cell? ⟨w.heap.size,2,I⟩=Z (J O c)/\v.cell? ⟨w.heap.size,3,I⟩=Z (J O q)/\v.cell? ⟨b,off+i*2,I⟩=Z (Y (A (2*i)) (L (2*i)) (C (2*i)))/\v.cell? ⟨b,off+i*2+1,I⟩=Z (Y (A (2*i+1)) (L (2*i+1)) (C (2*i+1)))):=fun v hv=>by
     have pq:=L0.out v (ap BR.out hv);exact⟨pq.cz 0,pq.cz 1,pq.cz 2,pq.cz 3,held c0 hv,held c1 hv⟩
    by_cases g:(L (2*i)=0\/L (2*i)=z)/\(L (2*i+1)=0\/L (2*i+1)=z)
    ·rw [zm g] at K0;have P9:=am K0;have yi:B (∀ j,j<2*(i+1)->L j=0\/L j=z):=fun j hj=>by
      by_cases e1:j=2*i
      ·rw [e1];exact g.1
      ·by_cases e2:j=2*i+1
       ·rw [e2];exact g.2
       ·exact hall.out j za
     clear K0 g;go_wp2_with fail
     go_region_held3 (fun v=>v.cell? ⟨w.heap.size,0,I⟩=Z (J O k)/\v.cell? ⟨w.heap.size,1,I⟩=Z (J O r)/\v.cell? ⟨w.heap.size,2,I⟩=Z (J O c)/\v.cell? ⟨w.heap.size,3,I⟩=Z (J O q)/\v.cell? ⟨b,off+i*2,I⟩=Z (Y (A (2*i)) (L (2*i)) (C (2*i)))/\v.cell? ⟨b,off+i*2+1,I⟩=Z (Y (A (2*i+1)) (L (2*i+1)) (C (2*i+1)))) (go_keep) ((go_at_call 205;refine(P9.out _).mono ?_;rintro e wf ⟨rfl,hf⟩;have Fb:=am (az hf);obtain⟨e0,e1,e2,e3,e4,e5⟩:=CH.out wf Fb.out;clear hf))
     all_goals (
      go_wp2_with fail
      go_roundw
      case rel=>exact⟨i+1,za,by go_num,ap hb.out Fb.out,yi.out⟩
      case measure=>simp [intOf];omega)
    ·rw [zp g] at K0;have P9:=am K0;obtain rfl:y=p:=by
      rcases HE.out with ⟨a,_⟩ | ⟨_,a⟩
      ·exact absurd ⟨a _ za,a _ za⟩ g
      ·exact a
     clear K0 g;go_wp2_with fail
     go_region_held3 (fun v=>v.cell? ⟨w.heap.size,0,I⟩=Z (J O k)/\v.cell? ⟨w.heap.size,1,I⟩=Z (J O r)/\v.cell? ⟨w.heap.size,2,I⟩=Z (J O c)/\v.cell? ⟨w.heap.size,3,I⟩=Z (J O q)/\v.cell? ⟨b,off+i*2,I⟩=Z (Y (A (2*i)) (L (2*i)) (C (2*i)))/\v.cell? ⟨b,off+i*2+1,I⟩=Z (Y (A (2*i+1)) (L (2*i+1)) (C (2*i+1)))) (go_keep) ((go_at_call 205;refine(P9.out _).mono ?_;rintro e wf ⟨rfl,hf⟩;have Fb:=am (az hf);obtain⟨e0,e1,e2,e3,e4,e5⟩:=CH.out wf Fb.out;clear hf))
     all_goals (
      go_wp2_with fail
      go_ret;exact⟨rfl,ap (ap B0.out BR.out) Fb.out⟩)
   ·obtain rfl:i=rn:=za;obtain rfl:y=m:=by
     rcases HE.out with ⟨_,a⟩ | ⟨a,_⟩
     ·exact a
     ·exact absurd hall.out a
    go_wp2_with fail
    go_ret;exact⟨rfl,ap B0.out BR.out⟩
 ·have Ha:((rn:Int) != (N:Int))=m:=zj;obtain rfl:y=p:=by rw [<- hy];exact zp fun a=>hn a.1
  clear hr h hn;go_enter Tryz.func134,Tryz.ntmps134
  go_wp2_with fail
  rw [<- bi];clear bi;refine(HN.out _).mono ?_;rintro e wa ⟨rfl,ha⟩;go_wp2_with fail
  go_ret;exact⟨rfl,ap B0.out ha⟩
theorem wL(w1:d)(k r c q:Int)(g0 rb ro rn rc i:Nat)(s:Nat)(hs:s<2)(hi:(0:Int)<=(i:Int))(hi2:(i:Int)<(rn:Int))(a0:Option Addr)(n0 c0:Nat)(y:Sl)(b:Bool)(x0 x2 x3 x5 x6 x7 x8 ya qG qO xr qM qn qH qp qr qI qt qk qu ql o8 m8 lw l5 kO qP yj Fc EE EG B7 B8 zS zT zU zB B9 yS yG xU xI Hh Hi Hj Hk:Value)
  (HS:B (∀ v,b7 w1 v->(v.cell? ⟨g0,0,I⟩=Z (J O k)/\v.cell? ⟨g0,1,I⟩=Z (J O r)/\v.cell? ⟨g0,2,I⟩=Z (J O c)/\v.cell? ⟨g0,3,I⟩=Z (J O q)/\v.cell? ⟨rb,ro+i*2+s,I⟩=Z (Y a0 n0 c0))))
  (kp:B (∀ v,b7 w1 v->l P 135 #[Pz k r c q,Y a0 n0 c0,J O (i:Int)] v fun e w'=>∃ ao ca bo cb,e=S (f #[T #[J t ((y.kd.toNat:Nat):Int),J O y.ix,J O y.ce,J O y.st,Y ao y.vn ca,Y bo y.dn cb],R b])/\Got v.heap.size w' y ao ca bo cb/\b7 v w'))
  (Q:Exit->Act->d->Prop) (HQ:B (∀ v g ao ca bo cb,b7 w1 v->At w1 v g #[J t ((y.kd.toNat:Nat):Int),J O y.ix,J O y.ce,J O y.st,Y ao y.vn ca,Y bo y.dn cb] 107->Got w1.heap.size v y ao ca bo cb->Q .normal ⟨#[x0,Y (Z ⟨rb,ro,I⟩) rn rc,x2,x3,H (Z ⟨g0,0,I⟩),x5,x6,x7,x8,J O (i:Int),J O (s:Int),H (Z ⟨g,0,I⟩),R b,qO,xr,qM,qn,qH,qp,qr,qI,qt,qk,f #[T #[J t ((y.kd.toNat:Nat):Int),J O y.ix,J O y.ce,J O y.st,Y ao y.vn ca,Y bo y.dn cb],R b],Pz k r c q,Y (Z ⟨rb,ro,I⟩) rn rc,J O (i:Int),J O (s:Int),H (Z ⟨rb,ro+i*2,I⟩),H (Z ⟨rb,ro+i*2+s,I⟩),Y a0 n0 c0,J O (i:Int),f #[T #[J t ((y.kd.toNat:Nat):Int),J O y.ix,J O y.ce,J O y.st,Y ao y.vn ca,Y bo y.dn cb],R b],T #[J t ((y.kd.toNat:Nat):Int),J O y.ix,J O y.ce,J O y.st,Y ao y.vn ca,Y bo y.dn cb],R b,B7,B8,zS,zT,zU,zB,B9,yS,yG,xU,xI,Hh,Hi,Hj,Hk],[]⟩ v)) :
  Code.wp P (Code.region 7 #[⟨Z 24,.load 23 (D 4),23,"ref.go:50",#[],I⟩,⟨Z 25,.move (D 1),24,"ref.go:50",#[],I⟩,⟨Z 26,.move (D 9),3,"ref.go:50",#[],I⟩,⟨Z 27,.move (D 10),3,"ref.go:50",#[],I⟩,⟨Z 28,.indexAddr 24 (D 25) (D 26),0,"ref.go:50",#[⟨1,G⟩,⟨2,G⟩],I⟩,⟨Z 29,.indexAddr 97 (D 28) (D 27),0,"ref.go:50",#[⟨4,G⟩,⟨3,G⟩],I⟩,⟨Z 30,.load 36 (D 29),36,"ref.go:50",#[⟨5,G⟩],I⟩,⟨Z 31,.move (D 9),3,"ref.go:50",#[],I⟩,⟨Z 32,.call { callee:=.value (.func 135),args:=#[D 24,D 30,D 31],argTypes:=#[23,36,3]},170,"ref.go:50",#[⟨0,G⟩,⟨6,G⟩,⟨7,G⟩],I⟩,⟨Z 23,.move (D 32),170,"ref.go:50",#[⟨8,G⟩],I⟩,⟨Z 33,.extract (D 23) 0,107,"ref.go:50",#[⟨9,G⟩],I⟩,⟨Z 34,.extract (D 23) 1,4,"ref.go:50",#[⟨9,G⟩,⟨13,Ground.gcOnly Departure.lateStores⟩],I⟩,⟨Z 11,.alloc 107,0,"ref.go:50",#[],I⟩,⟨I,.store 107 (D 11) (D 33),0,"ref.go:50",#[⟨12,G⟩,⟨10,G⟩,⟨8,.chain⟩,⟨0,U⟩,⟨1,U⟩,⟨2,U⟩,⟨3,U⟩,⟨4,U⟩,⟨5,U⟩,⟨6,U⟩,⟨7,U⟩,⟨8,U⟩,⟨9,U⟩,⟨10,U⟩,⟨11,Ground.textOnly Departure.lateStores⟩,⟨12,U⟩],I⟩,⟨Z 12,.assign (D 34),4,"ref.go:50",#[⟨11,G⟩,⟨13,.chain⟩,⟨0,U⟩,⟨1,U⟩,⟨2,U⟩,⟨3,U⟩,⟨4,U⟩,⟨5,U⟩,⟨6,U⟩,⟨7,U⟩,⟨8,U⟩,⟨9,U⟩,⟨10,U⟩,⟨11,U⟩,⟨12,U⟩,⟨13,U⟩],I⟩] m) Q ⟨#[x0,Y (Z ⟨rb,ro,I⟩) rn rc,x2,x3,H (Z ⟨g0,0,I⟩),x5,x6,x7,x8,J O (i:Int),J O (s:Int),ya,qG,qO,xr,qM,qn,qH,qp,qr,qI,qt,qk,qu,ql,o8,m8,lw,l5,kO,qP,yj,Fc,EE,EG,B7,B8,zS,zT,zU,zB,B9,yS,yG,xU,xI,Hh,Hi,Hj,Hk],[]⟩ w1:=by
 obtain⟨s0,s1,s2,s3,s4⟩:=HS.out w1 (V _ _);have hs0:(0:Int)<=(s:Int):=za;have hs2:(s:Int)<2:=za
 have hd0:b7 w1 w1.drew:=bdw _ _;have zV:∀ o,b7 w1 (w1.alloc o).drew:=fun o=>eY (aa (V _ _) o);go_region_held3 (fun v=>v.cell? ⟨g0,0,I⟩=Z (J O k)/\v.cell? ⟨g0,1,I⟩=Z (J O r)/\v.cell? ⟨g0,2,I⟩=Z (J O c)/\v.cell? ⟨g0,3,I⟩=Z (J O q)/\v.cell? ⟨rb,ro+i*2+s,I⟩=Z (Y a0 n0 c0)) ((refine HS.out _ ?_;first | with_reducible exact hd0 | with_reducible exact zV _ | with_reducible exact j8 | with_reducible exact aa j8 _ | with_reducible exact aC j8 hgg _ _ _ _ _ _ | with_reducible exact aC (aa j8 _) j8.size _ _ _ _ _ _)) ((first
  | (go_at_call 135;refine(kp.out _ (zV _)).mono ?_;rintro e w' ⟨ao,ca,bo,cb,rfl,hv,g8⟩;have j8:=ap (zV _) g8;have jx:At w1 w' w1.heap.size #[J t 0,J O 0,J O 0,J O 0,Y I 0 0,Y I 0 0] 107:=(an (a:=w1) (V _ _) _ 107).drew.below g8;have hgg:=jx.1;have c0:=jx.cz 0;have c1:=jx.cz 1;have c2:=jx.cz 2;have c3:=jx.cz 3;have c4:=jx.cz 4;have c5:=jx.cz 5;have cf:=jx.free;clear g8)
  | (go_at_call 135;refine(kp.out _ hd0).mono ?_;rintro e w' ⟨ao,ca,bo,cb,rfl,hv,g8⟩;have j8:=ap hd0 g8;clear g8)))
 ·refine HQ.out _ _ ao ca bo cb ?_ ?_ ?_
  ·exact aa j8 _
  ·exact an j8 _ _
  ·exact hv.below (bal _ _)
 ·refine HQ.out _ _ ao ca bo cb ?_ ?_ ?_
  ·exact aC j8 hgg _ _ _ _ _ _
  ·exact ik jx _ _ _ _ _ _
  ·exact(Got.stay hv (eA w' w1.heap.size _ _ _ _ _ _) (by show w1.heap.size<(w1.alloc _).heap.size;simp)).mono (by show w1.heap.size<=(w1.alloc _).heap.size;simp)
theorem uj(w1:d)(k r c q:Int)(g0 rb ro rn rc i:Nat)(s:Nat)(hs:s<2)(hi:(0:Int)<=(i:Int))(hi2:(i:Int)<(rn:Int))(a0:Option Addr)(n0 c0:Nat)(y:Sl)(b:Bool)(x0 x2 x3 x5 x6 x7 x8 x9 kq ya qG qM qn qH qp qr qI qt qk qu ql o8 m8 lw l5 kO qP yj Fc EE EG B7 B8 zS zT zU zB B9 yS yG xU xI Hh Hi Hj Hk Og Oh Oi Oj Ol Om On Mq Oo Oq Ot Ou Ov Ow Ox Oy:Value)
  (HS:B (∀ v,b7 w1 v->(v.cell? ⟨g0,0,I⟩=Z (J O k)/\v.cell? ⟨g0,1,I⟩=Z (J O r)/\v.cell? ⟨g0,2,I⟩=Z (J O c)/\v.cell? ⟨g0,3,I⟩=Z (J O q)/\v.cell? ⟨rb,ro+i*2+s,I⟩=Z (Y a0 n0 c0))))
  (kp:B (∀ v,b7 w1 v->l P 135 #[Pz k r c q,Y a0 n0 c0,J O (i:Int)] v fun e w'=>∃ ao ca bo cb,e=S (f #[T #[J t ((y.kd.toNat:Nat):Int),J O y.ix,J O y.ce,J O y.st,Y ao y.vn ca,Y bo y.dn cb],R b])/\Got v.heap.size w' y ao ca bo cb/\b7 v w'))
  (Q:Exit->Act->d->Prop) (HQ:B (∀ v g ao ca bo cb,b7 w1 v->At w1 v g #[J t ((y.kd.toNat:Nat):Int),J O y.ix,J O y.ce,J O y.st,Y ao y.vn ca,Y bo y.dn cb] 107->Got w1.heap.size v y ao ca bo cb->Q .normal ⟨#[x0,Y (Z ⟨rb,ro,I⟩) rn rc,x2,x3,H (Z ⟨g0,0,I⟩),x5,x6,x7,x8,x9,kq,ya,qG,J O (i:Int),J O (s:Int),H (Z ⟨g,0,I⟩),R b,qH,qp,qr,qI,qt,qk,qu,ql,o8,m8,lw,l5,kO,qP,yj,Fc,EE,EG,B7,B8,zS,zT,zU,zB,B9,yS,yG,xU,f #[T #[J t ((y.kd.toNat:Nat):Int),J O y.ix,J O y.ce,J O y.st,Y ao y.vn ca,Y bo y.dn cb],R b],Pz k r c q,Y (Z ⟨rb,ro,I⟩) rn rc,J O (i:Int),J O (s:Int),H (Z ⟨rb,ro+i*2,I⟩),H (Z ⟨rb,ro+i*2+s,I⟩),Y a0 n0 c0,J O (i:Int),f #[T #[J t ((y.kd.toNat:Nat):Int),J O y.ix,J O y.ce,J O y.st,Y ao y.vn ca,Y bo y.dn cb],R b],T #[J t ((y.kd.toNat:Nat):Int),J O y.ix,J O y.ce,J O y.st,Y ao y.vn ca,Y bo y.dn cb],R b,Mq,Oo,Oq,Ot,Ou,Ov,Ow,Ox,Oy],[]⟩ v)) :
  Code.wp P (Code.region 9 #[⟨Z 46,.load 23 (D 4),23,"ref.go:67",#[],I⟩,⟨Z 47,.move (D 1),24,"ref.go:67",#[],I⟩,⟨Z 48,.move (D 13),3,"ref.go:67",#[],I⟩,⟨Z 49,.move (D 14),3,"ref.go:67",#[],I⟩,⟨Z 50,.indexAddr 24 (D 47) (D 48),0,"ref.go:67",#[⟨1,G⟩,⟨2,G⟩],I⟩,⟨Z 51,.indexAddr 97 (D 50) (D 49),0,"ref.go:67",#[⟨4,G⟩,⟨3,G⟩],I⟩,⟨Z 52,.load 36 (D 51),36,"ref.go:67",#[⟨5,G⟩],I⟩,⟨Z 53,.move (D 13),3,"ref.go:67",#[],I⟩,⟨Z 54,.call { callee:=.value (.func 135),args:=#[D 46,D 52,D 53],argTypes:=#[23,36,3]},170,"ref.go:67",#[⟨0,G⟩,⟨6,G⟩,⟨7,G⟩],I⟩,⟨Z 45,.move (D 54),170,"ref.go:67",#[⟨8,G⟩],I⟩,⟨Z 55,.extract (D 45) 0,107,"ref.go:67",#[⟨9,G⟩],I⟩,⟨Z 56,.extract (D 45) 1,4,"ref.go:67",#[⟨9,G⟩,⟨13,Ground.gcOnly Departure.lateStores⟩],I⟩,⟨Z 15,.alloc 107,0,"ref.go:67",#[],I⟩,⟨I,.store 107 (D 15) (D 55),0,"ref.go:67",#[⟨12,G⟩,⟨10,G⟩,⟨8,.chain⟩,⟨0,U⟩,⟨1,U⟩,⟨2,U⟩,⟨3,U⟩,⟨4,U⟩,⟨5,U⟩,⟨6,U⟩,⟨7,U⟩,⟨8,U⟩,⟨9,U⟩,⟨10,U⟩,⟨11,Ground.textOnly Departure.lateStores⟩,⟨12,U⟩],I⟩,⟨Z 16,.assign (D 56),4,"ref.go:67",#[⟨11,G⟩,⟨13,.chain⟩,⟨0,U⟩,⟨1,U⟩,⟨2,U⟩,⟨3,U⟩,⟨4,U⟩,⟨5,U⟩,⟨6,U⟩,⟨7,U⟩,⟨8,U⟩,⟨9,U⟩,⟨10,U⟩,⟨11,U⟩,⟨12,U⟩,⟨13,U⟩],I⟩] m) Q ⟨#[x0,Y (Z ⟨rb,ro,I⟩) rn rc,x2,x3,H (Z ⟨g0,0,I⟩),x5,x6,x7,x8,x9,kq,ya,qG,J O (i:Int),J O (s:Int),qM,qn,qH,qp,qr,qI,qt,qk,qu,ql,o8,m8,lw,l5,kO,qP,yj,Fc,EE,EG,B7,B8,zS,zT,zU,zB,B9,yS,yG,xU,xI,Hh,Hi,Hj,Hk,Og,Oh,Oi,Oj,Ol,Om,On,Mq,Oo,Oq,Ot,Ou,Ov,Ow,Ox,Oy],[]⟩ w1:=by
 obtain⟨s0,s1,s2,s3,s4⟩:=HS.out w1 (V _ _);have hs0:(0:Int)<=(s:Int):=za;have hs2:(s:Int)<2:=za
 have hd0:b7 w1 w1.drew:=bdw _ _;have zV:∀ o,b7 w1 (w1.alloc o).drew:=fun o=>eY (aa (V _ _) o);go_region_held3 (fun v=>v.cell? ⟨g0,0,I⟩=Z (J O k)/\v.cell? ⟨g0,1,I⟩=Z (J O r)/\v.cell? ⟨g0,2,I⟩=Z (J O c)/\v.cell? ⟨g0,3,I⟩=Z (J O q)/\v.cell? ⟨rb,ro+i*2+s,I⟩=Z (Y a0 n0 c0)) ((refine HS.out _ ?_;first | with_reducible exact hd0 | with_reducible exact zV _ | with_reducible exact j8 | with_reducible exact aa j8 _ | with_reducible exact aC j8 hgg _ _ _ _ _ _ | with_reducible exact aC (aa j8 _) j8.size _ _ _ _ _ _)) ((first
  | (go_at_call 135;refine(kp.out _ (zV _)).mono ?_;rintro e w' ⟨ao,ca,bo,cb,rfl,hv,g8⟩;have j8:=ap (zV _) g8;have jx:At w1 w' w1.heap.size #[J t 0,J O 0,J O 0,J O 0,Y I 0 0,Y I 0 0] 107:=(an (a:=w1) (V _ _) _ 107).drew.below g8;have hgg:=jx.1;have c0:=jx.cz 0;have c1:=jx.cz 1;have c2:=jx.cz 2;have c3:=jx.cz 3;have c4:=jx.cz 4;have c5:=jx.cz 5;have cf:=jx.free;clear g8)
  | (go_at_call 135;refine(kp.out _ hd0).mono ?_;rintro e w' ⟨ao,ca,bo,cb,rfl,hv,g8⟩;have j8:=ap hd0 g8;clear g8)))
 ·refine HQ.out _ _ ao ca bo cb ?_ ?_ ?_
  ·exact aa j8 _
  ·exact an j8 _ _
  ·exact hv.below (bal _ _)
 ·refine HQ.out _ _ ao ca bo cb ?_ ?_ ?_
  ·exact aC j8 hgg _ _ _ _ _ _
  ·exact ik jx _ _ _ _ _ _
  ·exact(Got.stay hv (eA w' w1.heap.size _ _ _ _ _ _) (by show w1.heap.size<(w1.alloc _).heap.size;simp)).mono (by show w1.heap.size<=(w1.alloc _).heap.size;simp)
end Go.Proofs.YtemlojjkokooeaaGreat
