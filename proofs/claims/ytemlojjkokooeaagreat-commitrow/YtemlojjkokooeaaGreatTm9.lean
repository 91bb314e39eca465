import Derived.Test.YtemlojjkokooeaaGreatTm8
open Go.Value renaming slice->J,int->O,agg->z
open Option renaming some->I,none->Q
open Go.IntKind renaming i64->Y,u8->T
open Go.RowKit renaming Hid->U,Below->V
open Go.Proofs.Tryz renaming prog->D
open Go.Ending renaming returned->L
open Nat renaming le_succ->H,le_refl->u
open Go.Obj renaming cells->S
open Go renaming World->C,Calls->A,Addr->p
set_option maxHeartbeats 16000000
set_option maxRecDepth 100000
namespace Go.Proofs.YtemlojjkokooeaaGreat
open Go.RowKit
theorem az{w v:C}(h:V w.drew.heap.size w.drew v):b7 w v:=ap (bdw _ _) h
def erS (x:Int) (N:Nat) (c:Int) (s:Sl):Int:=if x=0 then (if okS N c s=true then 0 else 100) else x
def AnsB (w:C) (E:Int) (n:Nat) (F:Nat->UInt8) (e:Ending) (w':C):Prop :=
  ∃ ao b8,e=.returned (.tuple #[.slice ao (aK E n) b8,.int .i64 E])/\OwU w.heap.size w' ao (aK E n) b8 F/\b7 w w'
theorem nU(n:Nat):madeCells #[O T 0] n=(byF n (fun _=>0)).toArray:=by
 apply Array.ext'
 unfold byF madeCells;apply List.ext_getElem?
 intro i;by_cases h:i<n
 ·simp [h,Nat.mod_one]
 ·simp [h]
theorem Vec.blk{w:C}{ao:Option p}{n b8:Nat}{R:Nat->Int}(h:Vec w ao n b8 R)(hn:0<n){a:p}(ha:ao=I a):a.block<w.heap.size:=by
 obtain⟨b,off,e,hc⟩:=h.rd hn;subst ha;cases e;exact World.block_lt_of_cell? w _ (hc 0 hn)
theorem Bec.blk{w:C}{ao:Option p}{n b8:Nat}{F:Nat->UInt8}(h:Bec w ao n b8 F)(hn:0<n){a:p}(ha:ao=I a):a.block<w.heap.size:=by
 obtain⟨b,off,e,hc⟩:=h.rd hn;subst ha;cases e;exact World.block_lt_of_cell? w _ (hc 0 hn)
theorem Bytes_any{k r c q:Int}{N W:Nat}{x:Int}(h:Par k r c q N W x)(w:C)(s:Sl)(ao:Option p)(ca:Nat)(bo:Option p)(cb:Nat)(hs:Has w s ao ca bo cb)(E:Int)(hE:erS x N c s=E):
  A D 159 #[Pz k r c q,slv s ao ca bo cb] w (AnsB w E (sz N c) (enc s)):=by
 have HZ:=fun w=>iU h w;have hx:=h.err;have hN:=h.few;obtain⟨w0,bi⟩:=jM w k r c q
 obtain⟨w1,ci⟩:=fd (w0.alloc (S #[O T ((s.kd.toNat:Nat):Int),O Y s.ix,O Y s.ce,O Y s.st,J ao s.vn ca,J bo s.dn cb] 107))
 have b0:=jt bi
 have b1:=jt ci
 have z0:=ks bi
 have C0:U (Cel w1 w.heap.size [O Y k,O Y r,O Y c,O Y q]):=(cF bi).below b1;have C1:U (Cel w1 (w.heap.size+1) [O T ((s.kd.toNat:Nat):Int),O Y s.ix,O Y s.ce,O Y s.st,J ao s.vn ca,J bo s.dn cb]):=by show Cel _ _ _;rw [<- z0];exact cF ci
 have jZ:=am (ap b0 b1);have HH:=am hs;unfold AnsB;rcases hx with rfl | rfl
 ·have HM:=fun w hs y hy=>eN h w s ao ca bo cb hs y hy;have KG:=h.some rfl;have hc:=h.cell rfl;have Ph:szE 0 N c=sz N c:=by unfold szE;rw [zk rfl]
  rw [Ph] at HZ;obtain⟨n,hn⟩:=fd (sz N c)
  have A5:n=12+4*N+c.toNat:=hn;have G4:n<=1000:=za;by_cases hok:okS N c s=true
  ·obtain rfl:E=0:=by rw [<- hE];unfold erS;rw [zk rfl,zk hok]
   have KH:=fun w hs=>HM w hs true hok;have HW:U (∀ v g G,Bk v g n G->Has v s ao ca bo cb->(∀ a,ao=I a->¬ a.block=g)->(∀ a,bo=I a->¬ a.block=g)->A D 231 #[z (prt g 0 (4*N) c.toNat),slv s ao ca bo cb] v fun e w'=>e=L (.tuple #[])/\Bk w' g n (enc s)/\Only (fun b=>b=g) v w'):=fun v g G hg hv ha hb=>by
    have:=tC v g s ao ca bo cb G KG hN hc.1 hc.2 (by rw [<- hn];exact hg) hv hok ha hb
    rwa [<- hn] at this
   have Jt:=fun v g=>sY v k r c q g 0 n n N A5 (u _) KG hN hc.1 hc.2;obtain⟨⟨k1,k2⟩,k3,k4,k5,k6,k7,k8⟩:=dY hok;have Vk:=am fun a (ha:ao=I a)=>hs.vec.blk za ha;have io:=am fun a (ha:bo=I a)=>hs.bec.blk za ha;have Fo:=run_make_row' (P:=D) 36 5 (O T 0) 1 Tryz.underlying36 bU rfl Y Y n za za;rw [nU] at Fo;obtain⟨Z,hZ⟩:=fd ((byF n (fun _=>0)).toArray)
   have hmk:∀ w,(Instr.makeSlice 36 (O Y (n:Int)) (O Y (n:Int))).run D w=.ok (J (I ⟨w.heap.size,0,Q⟩) n n) (w.alloc (S Z 5)):=fun w=>by rw [hZ];exact Fo w
   have RP:U (∀ v:C,Bk (v.alloc (S Z 5)) v.heap.size n (fun _=>0)):=fun v=>by unfold Bk;rw [hZ];exact heap_alloc_new v _
   rw [show aK 0 (sz N c)=n from hn.symm];rw [<- hn] at HZ;unfold slv at KH HW ⊢;have Vl:=HW;clear HM hE hn A5 hok k1 k2 k3 k4 k5 k6 k7 k8 hs Ph hZ Fo hc HW h;go_enter Tryz.func159,Tryz.ntmps159
   go_wp2_with fail
   rw [<- bi,<- ci];refine(HZ _).mono ?_;rintro e wa ⟨rfl,ha⟩;have ba:=ap jZ.out ha;have pa:=C0.out.below ha;have sa:=C1.out.below ha;have p0:=pa 0 _ rfl;have p1:=pa 1 _ rfl;have p2:=pa 2 _ rfl;have p3:=pa 3 _ rfl;have s0:=sa 0 _ rfl;have s1:=sa 1 _ rfl;have s2:=sa 2 _ rfl;have s3:=sa 3 _ rfl;have s4:=sa 4 _ rfl;have s5:=sa 5 _ rfl;clear bi ci b0 b1 z0 HZ;go_wp2_with fail
   refine(KH _ (HH.out.below ba)).mono ?_;rintro e wb ⟨rfl,hb⟩;have bb:=ap ba hb;have Vm:=am (pa.below hb);have yh:=am (sa.below hb);have Ju:=am bb;have Pi:=am (ap ha hb);obtain⟨wz,zF⟩:=fd (wb.alloc (S Z 5))
   have Ga:(Instr.makeSlice 36 (O Y (n:Int)) (O Y (n:Int))).run D wb=.ok (J (I ⟨wb.heap.size,0,Q⟩) n n) wz:=by rw [zF];exact hmk wb
   have Pj:U (Bk wz wb.heap.size n (fun _=>0)):=by show Bk _ _ _ _;rw [zF];exact RP.out wb
   have zr:U (b7 wb wz):=by show V _ _ _;rw [zF];exact bal _ _
   have Yi:w.heap.size+2<=wb.heap.size:=by
    have h1:=Pi.out.size;have h2:=World.block_lt_of_cell? wb _ (yh.out 0 _ rfl);simp only at h2;omega
   clear p0 p1 p2 p3 s0 s1 s2 s3 s4 s5 pa sa hb ba bb ha hmk RP KH zF;go_wp2_with fail
   have pz:=Vm.out.below zr.out;have IO:=yh.out.below zr.out;have p0:=pz 0 _ rfl;have p1:=pz 1 _ rfl;have p2:=pz 2 _ rfl;have p3:=pz 3 _ rfl;have s0:=IO 0 _ rfl;have s1:=IO 1 _ rfl;have s2:=IO 2 _ rfl;have s3:=IO 3 _ rfl;have s4:=IO 4 _ rfl;have s5:=IO 5 _ rfl;have Vn:=am pz;have G5:=am IO;have KS:U (∀ v,Only (fun b=>b=wb.heap.size) wz v->(v.cell? ⟨w.heap.size,0,Q⟩=I (O Y k)/\v.cell? ⟨w.heap.size,1,Q⟩=I (O Y r)/\v.cell? ⟨w.heap.size,2,Q⟩=I (O Y c)/\v.cell? ⟨w.heap.size,3,Q⟩=I (O Y q)/\v.cell? ⟨w.heap.size+1,0,Q⟩=I (O T ((s.kd.toNat:Nat):Int))/\v.cell? ⟨w.heap.size+1,1,Q⟩=I (O Y s.ix)/\v.cell? ⟨w.heap.size+1,2,Q⟩=I (O Y s.ce)/\v.cell? ⟨w.heap.size+1,3,Q⟩=I (O Y s.st)/\v.cell? ⟨w.heap.size+1,4,Q⟩=I (J ao s.vn ca)/\v.cell? ⟨w.heap.size+1,5,Q⟩=I (J bo s.dn cb))):=fun v hv=>by
    have cp:=Vn.out.only hv za;have cs:=G5.out.only hv za;exact⟨cp 0 _ rfl,cp 1 _ rfl,cp 2 _ rfl,cp 3 _ rfl,cs 0 _ rfl,cs 1 _ rfl,cs 2 _ rfl,cs 3 _ rfl,cs 4 _ rfl,cs 5 _ rfl⟩
   clear pz IO Ga;have Vo:=am (HH.out.below (ap Ju.out zr.out));have Pk:U (∀ a,ao=I a->¬ a.block=wb.heap.size):=fun a ha=>by have:=Vk.out a ha;omega
   have LM:U (∀ a,bo=I a->¬ a.block=wb.heap.size):=fun a ha=>by have:=io.out a ha;omega
   go_region_held3 (fun v=>v.cell? ⟨w.heap.size,0,Q⟩=I (O Y k)/\v.cell? ⟨w.heap.size,1,Q⟩=I (O Y r)/\v.cell? ⟨w.heap.size,2,Q⟩=I (O Y c)/\v.cell? ⟨w.heap.size,3,Q⟩=I (O Y q)/\v.cell? ⟨w.heap.size+1,0,Q⟩=I (O T ((s.kd.toNat:Nat):Int))/\v.cell? ⟨w.heap.size+1,1,Q⟩=I (O Y s.ix)/\v.cell? ⟨w.heap.size+1,2,Q⟩=I (O Y s.ce)/\v.cell? ⟨w.heap.size+1,3,Q⟩=I (O Y s.st)/\v.cell? ⟨w.heap.size+1,4,Q⟩=I (J ao s.vn ca)/\v.cell? ⟨w.heap.size+1,5,Q⟩=I (J bo s.dn cb)) (go_keep)
    ((first | (go_at_call 202;refine(Jt _ _).mono ?_;rintro e wc ⟨rfl,hc⟩;have HC:=am (az hc);clear hc;obtain⟨q0,q1,q2,q3,q4,q5,q6,q7,q8,q9⟩:=KS.out _ (.of_below HC.out)) | (go_at_call 231;refine(Vl.out _ _ _ (Pj.out.below HC.out) (Vo.out.below HC.out) Pk.out LM.out).mono ?_;rintro e wd ⟨rfl,gd,od⟩;have HD:U (Only (fun b=>b=wb.heap.size) wz wd):=(Only.of_below HC.out).trans od;have GD:=am gd;clear gd od;obtain⟨t0,t1,t2,t3,t4,t5,t6,t7,t8,t9⟩:=KS.out _ HD.out)))
   all_goals (
    go_wp2_with fail
    go_ret2;refine⟨_,_,rfl,GD.out.own za G4,?_⟩;have o1:=HD.out.below (B:=w.heap.size) (fun i hi=>by omega) (Nat.le_trans Ju.out.size zr.out.size);exact(ap Ju.out zr.out).trans o1)
  ·obtain rfl:E=100:=by rw [<- hE];unfold erS;rw [zk rfl,zl hok]
   have hok2:okS N c s=false:=by cases h:okS N c s;rfl;exact absurd h hok
   have KH:=fun w hs=>HM w hs false hok2;rw [show aK 100 (sz N c)=0 from rfl];rw [<- hn] at HZ;unfold slv at KH ⊢;clear HM hE hn A5 hok hok2 hs Ph h;go_enter Tryz.func159,Tryz.ntmps159
   go_wp2_with fail
   rw [<- bi,<- ci];refine(HZ _).mono ?_;rintro e wa ⟨rfl,ha⟩;have ba:=ap jZ.out ha;have pa:=C0.out.below ha;have sa:=C1.out.below ha;have p0:=pa 0 _ rfl;have p1:=pa 1 _ rfl;have p2:=pa 2 _ rfl;have p3:=pa 3 _ rfl;have s0:=sa 0 _ rfl;have s1:=sa 1 _ rfl;have s2:=sa 2 _ rfl;have s3:=sa 3 _ rfl;have s4:=sa 4 _ rfl;have s5:=sa 5 _ rfl;clear bi ci b0 b1 z0 HZ pa sa;go_wp2_with fail
   refine(KH _ (HH.out.below ba)).mono ?_;rintro e wb ⟨rfl,hb⟩;go_wp2_with fail
   go_ret2;exact⟨_,_,rfl,cE _ _ _,ap ba hb⟩
 ·obtain rfl:E=2:=by rw [<- hE];unfold erS;rw [zl zb]
  rw [show aK 2 (sz N c)=0 from rfl];unfold slv;clear hE hs h;go_enter Tryz.func159,Tryz.ntmps159
  go_wp2_with fail
  rw [<- bi,<- ci];refine(HZ _).mono ?_;rintro e wa ⟨rfl,ha⟩;have ba:=ap jZ.out ha;clear bi ci b0 b1 z0 HZ;go_wp2_with fail
  go_ret2;exact⟨_,_,rfl,cE _ _ _,ba⟩
theorem fJ(F:Nat->UInt8)(o:Nat):∀ k,nm (fun j=>F (o+j)) 0 k=nm F o k:=fun k=>fK fun i _=>by rw [Nat.zero_add]
theorem At.below{a v v':C}{g:Nat}{cs:Array Value}{t:TypeId}(h:At a v g cs t)(hb:b7 v v'):At a v' g cs t :=
 ⟨h.1,(hb.block g (Array.getElem?_eq_some_iff.1 h.2).1).trans h.2⟩
theorem At.only{X:Nat->Prop}{a v v':C}{g:Nat}{cs:Array Value}{t:TypeId}(h:At a v g cs t)(hb:Only X v v')(hx:¬ X g):At a v' g cs t :=
 ⟨h.1,(hb.block g (Array.getElem?_eq_some_iff.1 h.2).1 hx).trans h.2⟩
def vf (F:Nat->UInt8) (i:Nat):Nat->Int:=fun j=>if j<i then ((nm F (12+4*j) 4:Nat):Int) else 0
theorem BL(F:Nat->UInt8)(i:Nat):put i ((nm F (12+4*i) 4:Nat):Int) (vf F i)=vf F (i+1):=by
 funext j
 unfold put vf;by_cases e:j=i
 ·subst e;rw [zk rfl,zk za]
 ·rw [zl e];by_cases h:j<i
  ·rw [zk h,zk za]
  ·rw [zl h,zl za]
theorem en{a v:C}{B g N:Nat}(h:At a v g (madeCells #[O Y 0] N) 3)(hB:B<=g)(hN:N<=1000)(F:Nat->UInt8):Own B v (I ⟨g,0,Q⟩) N N (vf F 0):=by
 refine sM (f:=fun _=>O Y 0) ⟨_,h.2,by simp [madeCells],fun i hi=>?_⟩ hB hN (fun i hi=>?_)
 ·simp [madeCells,hi,Nat.mod_one]
 ·unfold vf;rw [zl za]
theorem gU{N:Nat}{c:Int}(w:C)(g o n:Nat)(F:Nat->UInt8)(hN:1<=N)(Ky:N<=16)(hc:8<=c)(xX:c<=64)(hn:n=sz N c)(hr:∀ j,j<n->w.cell? ⟨g,o+j,Q⟩=I (O T (((F j).toNat:Nat):Int))):
  A D 203 #[z (prt g o (4*N) c.toNat)] w fun e w'=>∃ ao ca bo cb,e=L (slv (dec N c F) ao ca bo cb)/\Got w.heap.size w' (dec N c F) ao ca bo cb/\b7 w w':=by
 obtain⟨d,hd⟩:=fd (c.toNat)
 have Pd:8<=d:=za;have G1:d<=64:=za;have Iz:n=12+4*N+d:=by rw [hd];exact hn
 have HR:=am hr;have G7:U (∀ ao ca bo cb,slv (dec N c F) ao ca bo cb=z #[O T (((F 2).toNat:Nat):Int),O Y ((nm F 3 1:Nat):Int),O Y ((nm F 4 4:Nat):Int),O Y ((nm F 8 4:Nat):Int),J ao N ca,J bo d cb]):=fun _ _ _ _=>by rw [hd];rfl
 have LC:U (∀ v ao ca bo cb,Own w.heap.size v ao N ca (vf F N)->OwU w.heap.size v bo d cb (fun j=>F (12+4*N+j))->Got w.heap.size v (dec N c F) ao ca bo cb):=fun v ao ca bo cb h1 h2 =>
  ⟨h1.congr fun i hi=>by unfold vf;rw [zk hi];rfl,by rw [hd] at h2;exact h2⟩
 obtain⟨m,hm⟩:=fd (4*N)
 rw [<- hd,<- hm];clear hr hn hd hc xX;obtain⟨w0,bi⟩:=fd (w.alloc (S (prt g o m d) 247))
 obtain⟨w1,ci⟩:=fd (w0.alloc (S #[O T 0,O Y 0,O Y 0,O Y 0,J Q 0 0,J Q 0 0] 107))
 have b0:=jt bi
 have b1:=jt ci
 have z0:=ks bi
 have z1:w1.heap.size=w.heap.size+2:=by rw [ci];simp [z0]
 have jZ:=am (ap b0 b1);have C0:U (Cel w1 w.heap.size (prt g o m d).toList):=(cF bi).below b1;have C1:U (Cel w1 (w.heap.size+1) [O T 0,O Y 0,O Y 0,O Y 0,J Q 0 0,J Q 0 0]):=by show Cel _ _ _;rw [<- z0];exact cF ci
 have F1:U (∀ v,b7 w1 v->∀ i,v.frozen? ⟨w.heap.size+1,i,Q⟩=false):=fun v hv i=>by rw [<- z0];exact aI ci hv i
 have KI:=am fun j (hj:j<n)=>held (HR.out j hj) jZ.out;unfold prt at C0 bi ⊢;have y1:=C0.out 1 _ rfl;have y2:=C0.out 2 _ rfl;have y3:=C0.out 3 _ rfl;have y4:=C0.out 4 _ rfl;have y5:=C0.out 5 _ rfl;have y6:=C0.out 6 _ rfl;have yk:=KI.out 2 za;obtain⟨kn,xF⟩:∃ kn:Nat,(F 2).toNat=kn:=⟨_,rfl⟩
 rw [xF] at yk;obtain⟨x1,nl⟩:=fd (nm F 3 1)
 obtain⟨x2,xw⟩:=fd (nm F 4 4)
 obtain⟨x3,Jv⟩:=fd (nm F 8 4)
 have KS:U (∀ v,b7 w1 v->(v.cell? ⟨w.heap.size,1,Q⟩=I (J (I ⟨g,o+2,Q⟩) 1 1)/\v.cell? ⟨w.heap.size,2,Q⟩=I (J (I ⟨g,o+3,Q⟩) 1 1)/\v.cell? ⟨w.heap.size,3,Q⟩=I (J (I ⟨g,o+4,Q⟩) 4 4)/\v.cell? ⟨w.heap.size,4,Q⟩=I (J (I ⟨g,o+8,Q⟩) 4 4)/\v.cell? ⟨w.heap.size,5,Q⟩=I (J (I ⟨g,o+12,Q⟩) m m)/\v.cell? ⟨w.heap.size,6,Q⟩=I (J (I ⟨g,o+12+m,Q⟩) d d)/\v.cell? ⟨g,o+2,Q⟩=I (O T (kn:Int)))):=fun v hv=>⟨held y1 hv,held y2 hv,held y3 hv,held y4 hv,held y5 hv,held y6 hv,held yk hv⟩
 have P1:U (∀ v,b7 w1 v->A D 277 #[J (I ⟨g,o+3,Q⟩) 1 1] v fun e w'=>e=L (O Y (x1:Int))/\w'=v):=fun v hv=>by
  rw [nl,<- fJ];exact bI v g (o+3) 1 1 (fun j=>F (3+j)) (fun j hj=>by rw [Nat.add_assoc];exact held (KI.out (3+j) za) hv) za
 have P2:U (∀ v,b7 w1 v->A D 277 #[J (I ⟨g,o+4,Q⟩) 4 4] v fun e w'=>e=L (O Y (x2:Int))/\w'=v):=fun v hv=>by
  rw [xw,<- fJ];exact bI v g (o+4) 4 4 (fun j=>F (4+j)) (fun j hj=>by rw [Nat.add_assoc];exact held (KI.out (4+j) za) hv) za
 have P3:U (∀ v,b7 w1 v->A D 277 #[J (I ⟨g,o+8,Q⟩) 4 4] v fun e w'=>e=L (O Y (x3:Int))/\w'=v):=fun v hv=>by
  rw [Jv,<- fJ];exact bI v g (o+8) 4 4 (fun j=>F (8+j)) (fun j hj=>by rw [Nat.add_assoc];exact held (KI.out (8+j) za) hv) za
 have PV:U (∀ v i,i<N->b7 w1 v->A D 277 #[J (I ⟨g,o+12+4*i,Q⟩) 4 4] v fun e w'=>e=L (O Y ((nm F (12+4*i) 4:Nat):Int))/\w'=v):=fun v i hi hv=>by
  rw [<- fJ F (12+4*i)];exact bI v g (o+12+4*i) 4 4 (fun j=>F (12+4*i+j)) (fun j hj=>by rw [show o+12+4*i+j=o+(12+4*i+j) by omega];exact held (KI.out (12+4*i+j) za) hv) za
 have VE:U (∀ v i,i<N->A D 278 #[z #[J (I ⟨g,o,Q⟩) 2 2,J (I ⟨g,o+2,Q⟩) 1 1,J (I ⟨g,o+3,Q⟩) 1 1,J (I ⟨g,o+4,Q⟩) 4 4,J (I ⟨g,o+8,Q⟩) 4 4,J (I ⟨g,o+12,Q⟩) m m,J (I ⟨g,o+12+m,Q⟩) d d],O Y (i:Int)] v fun e w'=>e=L (J (I ⟨g,o+12+4*i,Q⟩) 4 4)/\b7 v w'):=fun v i hi=>by
  have:=gH v g o N d i hi Ky;rw [<- hm] at this;exact this
 have KF:(m:Int) / 4=(N:Int):=za;have zE:=am hm;have Pg:IntKind.i64.wrap (N:Int)=(N:Int):=by rw [IntKind.wrap_i64];omega
 have Gq:=run_make_row' (P:=D) 27 3 (O Y 0) 8 Tryz.underlying27 gy rfl Y Y N za za;have Fo:=run_make_row' (P:=D) 36 5 (O T 0) 1 Tryz.underlying36 bU rfl Y Y d za za;rw [nU] at Fo;have HX:U ((F 2).toNat=kn/\x1=nm F 3 1/\x2=nm F 4 4/\x3=nm F 8 4):=⟨xF,nl,xw,Jv⟩
 have Pm:=am Gq;have Pn:=am Fo;have RQ:U (IntKind.i64.wrap (N:Int)=(N:Int)/\(m:Int) / 4=(N:Int)):=⟨Pg,KF⟩
 have xK:=am z1;clear nl xw Jv xF hm z1 Gq Fo KF Pg y1 y2 y3 y4 y5 y6 yk;go_enter Tryz.func203,Tryz.ntmps203
 go_wp2_with fail
 rw [<- bi,<- ci];clear bi ci b0 b1 z0;refine wp_region_noPanic (nM w1 w.heap.size g o m d N kn x1 x2 x3 _ _ _ _ KS.out P1.out P2.out P3.out Pm.out Pn.out RQ.out.1 RQ.out.2 _ (fun _ _ _ h=>h) (fun g1 g2 g3 v hb f1 f2 f3=>NoPanic.normal ?_));have Hs:=f1.ne f3 zb;have IA:=f2.ne f3 zb;have RS:=f1.ne f2 zb;have kR:U (Own w1.heap.size v (I ⟨g1,0,Q⟩) N N (vf F 0)):=en f1 f1.1 za F;have qE:=am (f2.2);have Vp:=am f3;have Jw:=am hb;have xZ:U (w1.heap.size<=g1/\w1.heap.size<=g2/\w1.heap.size<=g3):=⟨f1.1,f2.1,f3.1⟩
 have t4:=f3.cz 4;clear f1 f2 f3 hb;go_wp2_with fail
 go_loopw [31] (fun x wr=>∃ i:Nat,i<=N/\x=O Y (i:Int)/\U (Own w1.heap.size wr (I ⟨g1,0,Q⟩) N N (vf F i))/\U (Bk wr g2 d (fun _=>0))/\U (At w1 wr g3 #[O T (kn:Int),O Y (x1:Int),O Y (x2:Int),O Y (x3:Int),J (I ⟨g1,0,Q⟩) N N,J (I ⟨g2,0,Q⟩) d d] 107)/\U (b7 w1 wr)) (fun x _=>N-(intOf x).toNat)
 case atStart=>exact⟨0,Nat.zero_le _,rfl,kR,qE,Vp,Jw⟩
 case round =>
  obtain⟨i,hi,rfl,hO,hK,hA,hW⟩:=hrel;by_cases hlt:i<N
  ·have cc:=C0.out.below hW.out;have y0:=cc 0 _ rfl;have y1:=cc 1 _ rfl;have y2:=cc 2 _ rfl;have y3:=cc 3 _ rfl;have y4:=cc 4 _ rfl;have y5:=cc 5 _ rfl;have y6:=cc 6 _ rfl;have u4:=hA.out.cz 4;have Po:U (∀ v,b7 w1 v->At w1 v g3 #[O T (kn:Int),O Y (x1:Int),O Y (x2:Int),O Y (x3:Int),J (I ⟨g1,0,Q⟩) N N,J (I ⟨g2,0,Q⟩) d d] 107->(v.cell? ⟨w.heap.size,0,Q⟩=I (J (I ⟨g,o,Q⟩) 2 2)/\v.cell? ⟨w.heap.size,1,Q⟩=I (J (I ⟨g,o+2,Q⟩) 1 1)/\v.cell? ⟨w.heap.size,2,Q⟩=I (J (I ⟨g,o+3,Q⟩) 1 1)/\v.cell? ⟨w.heap.size,3,Q⟩=I (J (I ⟨g,o+4,Q⟩) 4 4)/\v.cell? ⟨w.heap.size,4,Q⟩=I (J (I ⟨g,o+8,Q⟩) 4 4)/\v.cell? ⟨w.heap.size,5,Q⟩=I (J (I ⟨g,o+12,Q⟩) m m)/\v.cell? ⟨w.heap.size,6,Q⟩=I (J (I ⟨g,o+12+m,Q⟩) d d)/\v.cell? ⟨g3,4,Q⟩=I (J (I ⟨g1,0,Q⟩) N N))):=fun v hv ha=>by
    have cc:=C0.out.below hv;exact⟨cc 0 _ rfl,cc 1 _ rfl,cc 2 _ rfl,cc 3 _ rfl,cc 4 _ rfl,cc 5 _ rfl,cc 6 _ rfl,ha.cz 4⟩
   have i1:(0:Int)<=(i:Int):=za;have i2:(i:Int)<(N:Int):=za;obtain⟨xi,Jx⟩:∃ xi:Int,xi=((nm F (12+4*i) 4:Nat):Int):=⟨_,rfl⟩
   have Vq:U (∀ v,b7 w1 v->A D 277 #[J (I ⟨g,o+12+4*i,Q⟩) 4 4] v fun e w'=>e=L (O Y xi)/\w'=v):=fun v hv=>by rw [Jx];exact PV.out v i hlt hv
   have RT:=am Jx;clear cc Jx;go_wp2_with fail
   go_region_held3 (fun v=>v.cell? ⟨w.heap.size,0,Q⟩=I (J (I ⟨g,o,Q⟩) 2 2)/\v.cell? ⟨w.heap.size,1,Q⟩=I (J (I ⟨g,o+2,Q⟩) 1 1)/\v.cell? ⟨w.heap.size,2,Q⟩=I (J (I ⟨g,o+3,Q⟩) 1 1)/\v.cell? ⟨w.heap.size,3,Q⟩=I (J (I ⟨g,o+4,Q⟩) 4 4)/\v.cell? ⟨w.heap.size,4,Q⟩=I (J (I ⟨g,o+8,Q⟩) 4 4)/\v.cell? ⟨w.heap.size,5,Q⟩=I (J (I ⟨g,o+12,Q⟩) m m)/\v.cell? ⟨w.heap.size,6,Q⟩=I (J (I ⟨g,o+12+m,Q⟩) d d)/\v.cell? ⟨g3,4,Q⟩=I (J (I ⟨g1,0,Q⟩) N N)) ((first | (exact Po.out _ (hW.out.trans (bdw _ _)) hA.out.drew) | (exact Po.out _ NV.out Jy.out) | (exact Po.out _ (bg NV.out xZ.out.1 _) (Jy.out.far Hs.symm _ _))))
    ((first | (go_at_call 278;refine(VE.out _ i hlt).mono ?_;rintro e wf ⟨rfl,RU⟩;have hf:=am (az RU);clear RU;have NV:=am (ap hW.out hf.out);have Jy:=am (hA.out.below hf.out);have A6:=am (hO.out.below hf.out);have Vr:=am (hK.out.below hf.out);have ck:=A6.out.cell hlt;have fk:=A6.out.free i) | (go_at_call 277;refine(Vq.out _ NV.out).mono ?_;rintro e wg ⟨rfl,rfl⟩)))
   all_goals (
    go_wp2_with fail
    go_roundw
    case rel=>exact⟨i+1,za,by go_num,(by have:=A6.out.set i xi;rw [RT.out,BL] at this;rw [RT.out];exact this),(by show Bk _ _ _ _;exact(Below.heap_setCell _ _ _ _ RS.symm).trans Vr.out),Jy.out.far Hs.symm _ _,bg NV.out xZ.out.1 _⟩
    case measure=>simp [intOf];omega)
  ·obtain rfl:i=N:=za;have cc:=C0.out.below hW.out;have y6:=cc 6 _ rfl;have RV:Bec wr (I ⟨g,o+12+m,Q⟩) d d (fun j=>F (12+4*i+j)):=⟨fun _=>⟨g,o+12+m,rfl,fun j hj=>by
    rw [show o+12+m+j=o+(12+4*i+j) by rw [zE.out];omega];exact held (KI.out (12+4*i+j) za) hW.out⟩,(fun h=>by cases h),u _⟩
   obtain⟨wh,l9,gh,oh⟩:=dk (off:=0) (dC:=d) (show 0<d by omega) hK.out RV za;have u5:=hA.out.cz 5;have KJ:=am (hA.out.only oh IA.symm);have IP:U (b7 w1 wh):=hW.out.trans (oh.below (fun j hj=>by rw [hj];exact xZ.out.2.1) hW.out.size);have Vs:U (Own w1.heap.size wh (I ⟨g1,0,Q⟩) i i (vf F i)):=by
    refine⟨hO.out.1,?_⟩;rcases hO.out.2 with h1 | ⟨g',jy,jw,h1,h2,h3,h4⟩
    ·exact .inl h1
    ·cases h1
     exact .inr ⟨g1,_,jw,rfl,h2,(oh.block g1 (Array.getElem?_eq_some_iff.1 h3).1 RS).trans h3,h4⟩
   have Vt:U (Bk wh g2 d (fun j=>F (12+4*i+j))):=gh.congr fun j hj=>by rw [aE za,Nat.sub_zero]
   have v0:=KJ.out.cz 0;have v1:=KJ.out.cz 1;have v2:=KJ.out.cz 2;have v3:=KJ.out.cz 3;have v4:=KJ.out.cz 4;have v5:=KJ.out.cz 5;have ce:=C1.out.below IP.out;have c0:=ce 0 _ rfl;have c1:=ce 1 _ rfl;have c2:=ce 2 _ rfl;have c3:=ce 3 _ rfl;have c4:=ce 4 _ rfl;have c5:=ce 5 _ rfl;have cf:=F1.out wh IP.out;have q3:¬ g3=w.heap.size+1:=by have:=xZ.out.2.2;have:=xK.out;omega
   have Yj:¬ w.heap.size+1=g3:=za;clear cc gh oh RV ce;go_wp2_with fail
   refine bodyPost_ret (v:=z #[O T (kn:Int),O Y (x1:Int),O Y (x2:Int),O Y (x3:Int),J (I ⟨g1,0,Q⟩) i i,J (I ⟨g2,0,Q⟩) d d]) (by simp [results,Tryz.results203,go_sem,c0,c1,c2,c3,c4,c5]) rfl ?_;refine⟨I ⟨g1,0,Q⟩,i,I ⟨g2,0,Q⟩,d,?_,?_,?_⟩
   ·rw [G7.out,<- HX.out.2.1,<- HX.out.2.2.1,<- HX.out.2.2.2,HX.out.1]
   ·have hz:=xK.out;refine LC.out _ _ _ _ _ ?_ ?_
    ·refine(Vs.out.stay fun b hb _=>?_).mono za;rw [Below.heap_setCell _ _ _ _ (by simp only;omega),Below.heap_setCell _ _ _ _ (by simp only;omega),Below.heap_setCell _ _ _ _ (by simp only;omega),Below.heap_setCell _ _ _ _ (by simp only;omega),Below.heap_setCell _ _ _ _ (by simp only;omega),Below.heap_setCell _ _ _ _ (by simp only;omega)]
    ·refine((Vt.out.own (B:=w1.heap.size) xZ.out.2.1 za).stay fun b hb _=>?_).mono za;rw [Below.heap_setCell _ _ _ _ (by simp only;omega),Below.heap_setCell _ _ _ _ (by simp only;omega),Below.heap_setCell _ _ _ _ (by simp only;omega),Below.heap_setCell _ _ _ _ (by simp only;omega),Below.heap_setCell _ _ _ _ (by simp only;omega),Below.heap_setCell _ _ _ _ (by simp only;omega)]
   ·have:=ap jZ.out IP.out;exact(((((this.setCell (H _) _).setCell (H _) _).setCell (H _) _).setCell (H _) _).setCell (H _) _).setCell (H _) _
end Go.Proofs.YtemlojjkokooeaaGreat
