import Derived.Test.YtemlojjkokooeaaGreatTm46
import Derived.Test.YtemlojjkokooeaaGreatTm48
open Go.Value renaming int->J,slice->Q,agg->P
open Go.IntKind renaming i64->O
open Go.RowKit renaming Below->I,Hid->U
open Option renaming none->Y,some->Z
open Go.Proofs.Tryz renaming prog->X
open Go.Obj renaming cells->T
open Go renaming Calls->B,Addr->b,World->l
open Go.Ending renaming returned->z
open Int renaming toNat_natCast->p
open Go.Operand renaming tmp->f
open Go.RowKit.Below renaming refl->m
set_option maxHeartbeats 16000000
set_option maxRecDepth 100000
namespace Go.Proofs.YtemlojjkokooeaaGreat.De
open Go.RowKit
theorem oz{k r c q:Int}{N W:Nat}{y:Int}(h:Par k r c q N W y)(w:l)(len gt:Int)(ro:Option b)(n rc:Nat)(R V:Nat->Int)(hR:RdR w ro n R V):
  B X 168 #[Pz k r c q,P #[J O len,J O gt,Q ro n rc]] w fun e w'=>e=z (J O (erD y W q len gt n R V))/\b7 w w':=by
 have HM:=fun v=>eP k r c q v;rw [h.may] at HM;have HR:=am hR;clear hR;obtain⟨w0,bi⟩:=jM w k r c q
 obtain⟨w1,ci⟩:=fd (w0.alloc (T #[J O len,J O gt,Q ro n rc] 60))
 have b0:=jt bi
 have b1:=jt ci
 have z0:=ks bi
 have io:=am (ap b0 b1);have HP:U (∀ u,b7 w1 u->(u.cell? ⟨w.heap.size,0,Y⟩=Z (J O k)/\u.cell? ⟨w.heap.size,1,Y⟩=Z (J O r)/\u.cell? ⟨w.heap.size,2,Y⟩=Z (J O c)/\u.cell? ⟨w.heap.size,3,Y⟩=Z (J O q))/\u.cell? ⟨w.heap.size+1,0,Y⟩=Z (J O len)/\u.cell? ⟨w.heap.size+1,1,Y⟩=Z (J O gt)/\u.cell? ⟨w.heap.size+1,2,Y⟩=Z (Q ro n rc)):=fun u hu=>⟨ak bi (ap b1 hu),by rw [<- z0];exact⟨ae ci hu 0 rfl,ae ci hu 1 rfl,ae ci hu 2 rfl⟩⟩
 rcases h.err with rfl | rfl
 ·have HD:=fun v hv=>nO h v len gt ro n rc R V hv;obtain⟨ok,hok⟩:=fd (okD W q len gt n R V)
  have HE:U (erD 0 W q len gt n R V=if ok=true then 0 else 150):=by rw [hok];rfl
  rw [<- hok] at HD;rw [zm rfl] at HM;clear h hok;cases ok
  all_goals (
   go_enter Tryz.func168,Tryz.ntmps168
   go_wp2_with fail
   rw [<- bi,<- ci];clear bi ci z0 b0 b1;refine(HM _).mono ?_;rintro e wa ⟨rfl,ha⟩;obtain⟨⟨p0,p1,p2,p3⟩,d0,d1,d2⟩:=HP.out _ ha;go_wp2_with fail
   refine(HD _ (HR.out.below (ap io.out ha))).mono ?_;rintro e wb ⟨rfl,hb⟩;go_wp2_with fail
   go_ret;exact⟨by rw [HE.out];rfl,ap (ap io.out ha) hb⟩)
 ·have HE:U (erD 2 W q len gt n R V=2):=rfl;rw [zp zb] at HM;clear h;go_enter Tryz.func168,Tryz.ntmps168
  go_wp2_with fail
  rw [<- bi,<- ci];clear bi ci z0 b0 b1;refine(HM _).mono ?_;rintro e wa ⟨rfl,ha⟩;go_wp2_with fail
  go_ret;exact⟨by rw [HE.out];rfl,ap io.out ha⟩
theorem nN{A E n:Nat}{len gt:Int}{R V:Nat->Int}(hA:len=(A:Int))(hE:gt=(E:Int))(j:Nat):upR (fun _=>0) 0 (4+1+2+6*n) (upR (upR (upR (fun j=>dg A (4-1-j)) 4 1 (fun _=>dg E 0)) (4+1) 2 (fun j=>dg n (2-1-j))) (4+1+2) (6*n) (rfB R V)) j=deB len gt n R V j:=by
 subst hA;subst hE;unfold deB lfB;rw [p,p];by_cases h4:j<4
 ·rw [zk h4,aE za,aw za,aw za,aw za,show 4-1-(j-0)=3-j by omega]
 ·rw [zl h4];by_cases h5:j<5
  ·rw [zk h5,aE za,aw za,aw za,aE za]
  ·rw [zl h5];by_cases h7:j<7
   ·rw [zk h7,aE za,aw za,aE za,show 2-1-(j-0-(4+1))=6-j by omega]
   ·rw [zl h7];by_cases hr:j-7<6*n
    ·rw [zk hr,aE za,aE za,show j-0-(4+1+2)=j-7 by omega]
    ·rw [zl hr,aw za]
theorem mj{k r c q:Int}{N W:Nat}(h:Par k r c q N W 0)(w:l)(len gt:Int)(ro:Option b)(n rc:Nat)(R V:Nat->Int)(hR:RdR w ro n R V)(hok:okD W q len gt n R V=true):
  B X 169 #[Pz k r c q,P #[J O len,J O gt,Q ro n rc]] w fun e w'=>∃ g,e=z (Q (Z ⟨g,0,Y⟩) W W)/\Bk w' g W (deB len gt n R V)/\w.heap.size<=g/\b7 w w':=by
 obtain⟨qC,hW,yY,hq⟩:=h.fine;obtain⟨g1,g2,g3,g4,g5⟩:=okD_few hW hok;obtain⟨f1,f2,f3,_,_⟩:=h.good qC;have EO:=dX hW;have Lu:=dP yY;obtain⟨A,hA⟩:∃ A:Nat,len=(A:Int):=⟨len.toNat,za⟩
 obtain⟨E,UB⟩:∃ E:Nat,gt=(E:Int):=⟨gt.toNat,za⟩
 have XE:U (∀ j,upR (fun _=>0) 0 (4+1+2+6*n) (upR (upR (upR (fun j=>dg A (4-1-j)) 4 1 (fun _=>dg E 0)) (4+1) 2 (fun j=>dg n (2-1-j))) (4+1+2) (6*n) (rfB R V)) j=deB len gt n R V j):=fun j=>nN hA UB j;have XF:=fun v=>cr v A 4 za za;have XG:=fun v=>cr v n 2 za za;have CT:=fun v hv=>wZ v ro n rc R V hv za (nQ hq g5);have CW:=fun v bo bc H hv=>AX (r:=r) (q:=q) f1 yY v bo (4+1+2+6*n) bc H hv za za;have HR:=am hR;have zt:E<=1:=za
 have he:(E:Int) % 256=((((dg E 0).toNat:Nat)):Int):=by rw [aP];simp
 have A8:n<=1000:=za;obtain⟨w0,bi⟩:=jM w k r c q
 obtain⟨w1,ci⟩:=fd (w0.alloc (T #[J O len,J O gt,Q ro n rc] 60))
 have b0:=jt bi
 have b1:=jt ci
 have z0:=ks bi
 have io:=am (ap b0 b1);have HP:U (∀ u,b7 w1 u->(u.cell? ⟨w.heap.size,0,Y⟩=Z (J O k)/\u.cell? ⟨w.heap.size,1,Y⟩=Z (J O r)/\u.cell? ⟨w.heap.size,2,Y⟩=Z (J O c)/\u.cell? ⟨w.heap.size,3,Y⟩=Z (J O q))/\u.cell? ⟨w.heap.size+1,0,Y⟩=Z (J O len)/\u.cell? ⟨w.heap.size+1,1,Y⟩=Z (J O gt)/\u.cell? ⟨w.heap.size+1,2,Y⟩=Z (Q ro n rc)):=fun u hu=>⟨ak bi (ap b1 hu),by rw [<- z0];exact⟨ae ci hu 0 rfl,ae ci hu 1 rfl,ae ci hu 2 rfl⟩⟩
 generalize deB len gt n R V=G at *
 subst hA;subst UB;clear h hR hok g1 g2 g3 g4 g5 f1 f2 f3 EO Lu qC hq;obtain⟨⟨p0,p1,p2,p3⟩,d0,d1,d2⟩:=HP.out _ (m _ _);go_enter Tryz.func169,Tryz.ntmps169
 go_wp2_with fail
 rw [<- bi,<- ci];clear bi ci z0 b0 b1;refine(XF _).mono ?_;rintro e wa ⟨ga,rfl,jO,F6,ha⟩;have qi:U (OwU w1.heap.size wa (Z ⟨ga,0,Y⟩) 4 4 (fun j=>dg A (4-1-j))):=jO.own F6 za;have k1:=am ha;clear jO F6 ha p0 p1 p2 p3 d0 d1 d2;obtain⟨⟨p0,p1,p2,p3⟩,d0,d1,d2⟩:=HP.out _ k1.out;have xT:=cQ wa (x:=(E:Int)) (u:=dg E 0) (by rw [<- he];omega);have UC:=qi.out.below (bal wa (T #[J .u8 (E:Int)] 5));have xW:w1.heap.size<=wa.heap.size:=k1.out.size;have xZ:=am (cZ qi.out);go_wp2_with (at_builtin;refine au zg (f 9) (f 13) zg w1.heap.size 4 1 4 1 (Z ⟨ga,0,Y⟩) (Z ⟨wa.heap.size,0,Y⟩) _ _ zg zg UC xT za zj ?_;intro u2 c2 wb kS kx;have kH:=am kS;have k2:U (b7 w1 wb):=(k1.out.alloc xW _).grown kx zj xZ.out;clear kS kx xT UC;clear p0 p1 p2 p3 d0 d1 d2;obtain⟨⟨p0,p1,p2,p3⟩,d0,d1,d2⟩:=HP.out _ k2.out)
 refine(XG _).mono ?_;rintro e wc ⟨gc,rfl,IV,_,hc⟩;have k3:=am (ag k2.out hc k2.out.size);have NH:=kH.out.below hc;have OI:=IV.bec;have NJ:w1.heap.size<=wc.heap.size:=k3.out.size;have I9:=am (cZ kH.out);clear hc IV p0 p1 p2 p3 d0 d1 d2;go_wp2_with (at_builtin;refine au zg (f 15) (f 19) zg w1.heap.size (4+1) 2 c2 2 u2 (Z ⟨gc,0,Y⟩) _ _ zg zg NH OI za NJ ?_;intro u4 c4 wd NL He;have O4:=am NL;have k4:=am (k3.out.grown He NJ I9.out);clear NL He OI NH;obtain⟨⟨p0,p1,p2,p3⟩,d0,d1,d2⟩:=HP.out _ k4.out)
 refine(CT _ (HR.out.below (ap io.out k4.out))).mono ?_;rintro e we ⟨u5,c5,rfl,h5,h6⟩;have k5:=am (ag k4.out h6 k4.out.size);have UD:=O4.out.below h6;have UE:=h5.bec;have UF:w1.heap.size<=we.heap.size:=k5.out.size;have XH:=am (cZ O4.out);clear h5 h6 p0 p1 p2 p3 d0 d1 d2;go_wp2_with (at_builtin;refine au zg (f 21) (f 24) zg w1.heap.size (4+1+2) (6*n) c4 c5 u4 u5 _ _ zg zg UD UE za UF ?_;intro u6 c6 wf UG UH;have XI:=am UG;have k6:=am (k5.out.grown UH UF XH.out);clear UG UH UE UD;obtain⟨⟨p0,p1,p2,p3⟩,d0,d1,d2⟩:=HP.out _ k6.out)
 refine(CW _ _ _ _ XI.out.bec).mono ?_;rintro e wg ⟨g,rfl,hg,F6,hh⟩;go_wp2_with fail
 go_ret;exact⟨g,rfl,hg.congr fun j _=>XE.out j,Nat.le_trans (ap io.out k6.out).size F6,ap (ap io.out k6.out) hh⟩
theorem RBytes_any{k r c q:Int}{N W:Nat}{y:Int}(h:Par k r c q N W y)(w:l)(len gt:Int)(ro:Option b)(n rc:Nat)(R V:Nat->Int)(hR:Rec w ro n rc R V)(E:Int)(hE:erD y W q len gt n R V=E):
  B X 104 #[Pz k r c q,P #[J O len,J O gt,Q ro n rc]] w (AnsB w E W (deB len gt n R V)):=by
 have HC:=fun v hv=>oz h v len gt ro n rc R V hv;rw [hE] at HC;have HR:=am hR;have hW:=h.wide;clear hR;unfold AnsB;obtain⟨w0,bi⟩:=jM w k r c q
 obtain⟨w1,ci⟩:=fd (w0.alloc (T #[J O len,J O gt,Q ro n rc] 60))
 have b0:=jt bi
 have b1:=jt ci
 have z0:=ks bi
 have io:=am (ap b0 b1);have HP:U (∀ u,b7 w1 u->(u.cell? ⟨w.heap.size,0,Y⟩=Z (J O k)/\u.cell? ⟨w.heap.size,1,Y⟩=Z (J O r)/\u.cell? ⟨w.heap.size,2,Y⟩=Z (J O c)/\u.cell? ⟨w.heap.size,3,Y⟩=Z (J O q))/\u.cell? ⟨w.heap.size+1,0,Y⟩=Z (J O len)/\u.cell? ⟨w.heap.size+1,1,Y⟩=Z (J O gt)/\u.cell? ⟨w.heap.size+1,2,Y⟩=Z (Q ro n rc)):=fun u hu=>⟨ak bi (ap b1 hu),by rw [<- z0];exact⟨ae ci hu 0 rfl,ae ci hu 1 rfl,ae ci hu 2 rfl⟩⟩
 by_cases hz:E=0
 ·subst hz;obtain⟨rfl,hok⟩:=AO hE;have HM:=fun v hv=>mj h v len gt ro n rc R V hv hok;rw [aQ];clear h hE hok;generalize deB len gt n R V=G at *
  go_enter Tryz.func104,Tryz.ntmps104
  go_wp2_with fail
  rw [<- bi,<- ci];clear bi ci z0 b0 b1;refine(HC _ (HR.out.rd.below io.out)).mono ?_;rintro e wa ⟨rfl,ha⟩;obtain⟨⟨p0,p1,p2,p3⟩,d0,d1,d2⟩:=HP.out _ ha;go_wp2_with fail
  refine(HM _ (HR.out.rd.below (ap io.out ha))).mono ?_;rintro e wb ⟨g,rfl,hg,F6,hb⟩;go_wp2_with fail
  go_ret2;exact⟨Z ⟨g,0,Y⟩,W,rfl,hg.own (Nat.le_trans (ap io.out ha).size F6) za,ap (ap io.out ha) hb⟩
 ·have yP:(E != 0)=true:=by simpa using hz
  rw [ed hz];clear h hE hz;go_enter Tryz.func104,Tryz.ntmps104
  go_wp2_with fail
  rw [<- bi,<- ci];clear bi ci z0 b0 b1;refine(HC _ (HR.out.rd.below io.out)).mono ?_;rintro e wa ⟨rfl,ha⟩;go_wp2_with fail
  go_ret2;exact⟨Y,0,rfl,cE _ _ _,ap io.out ha⟩
end Go.Proofs.YtemlojjkokooeaaGreat.De
namespace Go.Proofs.YtemlojjkokooeaaGreat
open Go.RowKit
theorem pL{k r c q:Int}{N W:Nat}{x:Int}(h:Par k r c q N W x)(w:l)(ro:Option b)(rn rc:Nat)(A:Nat->Option b)(L C:Nat->Nat)(F:Nat->Nat->UInt8)(hr:Rw w ro rn A L C F)(nu v len gt:Int)(so:Option b)(sn sc:Nat)(R V:Nat->Int)(hR:De.Rec w so sn sc R V)(E:Int)(hE:tD x W k c q nu v len gt N rn L F sn R V=E):
  B X 38 #[.agg #[.int .i64 k,.int .i64 r,.int .i64 c,.int .i64 q],.slice ro rn rc,.int .i64 nu,.int .i64 v,.agg #[.int .i64 len,.int .i64 gt,.slice so sn sc]] w (bS w E N N (fun _=>c.toNat) (osl N c L F 2 (wnV k N c L F)) nu (sz N c) (fun i=>enc (slC 2 N (fun _=>v) c.toNat (dH k.toNat c.toNat (De.deB len gt sn R V) i) i))):=by
 obtain⟨E0,kT⟩:=km (erR x N c rn L)
 have HC:U (∀ u,I w.heap.size w u->B X 101 #[.agg #[.int .i64 k,.int .i64 r,.int .i64 c,.int .i64 q],.slice ro rn rc] u fun e w'=>e=.returned (.int .i64 E0)/\I u.heap.size u w'):=fun u hu=>Cn.RCheck_any h u ro rn rc A L C F (hr.below hu) E0 kT;have HV:=fun u=>dZ v u;obtain⟨w0,bi⟩:=jM w k r c q
 obtain⟨w1,ci⟩:=fd (w0.alloc (.cells #[.int .i64 len,.int .i64 gt,.slice so sn sc] 60))
 have b0:=jt bi
 have b1:=jt ci
 have z0:=ks bi
 have B0:=am (ap b0 b1);have kJ:U (∀ u,I w1.heap.size w1 u->u.cell? ⟨w.heap.size,0,Y⟩=Z (.int .i64 k)/\u.cell? ⟨w.heap.size,1,Y⟩=Z (.int .i64 r)/\u.cell? ⟨w.heap.size,2,Y⟩=Z (.int .i64 c)/\u.cell? ⟨w.heap.size,3,Y⟩=Z (.int .i64 q)/\u.cell? ⟨w.heap.size+1,0,Y⟩=Z (.int .i64 len)/\u.cell? ⟨w.heap.size+1,1,Y⟩=Z (.int .i64 gt)/\u.cell? ⟨w.heap.size+1,2,Y⟩=Z (.slice so sn sc)):=fun u hu=>by
  obtain⟨p0,p1,p2,p3⟩:=ak bi (ap b1 hu);have pq:=(ah (m w0.heap.size w0) ci).below hu;have q0:=pq.cz 0;have q1:=pq.cz 1;have q2:=pq.cz 2;rw [z0] at q0 q1 q2;exact⟨p0,p1,p2,p3,q0,q1,q2⟩
 have kI:E ≠ 0->(B X 38 #[.agg #[.int .i64 k,.int .i64 r,.int .i64 c,.int .i64 q],.slice ro rn rc,.int .i64 nu,.int .i64 v,.agg #[.int .i64 len,.int .i64 gt,.slice so sn sc]] w fun e w'=>e=.returned (.tuple #[.slice Y 0 0,.int .i64 E])/\I w.heap.size w w')->B X 38 #[.agg #[.int .i64 k,.int .i64 r,.int .i64 c,.int .i64 q],.slice ro rn rc,.int .i64 nu,.int .i64 v,.agg #[.int .i64 len,.int .i64 gt,.slice so sn sc]] w (bS w E N N (fun _=>c.toNat) (osl N c L F 2 (wnV k N c L F)) nu (sz N c) (fun i=>enc (slC 2 N (fun _=>v) c.toNat (dH k.toNat c.toNat (De.deB len gt sn R V) i) i))):=fun f9 hc=>by
  refine hc.mono ?_;rintro e w' ⟨rfl,hb⟩;exact⟨Y,0,fun _=>Y,fun _=>0,by rw [aZ _ f9],fun e=>absurd e f9,hb⟩
 clear b0 b1;unfold tD at hE;rw [kT] at hE;by_cases e0:E0=0
 ·subst e0;rw [zk rfl] at hE;obtain⟨hx,I4,hL⟩:=bW kT;subst hx;subst I4;have GZ:∀ j,j<2*rn->L j<=1000:=fun j hj=>by
   have qe:=h.le;obtain⟨c1,c2⟩:=h.cell rfl;have:sz rn c<=1000:=by unfold sz;omega
   rcases hL j hj with g | g <;> omega
  have EM:=ny k rn c L F;have HN:U (∀ u,I w.heap.size w u->B X 102 #[.agg #[.int .i64 k,.int .i64 r,.int .i64 c,.int .i64 q],.slice ro rn rc] u fun e w'=>e=.returned (.tuple #[.int .i64 (wnV k rn c L F),.int .i64 (rnV k rn c L F)])/\I u.heap.size u w'):=fun u hu=>Cn.Counts_any h u ro rc A L C F (hr.below hu) GZ _ _ rfl rfl;obtain⟨rv,Iq⟩:=fd (rnV k rn c L F)
  rw [<- Iq] at HN;clear Iq;by_cases hok:(0<=nu/\nu<q)/\wnV k rn c L F<v/\v<=1073741824
  ·obtain⟨⟨o1,o2⟩,o3,o4⟩:=hok;rw [zk ⟨⟨o1,o2⟩,o3,o4⟩] at hE;have xY:U (∀ u,I w.heap.size w u->B X 104 #[.agg #[.int .i64 k,.int .i64 r,.int .i64 c,.int .i64 q],.agg #[.int .i64 len,.int .i64 gt,.slice so sn sc]] u (De.AnsB u E W (De.deB len gt sn R V))):=fun u hu=>De.RBytes_any h u len gt so sn sc R V (hR.below hu) E hE;have Fg:fj v=true:=by unfold fj;exact zm za
   rw [Fg] at HV;have i1:¬ nu<0:=za;have i2:¬ q<=nu:=za;have i3:¬ v<=wnV k rn c L F:=za;by_cases e1:E=0
   ·subst e1;have HP:U (∀ u ao cp,I w.heap.size w u->Bec u ao W cp (De.deB len gt sn R V)->B X 86 #[.agg #[.int .i64 k,.int .i64 r,.int .i64 c,.int .i64 q],.slice ro rn rc,.int .i64 nu,.int .u8 2,.int .i64 (wnV k rn c L F),.int .i64 v,.slice ao W cp] u (sK u rn c.toNat (osl rn c L F 2 (wnV k rn c L F)) nu (sz rn c) (fun i=>enc (slC 2 rn (fun _=>v) c.toNat (dH k.toNat c.toNat (De.deB len gt sn R V) i) i)))):=fun u ao cp hu hb=>uD h u ro rc A L C F (hr.below hu) hL nu 2 (.inr rfl) (wnV k rn c L F) v ⟨za,o4⟩ (fun g=>lS (.inr rfl) g) ao cp _ hb;obtain⟨os,C5⟩:=fd (osl rn c L F 2 (wnV k rn c L F))
    obtain⟨G,hG⟩:=fd (fun i=>enc (slC 2 rn (fun _=>v) c.toNat (dH k.toNat c.toNat (De.deB len gt sn R V) i) i))
    obtain⟨S,hS⟩:=fd (sz rn c)
    obtain⟨D,hD⟩:=fd (De.deB len gt sn R V)
    obtain⟨y,hy⟩:=fd (wnV k rn c L F)
    rw [<- hD] at xY hG;rw [<- hy] at C5 HN i3;rw [<- hD,<- hy,<- C5,<- hG,<- hS] at HP;unfold De.AnsB at xY;unfold sK at HP;rw [aQ] at xY;rw [<- hD,<- hy,<- C5,<- hG,<- hS];unfold bS;rw [aQ];clear kI hL GZ hr h kT C5 hG hS hD hy hE EM o1 o2 o3 o4 Fg hR;go_enter Tryz.func38,Tryz.ntmps38
    go_wp2_with fail
    rw [<- bi,<- ci];clear bi ci z0;refine(HC.out _ B0.out).mono ?_;rintro e wa ⟨rfl,ha⟩;have HB:=am ha;clear ha HC;obtain⟨x0,x1,x2,x3,x4,x5,x6⟩:=kJ.out wa HB.out;go_wp2_with fail
    refine(HN.out _ (ap B0.out HB.out)).mono ?_;rintro e wb ⟨rfl,hb⟩;have io:=am (ap HB.out hb);clear hb HN x0 x1 x2 x3 x4 x5 x6 HB;obtain⟨x0,x1,x2,x3,x4,x5,x6⟩:=kJ.out wb io.out;go_wp2_with fail
    refine(HV _).mono ?_;rintro e wv ⟨rfl,rfl⟩;go_wp2_with fail
    refine(xY.out _ (ap B0.out io.out)).mono ?_;rintro e wc ⟨ao,cp,rfl,hb,qv⟩;have n8:=am (ap io.out qv);have FS:U (Bec wc ao W cp D):=hb.bec;clear hb qv xY x0 x1 x2 x3 x4 x5 x6;obtain⟨x0,x1,x2,x3,x4,x5,x6⟩:=kJ.out wc n8.out;go_wp2_with fail
    refine(HP.out _ _ _ (ap B0.out n8.out) FS.out).mono ?_;rintro e wd ⟨a2,k2,T2,U2,rfl,hp,EM⟩;have GK:U (PL w.heap.size wd a2 rn k2 rn (fun _=>c.toNat) os nu S T2 U2 G):=hp.mono (ap B0.out n8.out).size;have Fp:=am (ap B0.out (ap n8.out EM));clear hp EM HP x0 x1 x2 x3 x4 x5 x6;go_wp2_with fail
    go_ret2;exact⟨a2,k2,T2,U2,rfl,fun _=>GK.out,Fp.out⟩
   ·refine kI e1 ?_;unfold De.AnsB at xY;rw [aZ _ e1] at xY;obtain⟨y,hy⟩:=fd (wnV k rn c L F)
    rw [<- hy] at HN i3;clear kI hL GZ hr h kT hy hE EM o1 o2 o3 o4 Fg hR;go_enter Tryz.func38,Tryz.ntmps38
    go_wp2_with fail
    rw [<- bi,<- ci];clear bi ci z0;refine(HC.out _ B0.out).mono ?_;rintro e wa ⟨rfl,ha⟩;have HB:=am ha;clear ha HC;obtain⟨x0,x1,x2,x3,x4,x5,x6⟩:=kJ.out wa HB.out;go_wp2_with fail
    refine(HN.out _ (ap B0.out HB.out)).mono ?_;rintro e wb ⟨rfl,hb⟩;have io:=am (ap HB.out hb);clear hb HN x0 x1 x2 x3 x4 x5 x6 HB;obtain⟨x0,x1,x2,x3,x4,x5,x6⟩:=kJ.out wb io.out;go_wp2_with fail
    refine(HV _).mono ?_;rintro e wv ⟨rfl,rfl⟩;go_wp2_with fail
    refine(xY.out _ (ap B0.out io.out)).mono ?_;rintro e wc ⟨ao,cp,rfl,hb,qv⟩;have n8:=am (ap io.out qv);clear hb qv xY x0 x1 x2 x3 x4 x5 x6;go_wp2_with fail
    go_ret2;exact⟨rfl,ap B0.out n8.out⟩
  ·rw [zl hok] at hE;subst hE;refine kI zb ?_;obtain⟨y,hy⟩:=fd (wnV k rn c L F)
   rw [<- hy] at HN hok EM;clear kI hL GZ hr h kT hy hR;by_cases i1:nu<0
   ·clear hok EM HV;go_enter Tryz.func38,Tryz.ntmps38
    go_wp2_with fail
    rw [<- bi,<- ci];clear bi ci z0;refine(HC.out _ B0.out).mono ?_;rintro e wa ⟨rfl,ha⟩;have HB:=am ha;clear ha HC;obtain⟨x0,x1,x2,x3,x4,x5,x6⟩:=kJ.out wa HB.out;go_wp2_with fail
    refine(HN.out _ (ap B0.out HB.out)).mono ?_;rintro e wb ⟨rfl,hb⟩;have io:=am (ap HB.out hb);clear hb HN x0 x1 x2 x3 x4 x5 x6 HB;obtain⟨x0,x1,x2,x3,x4,x5,x6⟩:=kJ.out wb io.out;go_wp2_with fail
    go_ret2;exact⟨rfl,ap B0.out io.out⟩
   ·by_cases i2:q<=nu
    ·clear hok EM HV;go_enter Tryz.func38,Tryz.ntmps38
     go_wp2_with fail
     rw [<- bi,<- ci];clear bi ci z0;refine(HC.out _ B0.out).mono ?_;rintro e wa ⟨rfl,ha⟩;have HB:=am ha;clear ha HC;obtain⟨x0,x1,x2,x3,x4,x5,x6⟩:=kJ.out wa HB.out;go_wp2_with fail
     refine(HN.out _ (ap B0.out HB.out)).mono ?_;rintro e wb ⟨rfl,hb⟩;have io:=am (ap HB.out hb);clear hb HN x0 x1 x2 x3 x4 x5 x6 HB;obtain⟨x0,x1,x2,x3,x4,x5,x6⟩:=kJ.out wb io.out;go_wp2_with fail
     go_ret2;exact⟨rfl,ap B0.out io.out⟩
    ·cases Fg:fj v with
     | false =>
      rw [Fg] at HV;clear hok EM Fg;go_enter Tryz.func38,Tryz.ntmps38
      go_wp2_with fail
      rw [<- bi,<- ci];clear bi ci z0;refine(HC.out _ B0.out).mono ?_;rintro e wa ⟨rfl,ha⟩;have HB:=am ha;clear ha HC;obtain⟨x0,x1,x2,x3,x4,x5,x6⟩:=kJ.out wa HB.out;go_wp2_with fail
      refine(HN.out _ (ap B0.out HB.out)).mono ?_;rintro e wb ⟨rfl,hb⟩;have io:=am (ap HB.out hb);clear hb HN x0 x1 x2 x3 x4 x5 x6 HB;obtain⟨x0,x1,x2,x3,x4,x5,x6⟩:=kJ.out wb io.out;go_wp2_with fail
      refine(HV _).mono ?_;rintro e wv ⟨rfl,rfl⟩;go_wp2_with fail
      go_ret2;exact⟨rfl,ap B0.out io.out⟩
     | true =>
      have h1:1<=v/\v<=1073741824:=by unfold fj at Fg;exact of_decide_eq_true Fg
      have i3:v<=y:=Classical.byContradiction fun g=>hok ⟨⟨za,za⟩,za,h1.2⟩;rw [Fg] at HV;clear hok EM Fg h1;go_enter Tryz.func38,Tryz.ntmps38
      go_wp2_with fail
      rw [<- bi,<- ci];clear bi ci z0;refine(HC.out _ B0.out).mono ?_;rintro e wa ⟨rfl,ha⟩;have HB:=am ha;clear ha HC;obtain⟨x0,x1,x2,x3,x4,x5,x6⟩:=kJ.out wa HB.out;go_wp2_with fail
      refine(HN.out _ (ap B0.out HB.out)).mono ?_;rintro e wb ⟨rfl,hb⟩;have io:=am (ap HB.out hb);clear hb HN x0 x1 x2 x3 x4 x5 x6 HB;obtain⟨x0,x1,x2,x3,x4,x5,x6⟩:=kJ.out wb io.out;go_wp2_with fail
      refine(HV _).mono ?_;rintro e wv ⟨rfl,rfl⟩;go_wp2_with fail
      go_ret2;exact⟨rfl,ap B0.out io.out⟩
 ·rw [zl e0] at hE;subst hE;refine kI e0 ?_;clear kI hr h kT hR HV;go_enter Tryz.func38,Tryz.ntmps38
  go_wp2_with fail
  rw [<- bi,<- ci];clear bi ci z0;refine(HC.out _ B0.out).mono ?_;rintro e wa ⟨rfl,ha⟩;have HB:=am ha;clear ha HC;obtain⟨x0,x1,x2,x3,x4,x5,x6⟩:=kJ.out wa HB.out;go_wp2_with fail
  go_ret2;exact⟨rfl,ap B0.out HB.out⟩
end Go.Proofs.YtemlojjkokooeaaGreat
