import Derived.Test.YtemlojjkokooeaaGreatTm37
open Go.Value renaming int->J,slice->Z,agg->G
open Go.IntKind renaming i64->O
open Go.RowKit renaming Hid->Y
open Go.Proofs.Tryz renaming prog->U
open Go.RowKit.Below renaming refl->X
open Go.Ending renaming returned->D
open Option renaming none->H,some->W
open Go renaming Calls->T,World->o
open Go.Obj renaming cells->t
open Nat renaming zero_le->s
set_option maxHeartbeats 16000000
set_option maxRecDepth 100000
namespace Go.Proofs.YtemlojjkokooeaaGreat
open Go.RowKit Go.Maps Go.ChangeShapes
theorem sN{f:Nat->Nat}(h:∀ i,f i ≠ 0):∀ n,Cod.cnt f n=n
 | 0=>rfl
 | n+1=>by rw [Cod.cnt_take (h n),sN h n]
def WrR (w:o) (g n:Nat):Prop:=∀ j,j<n->(∃ v,w.cell? ⟨g,j*2,H⟩=W v)/\w.frozen? ⟨g,j*2,H⟩=false
theorem WrR.set{w:o}{g n j:Nat}{v:Value}(h:WrR w g n):WrR (w.setCell ⟨g,j*2,H⟩ v) g n:=fun i hi=>by
 obtain⟨⟨u,hu⟩,hf⟩:=h i hi;refine⟨?_,by rw [World.frozen?_setCell];exact hf⟩;by_cases e:i=j
 ·subst e;exact⟨v,World.cell?_setCell_same _ _ _ hu⟩
 ·exact⟨u,by rw [World.cell?_setCell_other _ _ _ _ (by intro q;simp only [Addr.mk.injEq] at q;omega)];exact hu⟩
theorem Ex{B:Nat}{w:o}{ao:Option Addr}{n b8:Nat}{R V:Nat->Int}(h:De.OwR B w ao n b8 R V):0<n->∃ g,ao=W ⟨g,0,H⟩/\B<=g/\g<w.heap.size/\WrR w g n:=fun hn=>by
 obtain⟨g,rfl,h1,h2⟩:=De.OwR.at_ h hn;exact⟨g,rfl,h1,h2,fun j hj=>⟨⟨_,(De.OwR.cell h hj).1⟩,De.OwR.free h (j*2)⟩⟩
theorem WrR.below{w w':o}{g n:Nat}(h:WrR w g n)(hg:g<w.heap.size)(hb:b7 w w'):WrR w' g n:=fun j hj=>by
 obtain⟨⟨u,hu⟩,hf⟩:=h j hj;exact⟨⟨u,held hu hb⟩,by rw [World.frozen?_of_block (hb.block g hg)];exact hf⟩
theorem Dg{k r c q:Int}(w:o)(ro:Option Addr)(rn rc:Nat)(A:Nat->Option Addr)(L C:Nat->Nat)(F:Nat->Nat->UInt8)(hr:Rw w ro rn A L C F)(hn:rn*48<=140737488351232)(nu v len gt:Int)(so:Option Addr)(sn sc:Nat)(R V:Nat->Int)(hR:De.Rec w so sn sc R V)
  (TK:∀ u,T U 34 #[] u fun e w'=>e=D (.bool true)/\b7 u w')
  (TL:∀ u b,decide (200<sn)=b->T U 35 #[G #[J O len,J O gt,Z so sn sc]] u fun e w'=>e=D (.bool b)/\b7 u w')
  (FX:∀ u,De.Rec u so sn sc R V->sn<=500->T U 36 #[G #[J O len,J O gt,Z so sn sc]] u fun e w'=>∃ ao cp,e=D (G #[J O len,J O gt,Z ao sn cp])/\De.OwR u.heap.size w' ao sn cp R V/\b7 u w')
  (N S:Nat) (EP ER EF PT PX:Int) (Lp op:Nat->Nat) (Gp:Nat->Nat->UInt8) (o9:Cod.cnt Lp N<=16) (Lf of:Nat->Nat) (Gf:Nat->Nat->UInt8) (OM:Cod.cnt Lf N<=16) (Kf:EP=0->S<=1000) (xa xd xy:Int) (nx:Nat) (R1 V1:Nat->Int) (xP:nx<=1000)
  (Kg:∀ u ao b8 A2 C2 po pc,Rw u ao rn A2 L C2 F->De.Rec u po sn pc R V->T U 37 #[Pz k r c q,Z ao rn b8,J O nu,J O v,G #[J O len,J O gt,Z po sn pc]] u (bS u EP (Cod.cnt Lp N) N Lp op nu S Gp))
  (Kh:∀ u ao b8 A2 C2 po pc,Rw u ao rn A2 L C2 F->De.Rec u po sn pc R V->T U 38 #[Pz k r c q,Z ao rn b8,J O nu,J O v,G #[J O len,J O gt,Z po sn pc]] u (bS u EP (Cod.cnt Lp N) N Lp op nu S Gp))
  (Ki:∀ u ao b8 A2 C2,Rw u ao rn A2 L C2 F->T U 41 #[Pz k r c q,Z ao rn b8,J O nu] u (bS u EF (Cod.cnt Lf N) N Lf of nu S Gf))
  (Kj:∀ u ao b8 A2 C2,Rw u ao rn A2 L C2 F->T U 42 #[Pz k r c q,Z ao rn b8,J O nu] u (bS u EF (Cod.cnt Lf N) N Lf of nu S Gf))
  (M5:∀ u ao b8 A2 C2,Rw u ao rn A2 L C2 F->T U 39 #[Pz k r c q,Z ao rn b8] u fun e w'=>∃ xo xc,e=D (.tuple #[G #[J O xa,J O xd,Z xo nx xc],J O xy,J O ER])/\De.OwR u.heap.size w' xo nx xc R1 V1/\b7 u w')
  (M6:∀ u ao b8 A2 C2,Rw u ao rn A2 L C2 F->T U 40 #[Pz k r c q,Z ao rn b8] u fun e w'=>∃ xo xc,e=D (.tuple #[G #[J O xa,J O xd,Z xo nx xc],J O xy,J O ER])/\De.OwR u.heap.size w' xo nx xc R1 V1/\b7 u w')
  (M7:∀ u,T U 43 #[Pz k r c q] u fun e w'=>e=D (.tuple #[J O PT,J O PX])/\b7 u w')
  (M8:∀ u,T U 44 #[Pz k r c q] u fun e w'=>e=D (.tuple #[J O PT,J O PX])/\b7 u w') :
  T U 6 #[Pz k r c q,Z ro rn rc,J O nu,J O v,G #[J O len,J O gt,Z so sn sc]] w fun e w'=>e=D (.bool true)/\b7 w w':=by
 obtain⟨w0,bi⟩:=jM w k r c q
 obtain⟨wd,jN⟩:=fd (w0.alloc (t #[J O len,J O gt,Z so sn sc] 60))
 have b0:=jt bi
 have bd:=jt jN
 have z0:=ks bi
 have L0:=am fun v (hv:b7 wd v)=>((ah (X _ _) bi).below bd).below hv;have D0:Y (∀ v,b7 wd v->At w0 v (w.heap.size+1) #[J O len,J O gt,Z so sn sc] 60):=fun v hv=>by
  have:=(ah (X _ _) jN).below hv;rw [z0] at this;exact this
 have B0:=am (ap b0 bd);by_cases hsn:200<sn
 ·clear hr hn hR FX o9 OM Kf xP Kg Kh M5 M6 Ki Kj M7 M8;go_enter Tryz.func6,Tryz.ntmps6
  go_wp2_with fail
  rw [<- bi,<- jN];clear bi jN z0 b0 bd L0;refine(TK _).mono ?_;rintro e wa ⟨rfl,ha⟩;have HB:=am (ap B0.out ha);have dq:=D0.out wa ha;have d0:=dq.cz 0;have d1:=dq.cz 1;have d2:=dq.cz 2;clear dq;clear ha;go_wp2_with fail
  refine(TL wa true (zm hsn)).mono ?_;rintro e wl ⟨rfl,hl⟩;have MK:=am (ap HB.out hl);clear hl;go_wp2_with fail
  go_ret;exact⟨rfl,MK.out⟩
 obtain⟨M,hM⟩:=fd (aK EP (Cod.cnt Lp N))
 obtain⟨Mf,ON⟩:=fd (aK EF (Cod.cnt Lf N))
 have zE:Y (M=aK EP (Cod.cnt Lp N)/\M<=16):=⟨hM,by rw [hM];unfold aK;split <;> omega⟩
 have QP:Y (Mf=aK EF (Cod.cnt Lf N)/\Mf<=16):=⟨ON,by rw [ON];unfold aK;split <;> omega⟩
 unfold bS at Kg Kh Ki Kj;rw [<- hM] at Kg Kh;rw [<- ON] at Ki Kj;have Xi:Y (M=0\/S<=1000):=by
  by_cases he:EP=0
  ·exact .inr (Kf he)
  ·left;rw [hM];unfold aK;rw [zl he]
 have TM:=am Kg;have TN:=am Kh;have TO:=am M5;have TP:=am M6;have TQ:=am Ki;have TR:=am Kj;have TS:=am M7;have TT:=am M8;have HR:=am hr;have HD:=am hR;have HN:=am hn;have zA:=am hsn;have C6:=am xP;clear hr hR hn hsn xP o9 OM Kg Kh M5 M6 Ki Kj M7 M8 hM ON Kf;go_enter Tryz.func6,Tryz.ntmps6
 go_wp2_with fail
 rw [<- bi,<- jN];clear bi jN z0 b0 bd;refine(TK _).mono ?_;rintro e wa ⟨rfl,ha⟩;have SA:=am ha;have dq:=D0.out wa SA.out;have d0:=dq.cz 0;have d1:=dq.cz 1;have d2:=dq.cz 2;clear dq;clear ha;go_wp2_with fail
 refine(TL wa false (zp zA.out)).mono ?_;rintro e wl ⟨rfl,hl⟩;have SL:=am (ap SA.out hl);have TU:=HR.out.below (ap B0.out SL.out);clear hl d0 d1 d2;go_wp2_with fail
 refine(wE wl ro rn rc A L C F TU HN.out).mono ?_;rintro e wt ⟨ao,b8,A',C',rfl,QQ⟩;have ST:=am (ap SL.out QQ.bel);have M9:=am (QQ.rw);have TV:=De.Rec.below HD.out (ap B0.out ST.out);have dq:=D0.out wt ST.out;have d0:=dq.cz 0;have d1:=dq.cz 1;have d2:=dq.cz 2;clear dq;clear QQ TU;go_wp2_with fail
 refine(FX wt TV (by have:=zA.out;omega)).mono ?_;rintro e wc ⟨to,tc,rfl,Kb,qv⟩;obtain⟨wb,jD⟩:=fd (wc.alloc (t #[J O len,J O gt,Z to sn tc] 60))
 have bb:=jt jD
 have SB:=am (ap (ap ST.out qv) bb);have C0:=am fun v (hv:b7 wb v)=>(ah (X _ _) jD).below hv;have GL:=am fun v (hv:b7 wb v)=>De.Rec.below (De.Rec.below (De.OwR.rec Kb) bb) hv;have Ii:=am fun v (hv:b7 wb v)=>(M9.out.below (ap qv bb)).below hv;have Na:=am fun v (hv:b7 wb v)=>(HR.out.below (ap B0.out SB.out)).below hv;have QR:=am fun v (hv:b7 wb v)=>De.Rec.below (De.Rec.below HD.out (ap B0.out SB.out)) hv;have LP:=am fun v (hv:b7 wb v)=>L0.out v (ap SB.out hv);have DP:=am fun v (hv:b7 wb v)=>D0.out v (ap SB.out hv);have Xj:=am (ap B0.out SB.out);clear Kb qv bb TV M9 SA SL ST SB B0 L0 D0 HR HD d0 d1 d2;have pq:=LP.out wb (X _ _);have s0:=pq.cz 0;have s1:=pq.cz 1;have s2:=pq.cz 2;have s3:=pq.cz 3;clear pq;have dq:=C0.out wb (X _ _);have e0:=dq.cz 0;have e1:=dq.cz 1;have e2:=dq.cz 2;clear dq;rw [jD] at s0 s1 s2 s3 e0 e1 e2;go_wp2_with fail
 rw [<- jD];clear jD s0 s1 s2 s3 e0 e1 e2;refine(TM.out wb ao b8 A' C' to tc (Ii.out wb (X _ _)) (GL.out wb (X _ _))).mono ?_;rintro e w1 ⟨a1,k1,T1,U1,rfl,hz,hb⟩;have xK:=am hz;have H1:=am hb;clear hz hb;have pq:=LP.out w1 H1.out;have s0:=pq.cz 0;have s1:=pq.cz 1;have s2:=pq.cz 2;have s3:=pq.cz 3;clear pq;have dq:=DP.out w1 H1.out;have d0:=dq.cz 0;have d1:=dq.cz 1;have d2:=dq.cz 2;clear dq;go_wp2_with fail
 refine(TN.out w1 ro rc A C so sc (Na.out w1 H1.out) (QR.out w1 H1.out)).mono ?_;rintro e w2 ⟨a2,k2,T2,U2,rfl,hz,hb⟩;have xD:=am hz;have OO:=am hb;have H2:=am (ap H1.out hb);clear hz hb s0 s1 s2 s3 d0 d1 d2;have pq:=LP.out w2 H2.out;have s0:=pq.cz 0;have s1:=pq.cz 1;have s2:=pq.cz 2;have s3:=pq.cz 3;clear pq;go_wp2_with fail
 refine(TO.out w2 ao b8 A' C' (Ii.out w2 H2.out)).mono ?_;rintro e w3 ⟨xo,xc,rfl,hx,hb⟩;obtain⟨wx,yu⟩:=fd (w3.alloc (t #[J O xa,J O xd,Z xo nx xc] 60))
 have bx:=jt yu
 have HX:=am hx;have TW:=am hb;have QS:=am (ap hb bx);have Hn:=am (ap H2.out QS.out);have X0:=am fun v (hv:b7 wx v)=>(ah (X _ _) yu).below hv;have XW:=am fun v (hv:b7 wx v)=>De.Rec.below (De.Rec.below (De.OwR.rec hx) bx) hv;have QV:=am bx;have zx:=ks yu
 have ZX:=am zx;clear hx hb bx zx s0 s1 s2 s3;have pq:=LP.out wx Hn.out;have s0:=pq.cz 0;have s1:=pq.cz 1;have s2:=pq.cz 2;have s3:=pq.cz 3;clear pq;rw [yu] at s0 s1 s2 s3;go_wp2_with fail
 rw [<- yu];clear yu s0 s1 s2 s3;refine(TP.out wx ro rc A C (Na.out wx Hn.out)).mono ?_;rintro e w4 ⟨yo,yc,rfl,hy,hb⟩;obtain⟨wy,yf⟩:=fd (w4.alloc (t #[J O xa,J O xd,Z yo nx yc] 60))
 have OP:b7 w4 wy:=by rw [yf];exact bal _ _
 have HY:=am hy;have QW:Y (b7 w4 wy):=OP;have Jf:Y (b7 wx wy):=ap hb OP;have TX:=am hb;have Fx:=am (ap Hn.out Jf.out);have Y0:=am fun v (hv:b7 wy v)=>(ah (X _ _) yf).below hv;have YW:=am fun v (hv:b7 wy v)=>De.Rec.below (De.Rec.below (De.OwR.rec hy) OP) hv;clear hy hb OP;have pq:=LP.out wy Fx.out;have s0:=pq.cz 0;have s1:=pq.cz 1;have s2:=pq.cz 2;have s3:=pq.cz 3;clear pq;rw [yf] at s0 s1 s2 s3;go_wp2_with fail
 rw [<- yf];clear yf s0 s1 s2 s3;refine(TQ.out wy ao b8 A' C' (Ii.out wy Fx.out)).mono ?_;rintro e w5 ⟨m1,n1,P1,Q1,rfl,hz,hb⟩;have Hm:=am hz;have TY:=am hb;have H5:=am (ap Fx.out hb);clear hz hb;have pq:=LP.out w5 H5.out;have s0:=pq.cz 0;have s1:=pq.cz 1;have s2:=pq.cz 2;have s3:=pq.cz 3;clear pq;go_wp2_with fail
 refine(TR.out w5 ro rc A C (Na.out w5 H5.out)).mono ?_;rintro e w6 ⟨m2,n2,P2,Q2,rfl,hz,hb⟩;have GT:=am hz;have QX:=am hb;have H6:=am (ap H5.out hb);clear hz hb s0 s1 s2 s3;have pq:=LP.out w6 H6.out;have s0:=pq.cz 0;have s1:=pq.cz 1;have s2:=pq.cz 2;have s3:=pq.cz 3;clear pq;go_wp2_with fail
 refine(TS.out w6).mono ?_;rintro e w7 ⟨rfl,hb⟩;have TZ:=am hb;have H7:=am (ap H6.out hb);clear hb s0 s1 s2 s3;have pq:=LP.out w7 H7.out;have s0:=pq.cz 0;have s1:=pq.cz 1;have s2:=pq.cz 2;have s3:=pq.cz 3;clear pq;go_wp2_with fail
 refine(TT.out w7).mono ?_;rintro e w8 ⟨rfl,hb⟩;have OQ:=am (ap TZ.out hb);have OR:=am (ap (ap TY.out QX.out) OQ.out);have OS:=am (ap QS.out (ap Jf.out OR.out));have H8:=am (ap H7.out hb);clear hb s0 s1 s2 s3;have HI:=lQ w8 a1 a2 k1 k2 EP N Lp op nu S Gp ((mJ xK.out).below (ap OO.out OS.out)) ((mJ xD.out).below OS.out) (by rw [<- zE.out.1];have:=zE.out.2;omega);rw [<- zE.out.1] at HI;go_wp2_with fail
 refine HI.mono ?_;rintro e w9 ⟨rfl,hb⟩;have T0:=am hb;have Nb:=am (ap OR.out hb);clear hb HI;have dq:=X0.out w9 (ap Jf.out Nb.out);have f0:=dq.cz 0;have f1:=dq.cz 1;have f2:=dq.cz 2;clear dq;have dq:=Y0.out w9 Nb.out;have g0:=dq.cz 0;have g1:=dq.cz 1;have g2:=dq.cz 2;clear dq;have Jg:=De.Same_any w9 xa xd xo nx xc yo yc R1 V1 (XW.out w9 (ap Jf.out Nb.out)).rd (YW.out w9 Nb.out).rd C6.out;go_wp2_with fail
 refine Jg.mono ?_;rintro e wA ⟨rfl,hb⟩;have OT:=am (ap T0.out hb);clear hb Jg f0 f1 f2 g0 g1 g2;have HI:=lQ wA m1 m2 n1 n2 EF N Lf of nu S Gf ((mJ Hm.out).below (ap QX.out (ap OQ.out OT.out))) ((mJ GT.out).below (ap OQ.out OT.out)) (by rw [<- QP.out.1];have:=QP.out.2;omega);rw [<- QP.out.1] at HI;go_wp2_with fail
 refine HI.mono ?_;rintro e wB ⟨rfl,hb⟩;have QY:=am (ap OT.out hb);have io:=am (ap H8.out QY.out);clear hb HI;have dq:=C0.out wB io.out;have e0:=dq.cz 0;have e1:=dq.cz 1;have e2:=dq.cz 2;clear dq;have dq:=DP.out wB io.out;have d0:=dq.cz 0;have d1:=dq.cz 1;have d2:=dq.cz 2;clear dq;have Jg:=De.Same_any wB len gt to sn tc so sc R V (GL.out wB io.out).rd (QR.out wB io.out).rd (by have:=zA.out;omega);go_wp2_with fail
 refine Jg.mono ?_;rintro e wC ⟨rfl,hb⟩;have T4:=am (ap QY.out hb);have n8:=am (ap io.out hb);clear hb Jg d0 d1 d2 e0 e1 e2;have Nc:=gw wC ao ro rn b8 rc A' A L C' C F F (Ii.out _ n8.out) (Na.out _ n8.out) (by have:=HN.out;omega) (fun _ _ _ _=>rfl);go_wp2_with fail
 refine Nc.mono ?_;rintro e wD ⟨rfl,hb⟩;have QZ:=am (ap T4.out hb);have Fp:=am (ap n8.out hb);have K8:=am (ap OR.out QZ.out);have T5:=am (ap OS.out QZ.out);have T6:=am (ap OO.out T5.out);have Kk:Y (wb.heap.size<=w1.heap.size/\w1.heap.size<=w2.heap.size/\w2.heap.size<=w3.heap.size/\wx.heap.size<=w4.heap.size/\w4.heap.size<=wD.heap.size/\w3.heap.size<=wD.heap.size):=⟨H1.out.size,OO.out.size,TW.out.size,TX.out.size,Nat.le_trans QW.out.size K8.out.size,Nat.le_trans QV.out.size (Nat.le_trans Jf.out.size K8.out.size)⟩
 clear hb Nc;have Jo:Y (0<nx->∃ g,xo=W ⟨g,0,H⟩/\w2.heap.size<=g/\g<w3.heap.size/\WrR wD g nx):=fun hp=>by
  obtain⟨g,e1,h1,h2,h3⟩:=Ex HX.out hp;exact⟨g,e1,h1,h2,h3.below h2 (ap QV.out (ap Jf.out K8.out))⟩
 have Xk:=am (ap Jf.out K8.out);have Xl:=am (ap QW.out K8.out);clear HX XW YW OO TW QS QV QW Jf TX TY QX TZ OQ OR OS T0 Nb OT QY T4 QZ T5 io n8 H1 H2 Hn Fx H5 H6 H7 H8 xD Hm GT QR GL TM TN TP TQ TR TS TT;go_wp2_with fail
 go_loopw [34] (fun y wr=>∃ i:Nat,i<=nx/\y=J O (i:Int)/\Y (Only (fun b=>w2.heap.size<=b/\b<w3.heap.size) wD wr)/\Y (0<nx->∃ g,xo=W ⟨g,0,H⟩/\w2.heap.size<=g/\g<w3.heap.size/\WrR wr g nx)) (fun y _=>nx-(intOf y).toNat)
 case atStart=>exact⟨0,s _,rfl,Only.refl _ _,Jo.out⟩
 case round =>
  obtain⟨i,hi,rfl,GU,Mi⟩:=hrel;have f2:=((X0.out wD Xk.out).only GU.out (fun h=>absurd h.2 (Nat.lt_irrefl _))).cz 2;by_cases hlt:i<nx
  ·obtain⟨g,e1,g1,g2,hw⟩:=Mi.out za;obtain⟨⟨uu,hu⟩,hf⟩:=hw i hlt;have i1:(0:Int)<=(i:Int):=za;have i2:(i:Int)<(nx:Int):=za;have xw:nx<=1000:=C6.out;have KQ:Y (WrR (wr.setCell ⟨g,i*2,H⟩ (J O (-9))) g nx):=hw.set;have kH:Y (Only (fun b=>w2.heap.size<=b/\b<w3.heap.size) wD (wr.setCell ⟨g,i*2,H⟩ (J O (-9)))):=GU.out.setCell ⟨g1,g2⟩ _;have GA:=am e1;rw [e1] at f2;clear hw GU Mi e1;go_wp2_with fail
   go_roundw
   case rel=>exact⟨i+1,za,by go_num,kH,fun _=>⟨g,GA.out,g1,g2,KQ.out⟩⟩
   case measure=>simp [intOf];omega
  ·have i2:¬ (i:Int)<(nx:Int):=za;obtain⟨wv,K9⟩:=fd (wr)
   subst K9;have qi:=am GU;have jZ:=am (T6.out.trans (qi.out.below (fun b hb=>Nat.le_trans Kk.out.2.1 hb.1) T6.out.size));have T7:=am (Fp.out.trans (qi.out.below (fun b hb=>Nat.le_trans Kk.out.1 (Nat.le_trans Kk.out.2.1 hb.1)) Fp.out.size));obtain⟨X1,Y1,FH⟩:=DX xK.out jZ.out;rw [<- zE.out.1] at FH;have Nd:=am FH;clear FH GU Mi hi hlt xK Jo;go_wp2_with fail
   clear f2;go_loopw [35] (fun y wr=>∃ i:Nat,i<=M/\y=J O (i:Int)/\Y (Only (fun b=>wb.heap.size<=b/\b<w1.heap.size) wv wr)/\Y (0<M->∃ g,a1=W ⟨g,0,H⟩/\Spl wb.heap.size w1.heap.size M S wv wr g k1 X1 Y1)) (fun y _=>M-(intOf y).toNat)
   case atStart=>exact⟨0,s _,rfl,Only.refl _ _,Nd.out⟩
   case round =>
    obtain⟨i,hi,rfl,GU,Q0⟩:=hrel;by_cases hlt:i<M
    ·obtain⟨g,e1,FH⟩:=Q0.out za;have GA:=am e1;have Ix:=am FH;have i1:(0:Int)<=(i:Int):=za;have i2:(i:Int)<(M:Int):=za;obtain⟨ta,T8⟩:=fd (X1 i)
     obtain⟨tc,Ud⟩:=fd (Y1 i)
     have Q3:Y (ta=X1 i/\tc=Y1 i):=⟨T8,Ud⟩
     rw [e1];clear T8 Ud FH Q0 e1;go_wp2_with fail
     go_loopw [36] (fun y wr=>∃ u:Nat,u<=S/\y=J O (u:Int)/\Y (Spl wb.heap.size w1.heap.size M S wv wr g k1 X1 Y1)) (fun y _=>S-(intOf y).toNat)
     case atStart=>exact⟨0,s _,rfl,Ix⟩
     case round =>
      obtain⟨u,hu,rfl,hsq⟩:=hrel;have c1:wr.cell? ⟨g,i*4+3,H⟩=W (Z ta S tc):=by rw [Q3.out.1,Q3.out.2];exact hsq.out.c1 hlt
      by_cases hut:u<S
      ·obtain⟨gi,La⟩:∃ gi,X1 i=W ⟨gi,0,H⟩:=hsq.out.inner hlt za;obtain⟨⟨YG,x1⟩,x2⟩:=hsq.out.rd hlt (gi:=gi) (u:=u) La hut;have zW:Y (Spl wb.heap.size w1.heap.size M S wv (wr.setCell ⟨gi,u,H⟩ (J .u8 99)) g k1 X1 Y1):=hsq.out.put hlt La _;have YH:S<=1000:=by have:=Xi.out;omega
       rw [show ta=W ⟨gi,0,H⟩ from Q3.out.1.trans La] at c1;have u1:(0:Int)<=(u:Int):=za;have u2:(u:Int)<(S:Int):=za;clear La;go_wp2_with fail
       go_roundw
       case rel=>exact⟨u+1,za,by go_num,zW⟩
       case measure=>simp [intOf];omega
      ·have u2:¬ (u:Int)<(S:Int):=za;have YI:M<=16:=zE.out.2;go_wp2_with fail
       go_roundw
       case rel=>exact⟨i+1,za,by go_num,hsq.out.onl,fun _=>⟨g,rfl,hsq.out⟩⟩
       case measure=>simp [intOf];omega
    ·have i2:¬ (i:Int)<(M:Int):=za;have Q4:=am GU;have Q5:=am (T7.out.trans (Q4.out.below (fun b hb=>hb.1) T7.out.size));have YS:Y (w3.heap.size<w4.heap.size):=by
      have h1:=Kk.out.2.2.2.1;have h2:=ZX.out;show w3.heap.size<w4.heap.size;omega
     have YA:Y (At w4 wr w4.heap.size #[J O xa,J O xd,Z yo nx yc] 60):=((Y0.out wD K8.out).only qi.out (fun h=>absurd (Nat.lt_trans h.2 YS.out) (Nat.lt_irrefl _))).only Q4.out (fun h=>absurd (Nat.lt_of_lt_of_le h.2 (Nat.le_trans Kk.out.2.1 (Nat.le_trans Kk.out.2.2.1 (Nat.le_of_lt YS.out)))) (Nat.lt_irrefl _));have YR:Y (De.OwR wx.heap.size wr yo nx yc R1 V1):=HY.out.stay fun g h1 h2=>by
      have q1:=Kk.out;have q2:=ZX.out;exact((Q4.out.block g (by have:=qi.out.size;omega) za).trans (qi.out.block g za za)).trans (Xl.out.block g h2)
     clear GU Q0 hi hlt Nd;have pq:=LP.out wr Q5.out;have s0:=pq.cz 0;have s1:=pq.cz 1;have s2:=pq.cz 2;have s3:=pq.cz 3;clear pq;go_wp2_with fail
     clear s0 s1 s2 s3;refine(TO.out wr ao b8 A' C' (Ii.out wr Q5.out)).mono ?_;rintro e w9 ⟨zo,zc,rfl,hz,hb⟩;obtain⟨wz,zF⟩:=fd (w9.alloc (t #[J O xa,J O xd,Z zo nx zc] 60))
     have bz:=jt zF
     have Z0:=am (ah (X _ _) zF);have ZR:=am (De.Rec.below (De.OwR.rec hz) bz);have Q6:=am (ap hb bz);have zr:=am (ap Q5.out Q6.out);have Jg:=De.Same_any wz xa xd zo nx zc yo yc R1 V1 ZR.out.rd (De.Rec.below (De.OwR.rec YR.out) Q6.out).rd C6.out;have dq:=Z0.out;have f0:=dq.cz 0;have f1:=dq.cz 1;have f2:=dq.cz 2;clear dq;have dq:=YA.out.below Q6.out;have g0:=dq.cz 0;have g1:=dq.cz 1;have g2:=dq.cz 2;clear dq hz hb bz;rw [zF] at f0 f1 f2 g0 g1 g2;go_wp2_with fail
     rw [<- zF];clear zF f0 f1 f2 g0 g1 g2;refine Jg.mono ?_;rintro e we ⟨rfl,hb⟩;have A7:=am (ap zr.out hb);clear hb Jg;have Nc:=gw we ao ro rn b8 rc A' A L C' C F F (Ii.out _ A7.out) (Na.out _ A7.out) (by have:=HN.out;omega) (fun _ _ _ _=>rfl);go_wp2_with fail
     refine Nc.mono ?_;rintro e wf ⟨rfl,hb⟩;have zI:=am (ap Xj.out (ap A7.out hb));clear hb Nc;go_wp2_with fail
     go_ret;exact⟨rfl,zI.out⟩
end Go.Proofs.YtemlojjkokooeaaGreat
namespace Go.Proofs.YtemlojjkokooeaaGreat.Cn
def dl (p:Nat->Bool):Nat->List Int
  | 0=>[]
  | n+1=>if p n=true then dl p n ++ [(n:Int)] else dl p n
theorem vZ{p q:Nat->Bool}:∀ {n:Nat},(∀ i,i<n->p i=q i)->dl p n=dl q n
 | 0,_=>rfl
 | n+1,h=>by rw [dl,dl,vZ (n:=n) (fun i hi=>h i za),h n za]
theorem mem_dl{p:Nat->Bool}{x:Int}:∀ {n:Nat},x ∈ dl p n ↔ ∃ i:Nat,i<n/\p i=true/\x=(i:Int)
 | 0=>⟨fun h=>absurd h (by simp [dl]),fun⟨i,h,_⟩=>absurd h za⟩
 | n+1=>by
  rw [dl];by_cases h:p n=true
  ·rw [zk h,List.mem_append,mem_dl (n:=n)];constructor
   ·rintro(⟨i,h1,h2,h3⟩ | h1)
    ·exact⟨i,za,h2,h3⟩
    ·exact⟨n,za,h,by simpa using h1⟩
   ·rintro⟨i,h1,h2,h3⟩;by_cases e:i=n
    ·exact .inr (by rw [h3,e];simp)
    ·exact .inl ⟨i,za,h2,h3⟩
  ·rw [zl h,mem_dl (n:=n)];constructor
   ·rintro⟨i,h1,h2,h3⟩;exact⟨i,za,h2,h3⟩
   ·rintro⟨i,h1,h2,h3⟩;by_cases e:i=n
    ·rw [e] at h2;exact absurd h2 h
    ·exact⟨i,za,h2,h3⟩
theorem sQ(p:Nat->Bool):∀ n:Nat,(dl p n).length+(dl (fun i=>!p i) n).length=n
 | 0=>rfl
 | n+1=>by
  have:=sQ p n;rw [dl,dl];cases h:p n
  ·simp;omega
  ·simp;omega
theorem Eo(p:Nat->Bool)(n:Nat):(dl p n).length<=n:=by have:=sQ p n;omega
def hbv (P Q:Nat->Int) (v:Int) (d:Nat):Bool:=decide (P d=v\/Q d=v)
def dv (P Q:Nat->Int) (n:Nat) (v:Int):List Int:=dl (hbv P Q v) n
def ct (P Q:Nat->Int) (n:Nat) (v:Int):Nat:=(dv P Q n v).length
def gO (x:Int):List Int->List Int
  | []=>[x]
  | y :: l=>if y<x then x :: y :: l else if x=y then y :: l else y :: gO x l
theorem mem_insD{x z:Int}:∀ {l:List Int},z ∈ gO x l ↔ z=x\/z ∈ l
 | []=>by simp [gO]
 | y :: l=>by
  rw [gO];by_cases h:y<x
  ·rw [zk h];simp
  ·rw [zl h];by_cases e:x=y
   ·rw [zk e];simp [e]
   ·rw [zl e,List.mem_cons,mem_insD (l:=l),List.mem_cons];constructor
    ·rintro(h1 | h1 | h1);exact .inr (.inl h1);exact .inl h1;exact .inr (.inr h1)
    ·rintro(h1 | h1 | h1);exact .inr (.inl h1);exact .inl h1;exact .inr (.inr h1)
theorem dy{x:Int}:∀ {l:List Int},l.Pairwise (fun a b=>b<a)->(gO x l).Pairwise (fun a b=>b<a)
 | [],_=>List.pairwise_singleton _ _
 | y :: l,h=>by
  rw [gO];obtain⟨h1,h2⟩:=List.pairwise_cons.1 h;by_cases g:y<x
  ·rw [zk g];refine List.pairwise_cons.2 ⟨fun a ha=>?_,h⟩;rcases List.mem_cons.1 ha with rfl | ha
   ·exact g
   ·have:=h1 a ha;omega
  ·rw [zl g];by_cases e:x=y
   ·rw [zk e];exact h
   ·rw [zl e];refine List.pairwise_cons.2 ⟨fun a ha=>?_,dy h2⟩;rcases mem_insD.1 ha with rfl | ha
    ·omega
    ·exact h1 a ha
def tvL (P Q:Nat->Int):Nat->List Int
  | 0=>[]
  | n+1 =>
    let l:=if P n=0 then tvL P Q n else gO (P n) (tvL P Q n)
    if Q n=0 then l else gO (Q n) l
theorem tvL_fall(P Q:Nat->Int):∀ n:Nat,(tvL P Q n).Pairwise (fun a b=>b<a)
 | 0=>List.Pairwise.nil
 | n+1=>by
  have ih:=tvL_fall P Q n;rw [tvL];split <;> split
  ·exact ih
  ·exact dy ih
  ·exact dy ih
  ·exact dy (dy ih)
theorem mem_tvL{P Q:Nat->Int}{v:Int}:∀ {n:Nat},v ∈ tvL P Q n ↔ v ≠ 0/\∃ d,d<n/\(P d=v\/Q d=v)
 | 0=>⟨fun h=>absurd h (by simp [tvL]),fun⟨_,d,h,_⟩=>absurd h za⟩
 | n+1=>by
  have ih:=mem_tvL (P:=P) (Q:=Q) (v:=v) (n:=n);have key:v ∈ tvL P Q (n+1) ↔ v ∈ tvL P Q n\/(v ≠ 0/\(P n=v\/Q n=v)):=by
   rw [tvL];by_cases a:P n=0 <;> by_cases b:Q n=0
   ·rw [zk b,zk a];constructor
    ·exact .inl
    ·rintro(h | ⟨h,h2 | h2⟩)
     ·exact h
     ·omega
     ·omega
   ·rw [zl b,zk a,mem_insD];constructor
    ·rintro(h | h);exact .inr ⟨za,.inr h.symm⟩;exact .inl h
    ·rintro(h | ⟨h,h2 | h2⟩)
     ·exact .inr h
     ·omega
     ·exact .inl h2.symm
   ·rw [zk b,zl a,mem_insD];constructor
    ·rintro(h | h);exact .inr ⟨za,.inl h.symm⟩;exact .inl h
    ·rintro(h | ⟨h,h2 | h2⟩)
     ·exact .inr h
     ·exact .inl h2.symm
     ·omega
   ·rw [zl b,zl a,mem_insD,mem_insD];constructor
    ·rintro(h | h | h);exact .inr ⟨za,.inr h.symm⟩;exact .inr ⟨za,.inl h.symm⟩;exact .inl h
    ·rintro(h | ⟨h,h2 | h2⟩)
     ·exact .inr (.inr h)
     ·exact .inr (.inl h2.symm)
     ·exact .inl h2.symm
  rw [key,ih];constructor
  ·rintro(⟨h,d,h1,h2⟩ | ⟨h,h2⟩)
   ·exact⟨h,d,za,h2⟩
   ·exact⟨h,n,za,h2⟩
  ·rintro⟨h,d,h1,h2⟩;by_cases e:d=n
   ·exact .inr ⟨h,by rw [<- e];exact h2⟩
   ·exact .inl ⟨h,d,za,h2⟩
theorem mem_tv{P Q:Nat->Int}{v:Int}{n:Nat}:v ∈ tvL P Q n ↔ v ≠ 0/\dv P Q n v ≠ []:=by
 rw [mem_tvL];refine and_congr_right fun _=>?_;constructor
 ·rintro⟨d,h1,h2⟩ e;have hm:((d:Nat):Int) ∈ dv P Q n v:=mem_dl.2 ⟨d,h1,zm h2,rfl⟩;rw [e] at hm;cases hm
 ·intro e;obtain⟨x,hx⟩:=List.exists_mem_of_ne_nil _ e;obtain⟨d,h1,h2,_⟩:=mem_dl.1 hx;exact⟨d,h1,of_decide_eq_true h2⟩
theorem tj:∀ {l m:List Int},l.Pairwise (fun a b=>b<a)->m.Pairwise (fun a b=>b<a)->(∀ v,v ∈ l ↔ v ∈ m)->l=m
 | [],[],_,_,_=>rfl
 | [],b :: m,_,_,h=>absurd ((h b).2 zi) zi
 | a :: l,[],_,_,h=>absurd ((h a).1 zi) zi
 | a :: l,b :: m,h1,h2,h=>by
  obtain⟨p1,p2⟩:=List.pairwise_cons.1 h1;obtain⟨q1,q2⟩:=List.pairwise_cons.1 h2;have e:a=b:=by
   rcases List.mem_cons.1 ((h a).1 zi) with e | e
   ·exact e
   ·rcases List.mem_cons.1 ((h b).2 zi) with e2 | e2
    ·exact e2.symm
    ·have:=q1 a e;have:=p1 b e2;omega
  subst e;rw [tj p2 q2 (fun v=>?_)];constructor
  ·intro hv;rcases List.mem_cons.1 ((h v).1 (List.mem_cons_of_mem _ hv)) with e | e
   ·have:=p1 v hv;omega
   ·exact e
  ·intro hv;rcases List.mem_cons.1 ((h v).2 (List.mem_cons_of_mem _ hv)) with e | e
   ·have:=q1 v hv;omega
   ·exact e
theorem mN(P Q:Nat->Int):∀ n:Nat,(tvL P Q n).length<=2*n:=by
 have hi:∀(x:Int) (l:List Int),(gO x l).length<=l.length+1:=by
  intro x l;induction l with
  | nil=>simp [gO]
  | cons y l ih =>
   rw [gO];split
   ·simp
   ·split
    ·simp
    ·simp;omega
 intro n;induction n with
 | zero=>simp [tvL]
 | succ n ih =>
  rw [tvL];have h1:=hi (P n) (tvL P Q n);split <;> split
  ·omega
  ·omega
  ·have h2:=hi (Q n) (tvL P Q n);omega
  ·have h2:=hi (Q n) (gO (P n) (tvL P Q n));omega
def enB (K:Int) (P Q:Nat->Int) (n:Nat) (v:Int):Bool:=decide (K<=(ct P Q n v:Int))
def wins (K:Int) (P Q:Nat->Int) (n:Nat):List Int:=(tvL P Q n).filter (enB K P Q n)
def lost (K:Int) (P Q:Nat->Int) (n:Nat):List Int:=(tvL P Q n).takeWhile (fun v=>!enB K P Q n v)
end Go.Proofs.YtemlojjkokooeaaGreat.Cn
