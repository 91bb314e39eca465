import Derived.Test.YtemlojjkokooeaaGreatTm50
open Go.Value renaming int->J,slice->Y,agg->T,tuple->p
open Go.IntKind renaming i64->O
open Option renaming none->I,some->P
open Go.RowKit renaming Below->Q,Hid->H
open Nat renaming le_succ->Z
open Go.Proofs.Tryz renaming prog->U
open Go.Ending renaming returned->S
open Go renaming Calls->z,World->d,Addr->ja
open Go.Obj renaming cells->l
open Bool renaming false->s
set_option maxHeartbeats 16000000
set_option maxRecDepth 100000
namespace Go.Proofs.YtemlojjkokooeaaGreat.De
open Go.RowKit
theorem lJ{k r c q:Int}{N W:Nat}{y:Int}(h:Par k r c q N W y)(w:d)(bo:Option ja)(m bc:Nat)(E:Int)(hE:(if y=0 then (if m=W then (0:Int) else 20) else y)=E)(f9:E ≠ 0)(A D:Int)(t:Nat)(R V:Nat->Int):
  z U 107 #[Pz k r c q,Y bo m bc] w (AnsD w E A D t R V):=by
 have HM:=fun v=>eP k r c q v;rw [h.may] at HM;unfold AnsD;rw [ed f9,lenI_not f9,lenI_not f9];obtain⟨w0,bi⟩:=jM w k r c q
 obtain⟨w1,ci⟩:=fd (w0.alloc (l #[J O 0,J O 0,Y I 0 0] 60))
 have b0:=jt bi
 have b1:=jt ci
 have z0:=ks bi
 have xK:H (w1.heap.size=w.heap.size+2):=by show _=_;rw [ci];simp [z0]
 have HP:H (∀ u,b7 w1 u->(u.cell? ⟨w.heap.size,0,I⟩=P (J O k)/\u.cell? ⟨w.heap.size,1,I⟩=P (J O r)/\u.cell? ⟨w.heap.size,2,I⟩=P (J O c)/\u.cell? ⟨w.heap.size,3,I⟩=P (J O q))/\(u.cell? ⟨w.heap.size+1,0,I⟩=P (J O 0)/\u.cell? ⟨w.heap.size+1,1,I⟩=P (J O 0)/\u.cell? ⟨w.heap.size+1,2,I⟩=P (Y I 0 0))/\∀ i,u.frozen? ⟨w.heap.size+1,i,I⟩=s):=fun u hu=>⟨ak bi (ap b1 hu),by rw [<- z0];exact⟨⟨ae ci hu 0 rfl,ae ci hu 1 rfl,ae ci hu 2 rfl⟩,aI ci hu⟩⟩
 have io:=am (ap b0 b1);rcases h.err with rfl | rfl
 ·rw [zk rfl] at hE;by_cases hm:m=W
  ·rw [zk hm] at hE;exact absurd hE.symm f9
  ·rw [zl hm] at hE;subst hE;obtain⟨qC,_⟩:=h.fine;obtain⟨f1,_⟩:=h.good qC;have HW:=fun v=>ij k r c q v;rw [f1] at HW;rw [zm rfl] at HM;have A5:((m:Int) != (W:Int))=true:=by simpa using (by omega:¬ (m:Int)=(W:Int))
   clear h hm f9 qC f1;go_enter Tryz.func107,Tryz.ntmps107
   go_wp2_with fail
   rw [<- bi,<- ci];clear bi ci z0 b0 b1;refine(HM _).mono ?_;rintro e wa ⟨rfl,ha⟩;have HA:=am ha;clear ha;obtain⟨⟨p0,p1,p2,p3⟩,⟨t0,t1,t2⟩,f⟩:=HP.out _ HA.out;go_wp2_with fail
   refine(HW _).mono ?_;rintro e wb ⟨rfl,hb⟩;have jZ:=am (ap HA.out hb);clear hb p0 p1 p2 p3 t0 t1 t2 f;obtain⟨⟨p0,p1,p2,p3⟩,⟨t0,t1,t2⟩,f⟩:=HP.out _ jZ.out;go_wp2_with fail
   refine bodyPost_ret (v:=p #[T #[J O 0,J O 0,Y I 0 0],J O 20]) (by simp [results,Tryz.results107,go_sem,t0,t1,t2]) rfl ⟨I,0,rfl,owr_nil _ _ _ _,?_⟩;have hB:=ap io.out jZ.out;exact((hB.setCell (Z _) _).setCell (Z _) _).setCell (Z _) _
 ·rw [zl zb] at hE;subst hE;rw [zp zb] at HM;clear h f9;go_enter Tryz.func107,Tryz.ntmps107
  go_wp2_with fail
  rw [<- bi,<- ci];clear bi ci z0 b0 b1;refine(HM _).mono ?_;rintro e wa ⟨rfl,ha⟩;have HA:=am ha;clear ha;obtain⟨⟨p0,p1,p2,p3⟩,⟨t0,t1,t2⟩,f⟩:=HP.out _ HA.out;go_wp2_with fail
  refine bodyPost_ret (v:=p #[T #[J O 0,J O 0,Y I 0 0],J O 2]) (by simp [results,Tryz.results107,go_sem,t0,t1,t2]) rfl ⟨I,0,rfl,owr_nil _ _ _ _,?_⟩;have hB:=ap io.out HA.out;exact((hB.setCell (Z _) _).setCell (Z _) _).setCell (Z _) _
theorem uB{k r c q:Int}{N W:Nat}(h:Par k r c q N W 0)(w:d)(bo:Option ja)(bc:Nat)(F:Nat->UInt8)(hB:Bec w bo W bc F)(E:Int)(hE:(if isD W q F=true then (0:Int) else 150)=E):
  z U 107 #[Pz k r c q,Y bo W bc] w (AnsD w E ((nm F 0 4:Nat):Int) ((nm F 4 1:Nat):Int) (nm F 5 2) (rdR F 7) (rdV F 7)):=by
 obtain⟨qC,UI,yY,hq⟩:=h.fine;obtain⟨f1,f2,f3,_,O5⟩:=h.good qC;clear O5;have HM:=fun v=>eP k r c q v;rw [h.may,zm rfl] at HM;have HW:=fun v=>ij k r c q v;rw [f1] at HW;have HD:=fun v=>pO k r c q v W f1 f2 f3;have A5:((W:Int) != (W:Int))=s:=zi
 have qv:=hB.room;have A7:=am hB;obtain⟨A,hA⟩:=km (nm F 0 4)
 obtain⟨D,hD⟩:∃ A,nm F 4 1=A:=⟨_,rfl⟩
 obtain⟨M,FL⟩:∃ A,nm F 5 2=A:=⟨_,rfl⟩
 have XJ:=am hA;have KM:=am hD;have R6:=am FL;have lA:A<4294967296:=by rw [<- hA];exact gj F 0 4
 have lD:D<256:=by rw [<- hD];exact gj F 4 1
 have lM:M<65536:=by rw [<- FL];exact gj F 5 2
 have Qw:H (dir W<M->E=150):=fun hg=>by rw [<- hE,zl];intro hd;have:=(okD_few UI (isD_true hd).1).1;rw [FL] at this;omega
 obtain⟨RR,Ll⟩:∃ X,rdR F 7=X:=⟨_,rfl⟩
 obtain⟨VV,Lm⟩:∃ X,rdV F 7=X:=⟨_,rfl⟩
 have Iw:H (∀ i,rdR (fun j=>F (7+j)) 0 i=RR i/\rdV (fun j=>F (7+j)) 0 i=VV i):=fun i=>by
  rw [<- Ll,<- Lm];unfold rdR rdV;rw [bY,bY,Nat.zero_add,Nat.add_assoc];exact⟨rfl,rfl⟩
 have Qa:H (okD W q (A:Int) (D:Int) M RR VV=s->E=150):=fun hk=>by rw [<- hE,zl];intro hd;have:=(isD_true hd).1;rw [hA,hD,FL,Ll,Lm,hk] at this;cases this
 have JV:H (okD W q (A:Int) (D:Int) M RR VV=true->((∀ j,j<W->7+6*M<=j->F j=0)->E=0)/\((¬ ∀ j,j<W->7+6*M<=j->F j=0)->E=150)):=fun hk=>by
  rw [<- hE];constructor
  ·intro hz;rw [zk];exact zm (by rw [hA,hD,FL,Ll,Lm];exact⟨hk,hz⟩)
  ·intro hz;rw [zl];intro hd;have:=(isD_true hd).2;rw [FL] at this;exact hz this
 have XK:H (∀ j,deB (A:Int) (D:Int) M RR VV j=if j<7+6*M then F j else 0):=fun j=>by
  have:=Er F j;rw [hA,hD,FL,Ll,Lm] at this;exact this
 have EO:=dX UI;have Lu:=dP yY;unfold AnsD;rw [hA,hD,FL,Ll,Lm];clear hB hA hD FL Ll Lm hE;generalize dir W=dd at *
 obtain⟨w0,bi⟩:=jM w k r c q
 obtain⟨w1,ci⟩:=fd (w0.alloc (l #[J O 0,J O 0,Y I 0 0] 60))
 have b0:=jt bi
 have b1:=jt ci
 have z0:=ks bi
 have xK:H (w1.heap.size=w.heap.size+2):=by show _=_;rw [ci];simp [z0]
 have HP:H (∀ u,b7 w1 u->(u.cell? ⟨w.heap.size,0,I⟩=P (J O k)/\u.cell? ⟨w.heap.size,1,I⟩=P (J O r)/\u.cell? ⟨w.heap.size,2,I⟩=P (J O c)/\u.cell? ⟨w.heap.size,3,I⟩=P (J O q))/\(u.cell? ⟨w.heap.size+1,0,I⟩=P (J O 0)/\u.cell? ⟨w.heap.size+1,1,I⟩=P (J O 0)/\u.cell? ⟨w.heap.size+1,2,I⟩=P (Y I 0 0))/\∀ i,u.frozen? ⟨w.heap.size+1,i,I⟩=s):=fun u hu=>⟨ak bi (ap b1 hu),by rw [<- z0];exact⟨⟨ae ci hu 0 rfl,ae ci hu 1 rfl,ae ci hu 2 rfl⟩,aI ci hu⟩⟩
 have io:=am (ap b0 b1);go_enter Tryz.func107,Tryz.ntmps107
 go_wp2_with fail
 rw [<- bi,<- ci];clear bi ci z0 b0 b1;refine(HM _).mono ?_;rintro e wa ⟨rfl,ha⟩;have HA:=am ha;clear ha;obtain⟨⟨p0,p1,p2,p3⟩,⟨t0,t1,t2⟩,f⟩:=HP.out _ HA.out;go_wp2_with fail
 refine(HW _).mono ?_;rintro e wb ⟨rfl,hb⟩;have jZ:=am (ap HA.out hb);clear hb p0 p1 p2 p3 t0 t1 t2 f;obtain⟨⟨p0,p1,p2,p3⟩,⟨t0,t1,t2⟩,f⟩:=HP.out _ jZ.out;obtain⟨b,off,rfl,hc⟩:=(A7.out.below (ap io.out jZ.out)).rd za;have c4:=hc 4 za;have i4:(4:Int)<(W:Int):=za;have n4:4<W:=za;have n5:¬ W<=4:=za;have wD:IntKind.i64.wrap (D:Int)=(D:Int):=by rw [IntKind.wrap_i64];omega
 have i5:(4:Int)<=(bc:Int):=za;have E7:H (∀ v,b7 wb v->z U 174 #[Y (P ⟨b,off,I⟩) 4 bc] v fun e w'=>e=S (J O (A:Int))/\w'=v):=fun v hv=>by
  have:=eG v (P ⟨b,off,I⟩) 4 bc F (fun _=>⟨b,off,rfl,fun j hj=>held (hc j za) hv⟩) za;rw [XJ.out] at this;exact this
 have F4:H (∀ v,b7 wb v->z U 174 #[Y (P ⟨b,off+5,I⟩) 2 (bc-5)] v fun e w'=>e=S (J O (M:Int))/\w'=v):=fun v hv=>by
  have:=eG v (P ⟨b,off+5,I⟩) 2 (bc-5) (fun j=>F (5+j)) (fun _=>⟨b,off+5,rfl,fun j hj=>by rw [Nat.add_assoc];exact held (hc (5+j) za) hv⟩) za;rw [show nm (fun j=>F (5+j)) 0 2=nm F 5 2 from bY F 5 0 2,R6.out] at this;exact this
 have N9:(((F 4).toNat:Nat):Int)=(D:Int):=by rw [<- KM.out,nm,nm,Nat.zero_mul,Nat.zero_add,Nat.add_zero]
 rw [N9] at c4;have C4:=fun o=>held c4 (bal wb o);clear hc N9;go_wp2_with fail
 go_region_held3 (fun v=>v.cell? ⟨b,off+4,I⟩=P (J .u8 (D:Int))) (go_keep)
  ((go_at_call 174;refine(E7.out _ (by first | exact bdw _ _ | exact ap (bal _ _) (bdw _ _) | exact ap (bdw _ _) (bal _ _))).mono ?_;rintro e w' ⟨rfl,g8⟩;obtain rfl:=g8.symm))
 all_goals (
  obtain⟨wy,yf⟩:=fd (wb.alloc (l #[J O (A:Int),J O (D:Int),Y I 0 0] 60))
  have Ry:=jt yf
  have Fy:H (∀ v,b7 wy v->(v.cell? ⟨wb.heap.size,0,I⟩=P (J O (A:Int))/\v.cell? ⟨wb.heap.size,1,I⟩=P (J O (D:Int))/\v.cell? ⟨wb.heap.size,2,I⟩=P (Y I 0 0))/\∀ i,v.frozen? ⟨wb.heap.size,i,I⟩=s):=fun v hv=>⟨⟨ae yf hv 0 rfl,ae yf hv 1 rfl,ae yf hv 2 rfl⟩,aI yf hv⟩
  have Od:H (wy.heap.size=wb.heap.size+1):=by show _=_;rw [yf];simp
  rw [<- yf];clear yf;obtain⟨wx,yu⟩:=fd (wy.drew)
  have O6:b7 wy wx:=by rw [yu];exact bdw _ _
  have UJ:=am O6;have Jo:=am (ap jZ.out (ap Ry O6));have Qh:=am (ap Ry O6);rw [<- yu];clear yu Ry O6 c4 C4 p0 p1 p2 p3 t0 t1 t2 f;have j1:(7:Int)<=(bc:Int):=za;have j2:(5:Int)<=(bc:Int):=za;have j3:¬ bc=5:=za;have j4:¬ bc=7:=za;have j5:(7:Int)<=(W:Int):=za;obtain⟨⟨p0,p1,p2,p3⟩,⟨t0,t1,t2⟩,f⟩:=HP.out _ Jo.out;go_wp2_with fail
  refine(F4.out _ Qh.out).mono ?_;rintro e w' ⟨rfl,g8⟩;obtain rfl:=g8.symm;go_wp2_with fail
  refine(HD _).mono ?_;rintro e wd ⟨rfl,hd⟩;have UK:=am hd;have Km:=am (ap Jo.out hd);clear hd p0 p1 p2 p3 t0 t1 t2 f;obtain⟨⟨p0,p1,p2,p3⟩,⟨t0,t1,t2⟩,f⟩:=HP.out _ Km.out;by_cases hgt:dd<M
  ·have g1:decide ((dd:Int)<(M:Int))=true:=zm za;have FV:=am (Qw.out hgt);have La:(dd:Int)<(M:Int):=za;go_wp2_with fail
   refine bodyPost_ret (v:=p #[T #[J O 0,J O 0,Y I 0 0],J O 150]) (by simp [results,Tryz.results107,go_sem,t0,t1,t2]) rfl ⟨I,0,by rw [FV.out];rfl,by rw [FV.out];exact owr_nil _ _ _ _,?_⟩;have hB:=ap io.out Km.out;exact((hB.setCell (Z _) _).setCell (Z _) _).setCell (Z _) _
  ·have g1:decide ((dd:Int)<(M:Int))=s:=zp za;have YU:M<=dd:=za;have La:¬ (dd:Int)<(M:Int):=za;have Lt:=fi (k:=7) (A7.out.below (ap io.out Km.out)) za;go_wp2_with fail
   refine(gU wd _ (W-7) (bc-7) M _ Lt za za).mono ?_;rintro e we ⟨uo,uc,rfl,zY,he⟩;have zR:=am (zY.congr fun i _=>Iw.out i);obtain⟨⟨x0,x1,x2⟩,xf⟩:=Fy.out we (ap (ap UJ.out UK.out) he);have Rz:=am he;have G5:H (wb.heap.size+1<=wd.heap.size/\w1.heap.size<=wb.heap.size):=⟨by have h1:=Od.out;have h2:=(ap UJ.out UK.out).size;show _<=_;omega,jZ.out.size⟩
   obtain⟨wf,xL⟩:=fd (we.setCell ⟨wb.heap.size,2,I⟩ (Y uo M uc))
   have RA:H (wf.cell? ⟨wb.heap.size,0,I⟩=P (J O (A:Int))/\wf.cell? ⟨wb.heap.size,1,I⟩=P (J O (D:Int))/\wf.cell? ⟨wb.heap.size,2,I⟩=P (Y uo M uc)):=by
    rw [xL];exact⟨(World.cell?_setCell_other we _ _ _ (by intro e;cases e)).trans x0,(World.cell?_setCell_other we _ _ _ (by intro e;cases e)).trans x1,World.cell?_setCell_same we _ _ x2⟩
   have A6:H (OwR wd.heap.size wf uo M uc RR VV):=by
    refine zR.out.stay fun t ht _=>?_;rw [xL];exact heap_setCell_other _ _ _ _ (by have:=G5.out.1;show t ≠ wb.heap.size;omega)
   have Hm:H (b7 w1 wf):=by
    rw [xL];exact(ap Km.out Rz.out).setCell G5.out.2 _
   have HS:H (∀ v,b7 wf v->(v.cell? ⟨w.heap.size,0,I⟩=P (J O k)/\v.cell? ⟨w.heap.size,1,I⟩=P (J O r)/\v.cell? ⟨w.heap.size,2,I⟩=P (J O c)/\v.cell? ⟨w.heap.size,3,I⟩=P (J O q))/\(v.cell? ⟨wb.heap.size,0,I⟩=P (J O (A:Int))/\v.cell? ⟨wb.heap.size,1,I⟩=P (J O (D:Int))/\v.cell? ⟨wb.heap.size,2,I⟩=P (Y uo M uc))/\(convert 36 9 (Y (P ⟨b,off,I⟩) W bc)).run U v=.ok (.string (sOf (lsF W F))) v):=fun v hv=>⟨(HP.out v (ap Hm.out hv)).1,⟨held RA.out.1 hv,held RA.out.2.1 hv,held RA.out.2.2 hv⟩,bm (A7.out.below (ap io.out (ap Hm.out hv)))⟩
   clear zY he Lt p0 p1 p2 p3 t0 t1 t2 f;go_wp2_with fail
   rw [<- xL];clear xL x0 x1 x2 xf zR Fy;have n7:∀ v,b7 wf v->(v.cell? ⟨w.heap.size,0,I⟩=P (J O k)/\v.cell? ⟨w.heap.size,1,I⟩=P (J O r)/\v.cell? ⟨w.heap.size,2,I⟩=P (J O c)/\v.cell? ⟨w.heap.size,3,I⟩=P (J O q)/\v.cell? ⟨wb.heap.size,0,I⟩=P (J O (A:Int))/\v.cell? ⟨wb.heap.size,1,I⟩=P (J O (D:Int))/\v.cell? ⟨wb.heap.size,2,I⟩=P (Y uo M uc)/\(convert 36 9 (Y (P ⟨b,off,I⟩) W bc)).run U v=.ok (.string (sOf (lsF W F))) v):=fun v hv=>by
    obtain⟨⟨a1,a2,a3,a4⟩,⟨a5,a6,a7⟩,a8⟩:=HS.out v hv;exact⟨a1,a2,a3,a4,a5,a6,a7,a8⟩
   have Kv:=fun v (hv:b7 wf v)=>nO h v (A:Int) (D:Int) uo M uc RR VV (A6.out.rec.rd.below hv);obtain⟨ok,hok⟩:=km (okD W q (A:Int) (D:Int) M RR VV)
   rw [hok] at Kv;cases ok
   ·have FV:=am (Qa.out hok);clear hok;refine wp_region_noPanic (pr_no wf k r c q (A:Int) (D:Int) w.heap.size wb.heap.size W bc M uo (P ⟨b,off,I⟩) uc (sOf (lsF W F)) n7 Kv _ (fun _ _ _ h=>h) (fun wg hg=>NoPanic.normal ?_));have xZ:=am (ap Hm.out hg);clear hg n7 Kv;obtain⟨_,⟨t0,t1,t2⟩,f⟩:=HP.out _ xZ.out;go_wp2_with fail
    refine bodyPost_ret (v:=p #[T #[J O 0,J O 0,Y I 0 0],J O 150]) (by simp [results,Tryz.results107,go_sem,t0,t1,t2]) rfl ⟨I,0,by rw [FV.out];rfl,by rw [FV.out];exact owr_nil _ _ _ _,?_⟩;have hB:=ap io.out xZ.out;exact((hB.setCell (Z _) _).setCell (Z _) _).setCell (Z _) _
   ·have RB:=fun v (hv:b7 wf v)=>mj h v (A:Int) (D:Int) uo M uc RR VV (A6.out.rec.rd.below hv) hok;obtain⟨GG,RC⟩:∃ G,deB (A:Int) (D:Int) M RR VV=G:=⟨_,rfl⟩
    rw [RC] at RB;have IW:H (∀ j,j<W->GG j=if j<7+6*M then F j else 0):=fun j _=>by rw [<- RC];exact XK.out j
    have O7:=JV.out hok;have Ir:=fun v hv=>(RB v hv).mono (R':=fun e w'=>∃ g2,e=S (Y (P ⟨g2,0,I⟩) W W)/\(convert 36 9 (Y (P ⟨g2,0,I⟩) W W)).run U w'=.ok (.string (sOf (lsF W GG))) w'/\b7 v w') (by rintro e w' ⟨g2,h1,h2,h3,h4⟩;exact⟨g2,h1,bm h2.bec,h4⟩);clear hok RC RB;by_cases his:∀ j,j<W->7+6*M<=j->F j=0
    ·have kT:E=0:=O7.1 his;have L5:lsF W GG=lsF W F:=lsF_eq.2 ⟨rfl,fun j hj=>by
      rw [IW.out j hj];split
      ·rfl
      ·exact(his j hj za).symm⟩
     have G0:(sOf (lsF W GG)).toList=(sOf (lsF W F)).toList:=by rw [L5]
     clear his O7 L5;refine wp_region_noPanic (pr_eq wf k r c q (A:Int) (D:Int) w.heap.size wb.heap.size W bc M uo (P ⟨b,off,I⟩) uc (sOf (lsF W F)) (sOf (lsF W GG)) G0 n7 Kv Ir _ (fun _ _ _ h=>h) (fun wg g2 hg=>NoPanic.normal ?_));have xZ:=am (ap Hm.out hg);have Pf:=am (A6.out.below hg);obtain⟨_,_,_,_,x0,x1,x2,_⟩:=n7 wg hg;clear hg n7 Kv Ir G0;obtain⟨_,⟨t0,t1,t2⟩,f⟩:=HP.out _ xZ.out;have B3:H (∀ t,wd.heap.size<=t->t ≠ w.heap.size+1):=fun t ht e=>by have h1:=G5.out;have h2:=xK.out;omega
     have EB:H (w.heap.size<=wd.heap.size):=by have h1:=G5.out;have h2:=xK.out;show _<=_;omega
     subst kT;go_wp2_with fail
     refine bodyPost_ret (v:=p #[T #[J O (A:Int),J O (D:Int),Y uo M uc],J O 0]) (by simp [results,Tryz.results107,go_sem,t0,t1,t2]) rfl ⟨uo,uc,by rw [aQ,lenI_zero,lenI_zero],by rw [aQ];refine OwR.mono (Pf.out.stay fun t ht _=>?_) EB.out;have f9:=B3.out t ht;exact(heap_setCell_other _ _ _ _ f9).trans ((heap_setCell_other _ _ _ _ f9).trans (heap_setCell_other _ _ _ _ f9)),?_⟩;have hB:=ap io.out xZ.out;exact((hB.setCell (Z _) _).setCell (Z _) _).setCell (Z _) _
    ·have FV:=am (O7.2 his);have G0:¬ (sOf (lsF W GG)).toList=(sOf (lsF W F)).toList:=fun e=>by
      rw [fp,fp] at e;refine his fun j hj hl=>?_;have h1:=(lsF_eq.1 e).2 j hj;rw [IW.out j hj,zl za] at h1;exact h1.symm
     clear his O7;refine wp_region_noPanic (uW wf k r c q (A:Int) (D:Int) w.heap.size wb.heap.size W bc M uo (P ⟨b,off,I⟩) uc (sOf (lsF W F)) (sOf (lsF W GG)) G0 n7 Kv Ir _ (fun _ _ _ h=>h) (fun wg g2 hg=>NoPanic.normal ?_));have xZ:=am (ap Hm.out hg);clear hg n7 Kv Ir G0;obtain⟨_,⟨t0,t1,t2⟩,f⟩:=HP.out _ xZ.out;go_wp2_with fail
     refine bodyPost_ret (v:=p #[T #[J O 0,J O 0,Y I 0 0],J O 150]) (by simp [results,Tryz.results107,go_sem,t0,t1,t2]) rfl ⟨I,0,by rw [FV.out];rfl,by rw [FV.out];exact owr_nil _ _ _ _,?_⟩;have hB:=ap io.out xZ.out;exact((hB.setCell (Z _) _).setCell (Z _) _).setCell (Z _) _
     )
theorem RParse_any{k r c q:Int}{N W:Nat}{y:Int}(h:Par k r c q N W y)(w:d)(bo:Option ja)(m bc:Nat)(F:Nat->UInt8)(hB:Bec w bo m bc F)(E:Int)(hE:erB y W q m F=E):
  z U 107 #[Pz k r c q,Y bo m bc] w (AnsD w E ((nm F 0 4:Nat):Int) ((nm F 4 1:Nat):Int) (nm F 5 2) (rdR F 7) (rdV F 7)):=by
 unfold erB at hE;rcases h.err with rfl | rfl
 ·rw [zk rfl] at hE;by_cases hm:m=W
  ·rw [zk hm] at hE;subst hm;exact uB h w bo bc F hB E hE
  ·rw [zl hm] at hE;exact lJ h w bo m bc E (by rw [zk rfl,zl hm];exact hE) (by rw [<- hE];decide) _ _ _ _ _
 ·rw [zl zb] at hE;exact lJ h w bo m bc E (by rw [zl zb];exact hE) (by rw [<- hE];decide) _ _ _ _ _
end Go.Proofs.YtemlojjkokooeaaGreat.De
namespace Go.Proofs.YtemlojjkokooeaaGreat
open Go.RowKit
theorem pY{k r c q:Int}(w:d)(ro:Option ja)(rn rc:Nat)(eL:Int)(f9:eL ≠ 0)(HC:H (∀ u,b7 w u->z U 101 #[Pz k r c q,Y ro rn rc] u fun e w'=>e=S (J O eL)/\b7 u w'))(A D:Int)(n:Nat)(R V:Nat->Int)(v:Int):
  z U 40 #[Pz k r c q,Y ro rn rc] w (dV w eL v A D n R V):=by
 have hz:(eL != 0)=true:=by simpa using f9
 unfold dV;rw [aZ n f9,De.lenI_not f9,De.lenI_not f9,De.lenI_not f9];clear f9;obtain⟨w0,bi⟩:=jM w k r c q
 obtain⟨w1,ci⟩:=fd (w0.alloc (l #[J O 0,J O 0,Y I 0 0] 60))
 have b0:=jt bi
 have b1:=jt ci
 have z0:=ks bi
 go_enter Tryz.func40,Tryz.ntmps40
 go_wp2_with fail
 rw [<- bi,<- ci];refine(HC.out _ (ap b0 b1)).mono ?_;rintro e wa ⟨rfl,ha⟩;have t0:=ae ci ha 0 rfl;have t1:=ae ci ha 1 rfl;have t2:=ae ci ha 2 rfl;have f:=aI ci ha;rw [z0] at t0 t1 t2 f;clear bi ci;go_wp2_with fail
 refine bodyPost_ret (v:=p #[T #[J O 0,J O 0,Y I 0 0],J O 0,J O eL]) (by simp [results,Tryz.results40,go_sem,t0,t1,t2]) rfl ⟨I,0,rfl,De.owr_nil _ _ _ _,?_⟩;exact bs (ap (ap b0 b1) ha) (Z _) _ _ _
theorem pe{k r c q:Int}(w:d)(ro:Option ja)(rn rc:Nat)(HC:H (∀ u,b7 w u->z U 101 #[Pz k r c q,Y ro rn rc] u fun e w'=>e=S (J O 0)/\b7 u w'))(rv:Int)(HN:H (∀ u,b7 w u->z U 102 #[Pz k r c q,Y ro rn rc] u fun e w'=>e=S (p #[J O 0,J O rv])/\b7 u w'))(A D:Int)(n:Nat)(R V:Nat->Int)(v:Int):
  z U 40 #[Pz k r c q,Y ro rn rc] w (dV w 5 v A D n R V):=by
 have f9:(5:Int) ≠ 0:=zb;unfold dV;rw [aZ n f9,De.lenI_not f9,De.lenI_not f9,De.lenI_not f9];obtain⟨w0,bi⟩:=jM w k r c q
 obtain⟨w1,ci⟩:=fd (w0.alloc (l #[J O 0,J O 0,Y I 0 0] 60))
 have b0:=jt bi
 have b1:=jt ci
 have z0:=ks bi
 go_enter Tryz.func40,Tryz.ntmps40
 go_wp2_with fail
 rw [<- bi,<- ci];refine(HC.out _ (ap b0 b1)).mono ?_;rintro e wy ⟨rfl,kL⟩;obtain⟨p0,p1,p2,p3⟩:=ak bi (ap b1 kL);go_wp2_with fail
 refine(HN.out _ (ap (ap b0 b1) kL)).mono ?_;rintro e wa ⟨rfl,zZ⟩;have ha:=ap kL zZ;clear p0 p1 p2 p3 kL zZ;have t0:=ae ci ha 0 rfl;have t1:=ae ci ha 1 rfl;have t2:=ae ci ha 2 rfl;have f:=aI ci ha;rw [z0] at t0 t1 t2 f;clear bi ci;go_wp2_with fail
 refine bodyPost_ret (v:=p #[T #[J O 0,J O 0,Y I 0 0],J O 0,J O 5]) (by simp [results,Tryz.results40,go_sem,t0,t1,t2]) rfl ⟨I,0,rfl,De.owr_nil _ _ _ _,?_⟩;exact bs (ap (ap b0 b1) ha) (Z _) _ _ _
theorem tJ{k r c q:Int}{W:Nat}(w:d)(ro:Option ja)(rn rc:Nat)(y e1 e2:Int)(F:Nat->UInt8)(A D:Int)(n:Nat)(R V:Nat->Int)
  (HC:H (∀ u,b7 w u->z U 101 #[Pz k r c q,Y ro rn rc] u fun e w'=>e=S (J O 0)/\b7 u w')) (rv:Int) (HN:H (∀ u,b7 w u->z U 102 #[Pz k r c q,Y ro rn rc] u fun e w'=>e=S (p #[J O y,J O rv])/\b7 u w')) (hy:(y == 0)=s)
  (HR:H (∀ u,b7 w u->z U 77 #[Pz k r c q,Y ro rn rc,J .u8 2,J O y] u (AnsB u e1 W F)))
  (HP:H (e1=0->∀ u bo bc,Bec u bo W bc F->z U 107 #[Pz k r c q,Y bo W bc] u (De.AnsD u e2 A D n R V))) (E:Int) (hE:dW e1 e2=E) :
  z U 40 #[Pz k r c q,Y ro rn rc] w (dV w E y A D n R V):=by
 unfold dW at hE;unfold dV;obtain⟨w0,bi⟩:=jM w k r c q
 obtain⟨w1,ci⟩:=fd (w0.alloc (l #[J O 0,J O 0,Y I 0 0] 60))
 have b0:=jt bi
 have b1:=jt ci
 have z0:=ks bi
 have xK:H (w1.heap.size=w.heap.size+2):=by show _=_;rw [ci];simp [z0]
 have HQ:H (∀ u,b7 w1 u->(u.cell? ⟨w.heap.size,0,I⟩=P (J O k)/\u.cell? ⟨w.heap.size,1,I⟩=P (J O r)/\u.cell? ⟨w.heap.size,2,I⟩=P (J O c)/\u.cell? ⟨w.heap.size,3,I⟩=P (J O q))/\(u.cell? ⟨w.heap.size+1,0,I⟩=P (J O 0)/\u.cell? ⟨w.heap.size+1,1,I⟩=P (J O 0)/\u.cell? ⟨w.heap.size+1,2,I⟩=P (Y I 0 0))/\∀ i,u.frozen? ⟨w.heap.size+1,i,I⟩=s):=fun u hu=>⟨ak bi (ap b1 hu),by rw [<- z0];exact⟨⟨ae ci hu 0 rfl,ae ci hu 1 rfl,ae ci hu 2 rfl⟩,aI ci hu⟩⟩
 have io:=am (ap b0 b1);by_cases h1:e1=0
 ·subst h1;rw [zk rfl] at hE;subst hE;have kp:=HP.out rfl;unfold AnsB at HR;rw [aQ] at HR;by_cases h2:e2=0
  ·subst h2;rw [aQ,De.lenI_zero,De.lenI_zero,De.lenI_zero];unfold De.AnsD at kp;rw [aQ,De.lenI_zero,De.lenI_zero] at kp;go_enter Tryz.func40,Tryz.ntmps40
   go_wp2_with fail
   rw [<- bi,<- ci];clear bi ci z0 b0 b1;refine(HC.out _ io.out).mono ?_;rintro e wy ⟨rfl,kL⟩;obtain⟨⟨s0,s1,s2,s3⟩,_⟩:=HQ.out wy kL;go_wp2_with fail
   refine(HN.out _ (ap io.out kL)).mono ?_;rintro e wa ⟨rfl,zZ⟩;have ha:=ap kL zZ;clear s0 s1 s2 s3 kL zZ;obtain⟨⟨s0,s1,s2,s3⟩,_⟩:=HQ.out wa ha;go_wp2_with fail
   refine(HR.out _ (ap io.out ha)).mono ?_;rintro e wb ⟨bo,bc,rfl,yU,hb⟩;have kK:=ap ha hb;clear s0 s1 s2 s3;obtain⟨⟨s0,s1,s2,s3⟩,_⟩:=HQ.out wb kK;have qm:=yU.bec;clear yU ha hb;go_wp2_with fail
   refine(kp _ bo bc qm).mono ?_;rintro e wc ⟨ao,cp,rfl,how,hc⟩;have qQ:=am (ap kK hc);have kR:=am how;have Rm:H (w.heap.size+2<=wb.heap.size):=by show _<=_;rw [<- xK.out];exact kK.size
   have t0:=fun o=>(HQ.out (wc.alloc o) (ap qQ.out (bal _ o))).2.1.1;have t1:=fun o=>(HQ.out (wc.alloc o) (ap qQ.out (bal _ o))).2.1.2.1;have t2:=fun o=>(HQ.out (wc.alloc o) (ap qQ.out (bal _ o))).2.1.2.2;have f:=fun o i=>(HQ.out (wc.alloc o) (ap qQ.out (bal _ o))).2.2 i;clear s0 s1 s2 s3 kK hc how qm kp HP HR HC HN;go_wp2_with fail
   refine bodyPost_ret (v:=p #[T #[J O A,J O D,Y ao n cp],J O y,J O 0]) (by simp [results,Tryz.results40,go_sem,t0,t1,t2]) rfl ⟨ao,cp,rfl,?_,?_⟩
   ·have h5:=Rm.out;refine De.OwR.mono (B:=wb.heap.size) ((kR.out.below (bal _ (l #[J O A,J O D,Y ao n cp] 60))).stay fun t ht KC=>?_) za;have f9:t ≠ w.heap.size+1:=za;rw [heap_setCell_other _ _ _ _ f9,heap_setCell_other _ _ _ _ f9,heap_setCell_other _ _ _ _ f9]
   ·exact bs (ap (ap io.out qQ.out) (bal _ _)) (Z _) _ _ _
  ·have hz:(e2 != 0)=true:=by simpa using h2
   rw [aZ n h2,De.lenI_not h2,De.lenI_not h2,De.lenI_not h2];unfold De.AnsD at kp;rw [aZ n h2,De.lenI_not h2,De.lenI_not h2] at kp;clear h2;go_enter Tryz.func40,Tryz.ntmps40
   go_wp2_with fail
   rw [<- bi,<- ci];clear bi ci z0 b0 b1;refine(HC.out _ io.out).mono ?_;rintro e wy ⟨rfl,kL⟩;obtain⟨⟨s0,s1,s2,s3⟩,_⟩:=HQ.out wy kL;go_wp2_with fail
   refine(HN.out _ (ap io.out kL)).mono ?_;rintro e wa ⟨rfl,zZ⟩;have ha:=ap kL zZ;clear s0 s1 s2 s3 kL zZ;obtain⟨⟨s0,s1,s2,s3⟩,_⟩:=HQ.out wa ha;go_wp2_with fail
   refine(HR.out _ (ap io.out ha)).mono ?_;rintro e wb ⟨bo,bc,rfl,yU,hb⟩;have kK:=ap ha hb;clear s0 s1 s2 s3;obtain⟨⟨s0,s1,s2,s3⟩,_⟩:=HQ.out wb kK;have qm:=yU.bec;clear yU ha hb;go_wp2_with fail
   refine(kp _ bo bc qm).mono ?_;rintro e wc ⟨ao,cp,rfl,_,hc⟩;have qQ:=am (ap kK hc);have t0:=fun o=>(HQ.out (wc.alloc o) (ap qQ.out (bal _ o))).2.1.1;have t1:=fun o=>(HQ.out (wc.alloc o) (ap qQ.out (bal _ o))).2.1.2.1;have t2:=fun o=>(HQ.out (wc.alloc o) (ap qQ.out (bal _ o))).2.1.2.2;have f:=fun o i=>(HQ.out (wc.alloc o) (ap qQ.out (bal _ o))).2.2 i;clear s0 s1 s2 s3 kK hc qm kp HP HR HC HN;go_wp2_with fail
   refine bodyPost_ret (v:=p #[T #[J O 0,J O 0,Y I 0 0],J O 0,J O e2]) (by simp [results,Tryz.results40,go_sem,t0,t1,t2]) rfl ⟨I,0,rfl,De.owr_nil _ _ _ _,?_⟩;exact bs (ap (ap io.out qQ.out) (bal _ _)) (Z _) _ _ _
 ·have hz:(e1 != 0)=true:=by simpa using h1
  rw [zl h1] at hE;subst hE;rw [aZ n h1,De.lenI_not h1,De.lenI_not h1,De.lenI_not h1];go_enter Tryz.func40,Tryz.ntmps40
  go_wp2_with fail
  rw [<- bi,<- ci];clear bi ci z0 b0 b1 h1;refine(HC.out _ io.out).mono ?_;rintro e wy ⟨rfl,kL⟩;obtain⟨⟨s0,s1,s2,s3⟩,_⟩:=HQ.out wy kL;go_wp2_with fail
  refine(HN.out _ (ap io.out kL)).mono ?_;rintro e wa ⟨rfl,zZ⟩;have ha:=ap kL zZ;clear s0 s1 s2 s3 kL zZ;obtain⟨⟨s0,s1,s2,s3⟩,_⟩:=HQ.out wa ha;go_wp2_with fail
  refine(HR.out _ (ap io.out ha)).mono ?_;rintro e wb ⟨bo,bc,rfl,_,hb⟩;have qQ:=am (ap ha hb);obtain⟨_,⟨t0,t1,t2⟩,f⟩:=HQ.out wb qQ.out;clear s0 s1 s2 s3 ha hb HP HR HC HN;go_wp2_with fail
  refine bodyPost_ret (v:=p #[T #[J O 0,J O 0,Y I 0 0],J O 0,J O e1]) (by simp [results,Tryz.results40,go_sem,t0,t1,t2]) rfl ⟨I,0,rfl,De.owr_nil _ _ _ _,?_⟩;exact bs (ap io.out qQ.out) (Z _) _ _ _
theorem pM{k r c q:Int}{N W:Nat}{x:Int}(h:Par k r c q N W x)(w:d)(ro:Option ja)(rn rc:Nat)(A:Nat->Option ja)(L C:Nat->Nat)(F:Nat->Nat->UInt8)(hr:Rw w ro rn A L C F)(kD:1<=k\/x ≠ 0)(E:Int)(hE:rP x W k c q N rn L F=E):
  z U 40 #[.agg #[.int .i64 k,.int .i64 r,.int .i64 c,.int .i64 q],.slice ro rn rc] w (dV w E (wnV k N c L F) ((nm (wnD k N c L F) 0 4:Nat):Int) ((nm (wnD k N c L F) 4 1:Nat):Int) (nm (wnD k N c L F) 5 2) (De.rdR (wnD k N c L F) 7) (De.rdV (wnD k N c L F) 7)):=by
 obtain⟨E0,kT⟩:=km (erR x N c rn L)
 have HC:H (∀ u,Q w.heap.size w u->z U 101 #[.agg #[.int .i64 k,.int .i64 r,.int .i64 c,.int .i64 q],.slice ro rn rc] u fun e w'=>e=.returned (.int .i64 E0)/\Q u.heap.size u w'):=fun u hu=>Cn.RCheck_any h u ro rn rc A L C F (hr.below hu) E0 kT;unfold rP at hE;by_cases e0:E0=0
 ·subst e0;obtain⟨hx,I4,hL⟩:=bW kT;subst hx;subst I4;have GZ:∀ j,j<2*rn->L j<=1000:=fun j hj=>by
   have qe:=h.le;obtain⟨c1,c2⟩:=h.cell rfl;have:sz rn c<=1000:=by unfold sz;omega
   rcases hL j hj with g | g <;> omega
  have HN:H (∀ u,Q w.heap.size w u->z U 102 #[.agg #[.int .i64 k,.int .i64 r,.int .i64 c,.int .i64 q],.slice ro rn rc] u fun e w'=>e=.returned (.tuple #[.int .i64 (wnV k rn c L F),.int .i64 (rnV k rn c L F)])/\Q u.heap.size u w'):=fun u hu=>Cn.Counts_any h u ro rc A L C F (hr.below hu) GZ _ _ rfl rfl;rw [kT] at hE;unfold fP at hE;rw [zk rfl] at hE;cases hz:wnB k rn c L F with
  | false =>
   rw [hz,zl zb,zl zb] at hE;have hy:wnV k rn c L F=0:=by
    unfold wnB at hz;have h1:¬ 0<(Cn.wins k (Cn.hP rn c L F) (Cn.hQ rn c L F) rn).length:=of_decide_eq_false hz;unfold wnV;rw [List.getD_eq_getElem?_getD,List.getElem?_eq_none za];rfl
   have UL:=HN.out;rw [hy] at UL;rw [<- hE];exact pe w ro rn rc HC _ UL _ _ _ _ _ _
  | true =>
   rw [hz,zk rfl,zk rfl] at hE;have FJ:0<(Cn.wins k (Cn.hP rn c L F) (Cn.hQ rn c L F) rn).length:=of_decide_eq_true hz;have xS:1<=k:=by
    rcases kD with a | a
    ·exact a
    ·exact absurd rfl a
   have f9:wnV k rn c L F ≠ 0:=(lh xS FJ (rfl:(Cn.wins k (Cn.hP rn c L F) (Cn.hQ rn c L F) rn).getD 0 0=wnV k rn c L F)).1;have hb:=ny k rn c L F;have jA:erK 0 rn c rn L 2 (wnV k rn c L F)=0:=by unfold erK;rw [kT,zk rfl,zk ⟨.inr rfl,za,hb.2⟩]
   rw [jA] at hE;have hW:k.toNat*c.toNat=W:=by
    rcases h with ⟨hm,hW,_⟩ | ⟨_,_,_,h0⟩
    ·obtain⟨h1,h2,h3,h4,h5,h6,h7,h8,h9⟩:=aB hm;have e1:k=(k.toNat:Int):=za;have e2:c=(c.toNat:Int):=za;rw [e1,e2,<- Int.natCast_mul] at hW;exact(Int.ofNat.inj hW).symm
    ·exact absurd h0 zb
   have HR:=fun u (hu:Q w.heap.size w u)=>uM h u ro rc A L C F (hr.below hu) hL 2 (.inr rfl) (wnV k rn c L F);rw [hW] at HR;have Fe:dW (erL k.toNat (zv rn c L F 2 (wnV k rn c L F)) rn) (De.erB 0 W q W (wnD k rn c L F))=E:=by
    rw [<- hE];unfold dW;rw [zk rfl]
   exact tJ w ro rn rc (wnV k rn c L F) (erL k.toNat (zv rn c L F 2 (wnV k rn c L F)) rn) (De.erB 0 W q W (wnD k rn c L F)) (wnD k rn c L F) _ _ _ _ _ HC _ HN (by simpa using f9) HR (fun _ u bo bc hb=>De.RParse_any h u bo W bc _ hb _ rfl) E Fe
 ·rw [kT] at hE;have f9:fP E0 (wnB k N c L F)=E0:=by unfold fP;rw [zl e0]
  rw [f9,zl e0] at hE;rw [<- hE];exact pY w ro rn rc E0 e0 HC _ _ _ _ _ _
end Go.Proofs.YtemlojjkokooeaaGreat
