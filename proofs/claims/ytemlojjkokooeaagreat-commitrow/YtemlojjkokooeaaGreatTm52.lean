import Derived.Lib.SmallJoins
import Derived.Deep.FieldsWide
import Derived.Deep.Grids
import Derived.SizedLaws
import Derived.Test.YtemlojjkokooeaaGreatTm51
open Go.Value renaming int->J,slice->I,agg->Z
open Go.IntKind renaming i64->O
open Go.Proofs.Tryz renaming prog->Q
open Option renaming none->Y,some->G
open Go.Ending renaming returned->X
open Go renaming Calls->P,Value->T,World->t,Addr->s
open Go.Obj renaming cells->S
open Bool renaming true->o
open Go.RowKit.Below renaming refl->ja
set_option maxHeartbeats 16000000
set_option maxRecDepth 100000
namespace Go.Proofs.YtemlojjkokooeaaGreat
open Go.RowKit
theorem rQ(w:t)(len gt:Int)(so:Option s)(sn sc:Nat)(b:Bool)(hb:decide (200<sn)=b):
  P Q 35 #[Z #[J O len,J O gt,I so sn sc]] w fun e w'=>e=X (.bool b)/\b7 w w':=by
 subst hb;obtain⟨w0,bi⟩:=fd (w.alloc (S #[J O len,J O gt,I so sn sc] 60))
 have b0:=jt bi
 have q2:=(ah (ja w.heap.size w) bi).cz 2;by_cases h:200<sn
 ·have h2:(200:Int)<(sn:Int):=za;rw [zm h];go_enter Tryz.func35,Tryz.ntmps35
  go_wp2_with fail
  go_ret;exact⟨rfl,bal _ _⟩
 ·have h2:¬ (200:Int)<(sn:Int):=za;rw [zp h];go_enter Tryz.func35,Tryz.ntmps35
  go_wp2_with fail
  go_ret;exact⟨rfl,bal _ _⟩
theorem rT(w:t)(len gt:Int)(so:Option s)(sn sc:Nat)(R V:Nat->Int)(hR:De.Rec w so sn sc R V)(hn:sn<=500):
  P Q 36 #[Z #[J O len,J O gt,I so sn sc]] w fun e w'=>∃ ao cp,e=X (Z #[J O len,J O gt,I ao sn cp])/\De.OwR w.heap.size w' ao sn cp R V/\b7 w w':=by
 obtain⟨w0,bi⟩:=fd (w.alloc (S #[J O len,J O gt,I so sn sc] 60))
 obtain⟨w1,ci⟩:=fd (w0.alloc (S #[J O 0,J O 0,I Y 0 0] 60))
 obtain⟨w3,n9⟩:=fd (w1.alloc (S #[J O len,J O gt,I Y 0 0] 60))
 have b0:=jt bi
 have b1:=jt ci
 have b3:=jt n9
 have z0:=ks bi
 have z1:w1.heap.size=w.heap.size+1+1:=by rw [ci];simp [z0]
 have z3:w3.heap.size=w.heap.size+1+1+1:=by rw [n9];simp [z1]
 have Kw:De.Rec w3 so sn sc R V:=hR.below (ap (ap b0 b1) b3);have xE:De.OwR (w.heap.size+1+1+1) w3 Y 0 0 (fun _=>0) (fun _=>0):=De.owr_nil _ _ _ _;have yD:=am (ap (ap b0 b1) b3);have GQ:Hid (∀ v,b7 w3 v->(v.cell? ⟨w.heap.size+1+1,0,Y⟩=G (J O len)/\v.cell? ⟨w.heap.size+1+1,1,Y⟩=G (J O gt)/\v.cell? ⟨w.heap.size+1+1,2,Y⟩=G (I Y 0 0)/\∀ i,v.frozen? ⟨w.heap.size+1+1,i,Y⟩=false)/\(v.cell? ⟨w.heap.size+1,0,Y⟩=G (J O 0)/\v.cell? ⟨w.heap.size+1,1,Y⟩=G (J O 0)/\v.cell? ⟨w.heap.size+1,2,Y⟩=G (I Y 0 0)/\∀ i,v.frozen? ⟨w.heap.size+1,i,Y⟩=false)):=fun v hv=>by
  have t0:=ae n9 hv 0 rfl;have t1:=ae n9 hv 1 rfl;have t2:=ae n9 hv 2 rfl;have f:=aI n9 hv;have u0:=ae ci (ap b3 hv) 0 rfl;have u1:=ae ci (ap b3 hv) 1 rfl;have u2:=ae ci (ap b3 hv) 2 rfl;have g:=aI ci (ap b3 hv);rw [z1] at t0 t1 t2 f;rw [z0] at u0 u1 u2 g;exact⟨⟨t0,t1,t2,f⟩,u0,u1,u2,g⟩
 have HZ:=am z3;rw [n9,ci,bi] at Kw xE;have xJ:w.heap.size+1+1+1<=(((w.alloc (S #[J O len,J O gt,I so sn sc] 60)).alloc (S #[J O 0,J O 0,I Y 0 0] 60)).alloc (S #[J O len,J O gt,I Y 0 0] 60)).heap.size:=zi;clear b0 b1 b3 z0 z1 z3 hR;go_enter Tryz.func36,Tryz.ntmps36
 go_wp2_with (first
  | (at_builtin;refine De.wpList_append_refs zg (.tmp 7) (.tmp 9) zg (w.heap.size+1+1+1) 0 sn 0 sc Y so _ _ R V zg zg xE Kw za xJ ?_;intro uo uc wa ho hg;rw [<- bi,<- ci,<- n9] at hg;have HO:Hid (De.OwR (w.heap.size+1+1+1) wa uo sn uc R V):=(by have h2:=ho;rw [Nat.zero_add] at h2;exact h2.congr fun i hi=>⟨by unfold De.apI;rw [zl za,Nat.sub_zero],by unfold De.apI;rw [zl za,Nat.sub_zero]⟩);have HB:Hid (b7 w3 wa):=(ja _ _).grown hg (Nat.le_refl _) (fun k e=>by cases e);obtain⟨⟨t0,t1,t2,f⟩,u0,u1,u2,g⟩:=GQ.out wa HB.out;clear ho hg xE Kw xJ bi ci n9;rw [Nat.zero_add])
  | fail)
 refine bodyPost_ret (v:=Z #[J O len,J O gt,I uo sn uc]) (by simp [results,Tryz.results36,go_sem,u0,u1,u2]) rfl ⟨uo,uc,rfl,?_,?_⟩
 ·refine De.OwR.mono (B:=w.heap.size+1+1+1) (HO.out.stay fun k hk G3=>?_) za;have n1:k ≠ w.heap.size+1:=za;have n2:k ≠ w.heap.size+1+1:=za;rw [heap_setCell_other _ _ _ _ n1,heap_setCell_other _ _ _ _ n1,heap_setCell_other _ _ _ _ n1,heap_setCell_other _ _ _ _ n2]
 ·exact bs ((ap yD.out HB.out).setCell (by show w.heap.size<=w.heap.size+1+1;omega) _) (Nat.le_succ _) _ _ _
open Go.Maps Go.ChangeShapes
theorem DR{k r c q:Int}{N W:Nat}{x:Int}(h:Par k r c q N W x){rn:Nat}{L:Nat->Nat}{F:Nat->Nat->UInt8}(hE:rP x W k c q N rn L F=0):nm (wnD k N c L F) 5 2<=1000:=by
 unfold rP at hE;split at hE
 ·unfold dW at hE;split at hE
  ·unfold De.erB at hE;split at hE
   ·rw [zk rfl] at hE;split at hE
    ·rename_i hd
     subst hd;split at hE
     ·rename_i hd
      obtain⟨_,hW,yY,_⟩:=h.fine;have:=(De.okD_few hW (De.isD_true hd).1).1;have:=dP yY;omega
     ·cases hE
    ·rename_i hx
     exact absurd hE hx
   ·rename_i hx
    exact absurd hE hx
  ·rename_i hx
   exact absurd hE hx
 ·rename_i hx
  exact absurd hE hx
theorem cr_law{k r c q:Int}{N W:Nat}{x:Int}(h:Par k r c q N W x)(w:t)(ro:Option s)(rn rc:Nat)(A:Nat->Option s)(L C:Nat->Nat)(F:Nat->Nat->UInt8)(hr:Rw w ro rn A L C F)(hn:rn*48<=140737488351232)(nu v len gt:Int)(so:Option s)(sn sc:Nat)(R V:Nat->Int)(hR:De.Rec w so sn sc R V)(kD:1<=k\/x ≠ 0):
  P Q 6 #[Pz k r c q,I ro rn rc,J O nu,J O v,Z #[J O len,J O gt,I so sn sc]] w fun e w'=>e=X (.bool o)/\b7 w w':=by
 have qe:=h.le;have qD:Cod.cnt (fun _=>c.toNat) N=N:=by
  rcases h with ⟨hm,_,_,rfl⟩ | ⟨_,_,rfl,_⟩
  ·obtain⟨_,_,_,_,h5,_⟩:=aB hm;exact sN (fun _=>by omega) N
  ·rfl
 obtain⟨EP,NN⟩:∃ E,tD x W k c q nu v len gt N rn L F sn R V=E:=⟨_,rfl⟩
 obtain⟨ER,RD⟩:∃ E,rP x W k c q N rn L F=E:=⟨_,rfl⟩
 obtain⟨EF,UM⟩:∃ E,vL x k c q nu N rn L F=E:=⟨_,rfl⟩
 obtain⟨PT,UN⟩:∃ PT:Int,PT=if x=0 then k else 0:=⟨_,rfl⟩
 obtain⟨Lp,op,Gp,o9,Kg,Kh⟩:∃(Lp op:Nat->Nat) (Gp:Nat->Nat->UInt8),Cod.cnt Lp N<=16/\(∀ u ao b8 A2 C2 po pc,Rw u ao rn A2 L C2 F->De.Rec u po sn pc R V->P Q 37 #[Pz k r c q,I ao rn b8,J O nu,J O v,Z #[J O len,J O gt,I po sn pc]] u (bS u EP (Cod.cnt Lp N) N Lp op nu (sz N c) Gp))/\(∀ u ao b8 A2 C2 po pc,Rw u ao rn A2 L C2 F->De.Rec u po sn pc R V->P Q 38 #[Pz k r c q,I ao rn b8,J O nu,J O v,Z #[J O len,J O gt,I po sn pc]] u (bS u EP (Cod.cnt Lp N) N Lp op nu (sz N c) Gp)):=by
  obtain⟨op,Gp,q1,q2⟩:∃(op:Nat->Nat) (Gp:Nat->Nat->UInt8),(∀ u ao b8 A2 C2 po pc,Rw u ao rn A2 L C2 F->De.Rec u po sn pc R V->P Q 37 #[Pz k r c q,I ao rn b8,J O nu,J O v,Z #[J O len,J O gt,I po sn pc]] u (bS u EP N N (fun _=>c.toNat) op nu (sz N c) Gp))/\(∀ u ao b8 A2 C2 po pc,Rw u ao rn A2 L C2 F->De.Rec u po sn pc R V->P Q 38 #[Pz k r c q,I ao rn b8,J O nu,J O v,Z #[J O len,J O gt,I po sn pc]] u (bS u EP N N (fun _=>c.toNat) op nu (sz N c) Gp)) :=
   ⟨_,_,fun u ao b8 A2 C2 po pc h1 h2=>tx h u ao rn b8 A2 L C2 F h1 nu v len gt po sn pc R V h2 EP NN,fun u ao b8 A2 C2 po pc h1 h2=>pL h u ao rn b8 A2 L C2 F h1 nu v len gt po sn pc R V h2 EP NN⟩
  refine⟨fun _=>c.toNat,op,Gp,by rw [qD];exact qe,?_,?_⟩
  ·rw [qD];exact q1
  ·rw [qD];exact q2
 obtain⟨Lf,of,Gf,OM,Ki,Kj⟩:∃(Lf of:Nat->Nat) (Gf:Nat->Nat->UInt8),Cod.cnt Lf N<=16/\(∀ u ao b8 A2 C2,Rw u ao rn A2 L C2 F->P Q 41 #[Pz k r c q,I ao rn b8,J O nu] u (bS u EF (Cod.cnt Lf N) N Lf of nu (sz N c) Gf))/\(∀ u ao b8 A2 C2,Rw u ao rn A2 L C2 F->P Q 42 #[Pz k r c q,I ao rn b8,J O nu] u (bS u EF (Cod.cnt Lf N) N Lf of nu (sz N c) Gf)) :=
  ⟨_,_,_,by have:=Cod.cnt_le (mis (zv N c L F 2 (wnV k N c L F)) c.toNat) N;omega,fun u ao b8 A2 C2 h1=>Ah h u ao rn b8 A2 L C2 F h1 nu kD EF UM,fun u ao b8 A2 C2 h1=>vk h u ao rn b8 A2 L C2 F h1 nu kD EF UM⟩
 obtain⟨xa,xd,xy,nx,R1,V1,xP,M5,M6⟩:∃(xa xd xy:Int) (nx:Nat) (R1 V1:Nat->Int),nx<=1000/\(∀ u ao b8 A2 C2,Rw u ao rn A2 L C2 F->P Q 39 #[Pz k r c q,I ao rn b8] u fun e w'=>∃ xo xc,e=X (.tuple #[Z #[J O xa,J O xd,I xo nx xc],J O xy,J O ER])/\De.OwR u.heap.size w' xo nx xc R1 V1/\b7 u w')/\(∀ u ao b8 A2 C2,Rw u ao rn A2 L C2 F->P Q 40 #[Pz k r c q,I ao rn b8] u fun e w'=>∃ xo xc,e=X (.tuple #[Z #[J O xa,J O xd,I xo nx xc],J O xy,J O ER])/\De.OwR u.heap.size w' xo nx xc R1 V1/\b7 u w') :=
  ⟨_,_,_,_,_,_,by
   unfold aK;split
   ·rename_i he
    exact DR h (RD.trans he)
   ·exact Nat.zero_le _,fun u ao b8 A2 C2 h1=>uf h u ao rn b8 A2 L C2 F h1 ER RD,fun u ao b8 A2 C2 h1=>pM h u ao rn b8 A2 L C2 F h1 kD ER RD⟩
 have M7:∀ u,P Q 43 #[Pz k r c q] u fun e w'=>e=X (.tuple #[J O PT,J O x])/\b7 u w':=fun u=>by rw [UN];exact ml h u
 have M8:∀ u,P Q 44 #[Pz k r c q] u fun e w'=>e=X (.tuple #[J O PT,J O x])/\b7 u w':=fun u=>by rw [UN];exact rr h u
 have RE:EP=0->sz N c<=1000:=fun he=>by
  have h0:x=0:=Classical.byContradiction fun hx=>by
   unfold tD at NN;rw [show erR x N c rn L=x from zl hx,zl hx] at NN;exact hx (NN.trans he)
  rcases h with ⟨hm,_,hN,_⟩ | ⟨_,_,_,hx⟩
  ·obtain⟨_,_,_,_,_,_,_,_,_⟩:=aB hm;unfold sz;omega
  ·omega
 exact Dg w ro rn rc A L C F hr hn nu v len gt so sn sc R V hR (fun u=>ox u) (fun u b hb=>rQ u len gt so sn sc b hb) (fun u hu h5=>rT u len gt so sn sc R V hu h5) N (sz N c) EP ER EF PT x Lp op Gp o9 Lf of Gf OM RE xa xd xy nx R1 V1 xP Kg Kh Ki Kj M5 M6 M7 M8
open Go.WideShapes Go.Deep Go.Joins

section
variable {H:Type} {enc:TypeId × Value->H} {w:World} {held:Bool}
theorem u8_of{z:Int}(h:(Lit.int .u8 z).wf=o):(((UInt8.ofNat z.toNat).toNat:Nat):Int)=z:=by
 have b:=bounds_u8 h;rw [UInt8.toNat_ofNat'];omega
theorem iH{yq:Nat}{v:T}{x:DataW H × List MemPlace}(h:DataW.trod enc Q w 0 (fun _=>o) held yq 36 [v]=G x):
  ∃ ao n cp F,v=I ao n cp/\Bec w ao n cp F/\cp<=9223372036854775807:=by
 rcases open_ints Tryz.underlying36 Tryz.underlying5 zh h with ⟨kY,_⟩ | ⟨a,l,cp,zs,kY,_,hl,hm,hz,_,ld,zF⟩
 ·simp at kY;exact⟨Y,0,0,fun _=>0,kY,ft _ _,zb⟩
 ·simp at kY;simp only [if_true] at hz;refine⟨G a,l,cp,fun j=>UInt8.ofNat (zs.getD j 0).toNat,kY,⟨fun hn=>?_,(fun e=>by cases e),hl⟩,by unfold maxLen at hm;omega⟩;have h0:=ld 0 za;obtain⟨b,off,spot⟩:=a;have A3:spot=Y:=by simpa [Addr.add] using World.cell?_spot h0
  subst A3;refine⟨b,off,rfl,fun j hj=>?_⟩;have kt:j<zs.length:=za;have hc:=ld j kt;rw [add_plain] at hc;rw [hc,u8_of (by rw [show zs.getD j 0=zs[j] by simp [List.getD,kt]];exact zF _ (List.getElem_mem kt))]
theorem array4{α:Type}{cs:Array α}(h:cs.size=4):∃ c0 c1 c2 c3,cs=#[c0,c1,c2,c3]:=by
 obtain⟨l⟩:=cs
 match l,h with
 | [c0,c1,c2,c3],_=>exact⟨c0,c1,c2,c3,rfl⟩
theorem la:Tryz.prog.cellsOf 3=1:=zh
theorem BU:Tryz.prog.cellsOf 23=4:=zh
theorem Cm:Tryz.prog.cellsOf 36=1:=zh
theorem open_par{r:Reach}{b0:Nat}{v:T}{d:DataW H}{p:List MemPlace}(hv:Value.okWide Q w r b0 23 v)(h:DataW.Trod enc Q w 0 (fun _=>o) held 23 v d p):
  ∃ k ro c q,v=Z #[J O k,J O ro,J O c,J O q]:=by
 obtain⟨cs,rfl,xJ⟩:=okWide_struct Tryz.underlying23 hv;obtain⟨c0,c1,c2,c3,rfl⟩:=array4 (xJ.trans BU);obtain⟨yq,hf⟩:=h;obtain⟨z0,z1,z2,z3,m,_,_,t0,t1,t2,t3⟩:=trod_struct4 Tryz.underlying23 hf;simp [Value.cells,la] at t0 t1 t2 t3;obtain⟨a0,e0,_,_⟩:=DataW.trod_int Tryz.underlying3 t0;obtain⟨a1,e1,_,_⟩:=DataW.trod_int Tryz.underlying3 t1;obtain⟨a2,e2,_,_⟩:=DataW.trod_int Tryz.underlying3 t2;obtain⟨a3,e3,_,_⟩:=DataW.trod_int Tryz.underlying3 t3;simp at e0 e1 e2 e3;subst e0 e1 e2 e3;exact⟨a0,a1,a2,a3,rfl⟩
end

section
variable {H:Type} {enc:TypeId × Value->H} {w:World} {held:Bool}
theorem CO:Tryz.prog.cellsOf 97=2:=zh
end
section
variable {H:Type} {enc:TypeId × Value->H} {w:World} {held:Bool}
theorem open_row{yq:Nat}{v:T}{x:DataW H × List MemPlace}(h:DataW.trod enc Q w 0 (fun _=>o) held yq 24 [v]=G x):
  ∃ ro n rc A L C F,v=I ro n rc/\Rw w ro n A L C F:=by
 rcases open_slice Tryz.underlying24 h with ⟨kY,hx⟩ | ⟨a,len,b8,m,n,D,Pl,kY,_,hl,hm,xu,hx,hc⟩
 ·simp at kY;exact⟨Y,0,0,fun _=>Y,fun _=>0,fun _=>0,fun _ _=>0,kY,⟨fun h=>absurd h (Nat.lt_irrefl 0),fun i hi=>absurd hi za⟩⟩
 ·simp at kY;simp only [if_true] at xu;subst xu;rw [CO] at hc;have each:∀ i,i<m->∃ y:(Option s × Nat × Nat × (Nat->UInt8)) × Option s × Nat × Nat × (Nat->UInt8),w.cell? ((a.add (i*2)).add 0)=G (I y.1.1 y.1.2.1 y.1.2.2.1)/\w.cell? ((a.add (i*2)).add 1)=G (I y.2.1 y.2.2.1 y.2.2.2.1)/\Bec w y.1.1 y.1.2.1 y.1.2.2.1 y.1.2.2.2/\Bec w y.2.1 y.2.2.1 y.2.2.2.1 y.2.2.2.2:=by
   intro i hi;obtain⟨LE,h1,h2⟩:=hc i hi;obtain⟨_,yx,ld⟩:=World.cells?_some h1
   match LE,yx with
   | [c0,c1],_ =>
    obtain⟨xs,m',_,_,_,hl',ha⟩:=DataW.trod_array Tryz.underlying97 h2
    match xs,hl' with
    | [z0,z1],_ =>
     have t0:=ha 0 zb;have t1:=ha 1 zb;simp [Cm] at t0 t1;obtain⟨a0,n0,k0,F0,rfl,r0,_⟩:=iH t0;obtain⟨a1,n1,k1,F1,rfl,r1,_⟩:=iH t1;exact⟨((a0,n0,k0,F0),a1,n1,k1,F1),ld 0 zb,ld 1 zb,r0,r1⟩
  haveI:Inhabited ((Option s × Nat × Nat × (Nat->UInt8)) × Option s × Nat × Nat × (Nat->UInt8)):=⟨((Y,0,0,fun _=>0),Y,0,0,fun _=>0)⟩
  obtain⟨y,hy⟩:=choose_lt each;refine⟨G a,len,m,fun j=>if j % 2=0 then (y (j / 2)).1.1 else (y (j / 2)).2.1,fun j=>if j % 2=0 then (y (j / 2)).1.2.1 else (y (j / 2)).2.2.1,fun j=>if j % 2=0 then (y (j / 2)).1.2.2.1 else (y (j / 2)).2.2.2.1,fun j=>if j % 2=0 then (y (j / 2)).1.2.2.2 else (y (j / 2)).2.2.2.2,kY,⟨fun h0=>?_,fun j hj=>?_⟩⟩
  ·have k0:=(hy 0 za).1;obtain⟨b,off,spot⟩:=a;have A3:spot=Y:=by simpa [Addr.add] using World.cell?_spot k0
   subst A3;refine⟨b,off,rfl,fun i hi=>?_⟩;obtain⟨q0,q1,_⟩:=hy i za;simp only [add_plain,Nat.add_zero] at q0 q1;simp only [show 2*i % 2=0 by omega,show (2*i+1) % 2=1 by omega,show 2*i / 2=i by omega,show (2*i+1) / 2=i by omega,if_true,show ¬ (1:Nat)=0 by decide,if_false];exact⟨q0,q1⟩
  ·obtain⟨_,_,q2,q3⟩:=hy (j / 2) za;by_cases e:j % 2=0
   ·simp only [zk e];exact q2
   ·simp only [zl e];exact q3
end
theorem Cy:Tryz.prog.bytesOf 97=48:=zh
section
variable {H:Type} {enc:TypeId × Value->H} {w:World} {held:Bool}
theorem Ef{yq:Nat}{po:Option s}{n pc:Nat}{x:DataW H × List MemPlace}(h:DataW.trod enc Q w 0 (fun _=>o) held yq 24 [I po n pc]=G x):n=0\/∃ q,q ∈ x.1.weights Q 24/\n*48<=q:=by
 rcases open_slice Tryz.underlying24 h with ⟨kY,hx⟩ | ⟨a,len,b8,m,n',D,Pl,kY,_,hl,hm,xu,hx,hc⟩
 ·simp at kY;exact .inl kY.2.1
 ·simp at kY;simp only [if_true] at xu;obtain⟨_,rfl,rfl⟩:=kY;refine .inr ⟨(n+(m-n))*48,?_,za⟩;rw [hx];simp [DataW.weights,Tryz.underlying24,Cy]
end

section
variable {H:Type} {enc:TypeId × Value->H} {w:World} {held:Bool}
theorem array3{α:Type}{cs:Array α}(h:cs.size=3):∃ c0 c1 c2,cs=#[c0,c1,c2]:=by
 obtain⟨l⟩:=cs
 match l,h with
 | [c0,c1,c2],_=>exact⟨c0,c1,c2,rfl⟩
theorem BW:Tryz.prog.cellsOf 71=2:=zh
theorem BI:Tryz.prog.cellsOf 58=1:=zh
theorem Db:Tryz.prog.cellsOf 60=3:=zh
theorem um{yq:Nat}{v:T}{x:DataW H × List MemPlace}(h:DataW.trod enc Q w 0 (fun _=>o) held yq 58 [v]=G x):
  ∃ ro n rc R V,v=I ro n rc/\De.Rec w ro n rc R V:=by
 rcases open_slice Tryz.underlying58 h with ⟨kY,hx⟩ | ⟨a,len,b8,m,n,D,Pl,kY,_,hl,hm,xu,hx,hc⟩
 ·simp at kY;exact⟨Y,0,0,fun _=>0,fun _=>0,kY,De.rec_nil _ _ _⟩
 ·simp at kY;simp only [if_true] at xu;subst xu;rw [BW] at hc;have each:∀ i,i<m->∃ y:Int × Int,w.cell? ((a.add (i*2)).add 0)=G (J O y.1)/\w.cell? ((a.add (i*2)).add 1)=G (J O y.2):=by
   intro i hi;obtain⟨LE,h1,h2⟩:=hc i hi;obtain⟨_,yx,ld⟩:=World.cells?_some h1
   match LE,yx with
   | [c0,c1],_ =>
    obtain⟨y0,y1,n',_,_,t0,t1⟩:=trod_struct2 Tryz.underlying71 h2;simp [la] at t0 t1;obtain⟨a0,e0,_,_⟩:=DataW.trod_int Tryz.underlying3 t0;obtain⟨a1,e1,_,_⟩:=DataW.trod_int Tryz.underlying3 t1;simp at e0 e1;subst e0 e1;exact⟨(a0,a1),ld 0 zb,ld 1 zb⟩
  haveI:Inhabited (Int × Int):=⟨(0,0)⟩
  obtain⟨y,hy⟩:=choose_lt each;refine⟨G a,len,m,fun j=>(y j).1,fun j=>(y j).2,kY,⟨fun h0=>?_,(fun e=>by cases e),za⟩⟩;have k0:=(hy 0 za).1;obtain⟨b,off,spot⟩:=a;have A3:spot=Y:=by simpa [Addr.add] using World.cell?_spot k0
  subst A3;refine⟨b,off,rfl,fun i hi=>?_⟩;obtain⟨q0,q1⟩:=hy i za;simp only [add_plain,Nat.add_zero] at q0 q1;exact⟨q0,q1⟩
theorem Ez{r:Reach}{b0:Nat}{v:T}{d:DataW H}{p:List MemPlace}(hv:Value.okWide Q w r b0 60 v)(h:DataW.Trod enc Q w 0 (fun _=>o) held 60 v d p):
  ∃ len gt ro n rc R V,v=Z #[J O len,J O gt,I ro n rc]/\De.Rec w ro n rc R V:=by
 obtain⟨cs,rfl,xJ⟩:=okWide_struct Tryz.underlying60 hv;obtain⟨c0,c1,c2,rfl⟩:=array3 (xJ.trans Db);obtain⟨yq,hf⟩:=h;obtain⟨z0,z1,z2,m,_,_,t0,t1,t2⟩:=trod_struct3 Tryz.underlying60 hf;simp [Value.cells,la,BI] at t0 t1 t2;obtain⟨a0,e0,_,_⟩:=DataW.trod_int Tryz.underlying3 t0;obtain⟨a1,e1,_,_⟩:=DataW.trod_int Tryz.underlying3 t1;obtain⟨ro,n,rc,R,V,e2,h2⟩:=um t2;simp at e0 e1;subst e0 e1 e2;exact⟨a0,a1,ro,n,rc,R,V,rfl,h2⟩
end
end Go.Proofs.YtemlojjkokooeaaGreat
