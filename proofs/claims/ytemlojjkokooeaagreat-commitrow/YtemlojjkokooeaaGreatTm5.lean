import Derived.Test.YtemlojjkokooeaaGreatTm4
open Go.Value renaming int->J,slice->Z,agg->g,bool->jb,pointer->jf
open Go.IntKind renaming i64->O
open Go.RowKit renaming Below->I,Hid->X
open Go.Proofs.Tryz renaming prog->Q
open Go.Ending renaming returned->Y
open Option renaming none->U,some->G
open Nat renaming le_refl->L,zero_le->p
open Go.RowKit.Below renaming refl->H
open Go renaming Calls->T,World->C,Addr->jd,Value->je
open Bool renaming false->S,true->ja
open Go.Obj renaming cells->jc
set_option maxHeartbeats 16000000
set_option maxRecDepth 100000
namespace Go.Proofs.YtemlojjkokooeaaGreat.De
open Go.RowKit
theorem aY{w w0 w1:C}{x0 x1 x2 x3 x4:je}{t:TypeId}(h0:w0=w.alloc (jc #[x0,x1,x2,x3,x4] t))(hb:b7 w0 w1):
  (w1.cell? ⟨w.heap.size,0,U⟩=G x0/\w1.cell? ⟨w.heap.size,1,U⟩=G x1/\w1.cell? ⟨w.heap.size,2,U⟩=G x2/\w1.cell? ⟨w.heap.size,3,U⟩=G x3/\w1.cell? ⟨w.heap.size,4,U⟩=G x4)/\∀ i,w1.frozen? ⟨w.heap.size,i,U⟩=S:=⟨cI h0 hb,aI h0 hb⟩
theorem oA(w:C)(ao:Option jd)(W cp:Nat)(F:Nat->UInt8)(h:Bec w ao W cp F)(hW:32<=W)(yY:W<=1000)(A D M dd m:Nat)(hA:nm F 0 4=A)(hD:nm (fun j=>F (4+j)) 0 1=D)(FL:nm (fun j=>F (4+(1+j))) 0 2=M)(hM:M<65536)(hdw:((W-7:Nat):Int) / 6=(dd:Int))(hd:7+6*dd<=W)(hm:m=min M dd):
  T Q 171 #[Z ao W cp] w fun e w'=>∃ ro rc bo,e=Y (g #[J O (A:Int),J O (D:Int),J O (M:Int),Z ro m rc,Z bo (W-7-6*m) (cp-7-6*m)])/\OwR w.heap.size w' ro m rc (rdR (fun j=>F (7+j)) 0) (rdV (fun j=>F (7+j)) 0)/\(∀ u,Bec u ao W cp F->Bec u bo (W-7-6*m) (cp-7-6*m) (fun j=>F (7+(6*m+j))))/\b7 w w':=by
 have HX:=am h;have l8:=h.room;have C1:=fun w h=>bw w ao W cp 4 F h za za za;have C2:=fun w ao h=>bw w ao (W-4) (cp-4) 1 (fun j=>F (4+j)) h za za za;have C3:=fun w ao h=>bw w ao (W-4-1) (cp-4-1) 2 (fun j=>F (4+(1+j))) h za za za;have e4:(fun j=>F (4+(1+(2+j))))=fun j=>F (7+j):=by funext j;rw [show 4+(1+(2+j))=7+j by omega]
 have e5:W-4-1-2=W-7:=za;have e6:cp-4-1-2=cp-7:=za;rw [hA] at C1;rw [hD] at C2;rw [FL,e4,e5,e6] at C3;have C4:=fun w ao h=>mZ w ao (W-7) (cp-7) m (fun j=>F (7+j)) h za za;have e7:IntKind.i64.wrap (((W-7:Nat):Int) / 6)=(dd:Int):=by rw [hdw,IntKind.wrap_i64];omega
 clear hA hD FL e4 e5 e6 h;have Jn:dd<=1000:=za;generalize W-4=l1 at *
 generalize cp-4=c1 at *
 generalize l1-1=l2 at *
 generalize c1-1=c2 at *
 generalize rdR (fun j=>F (7+j)) 0=R at *
 generalize rdV (fun j=>F (7+j)) 0=V at *
 obtain⟨l3,RJ⟩:∃ l,l=W-7:=⟨_,rfl⟩
 obtain⟨c3,KB⟩:∃ l,l=cp-7:=⟨_,rfl⟩
 rw [<- RJ] at C3 C4 hdw e7 ⊢;rw [<- KB] at C3 C4 ⊢;have Yf:l3<=1000:=za;generalize l3-6*m=l4 at *
 generalize c3-6*m=c4 at *
 clear RJ KB l8 hd;obtain⟨w0,bi⟩:=fd (w.alloc (jc #[J O 0,J O 0,J O 0,Z U 0 0,Z U 0 0] 216))
 have b0:=jt bi
 by_cases hlt:(dd:Int)<(M:Int)
 ·obtain rfl:m=dd:=za;clear hm;go_enter Tryz.func171,Tryz.ntmps171
  go_wp2_with fail
  rw [<- bi];refine(C1 _ (HX.out.below b0)).mono ?_;rintro e wa ⟨Hq,rfl,ko,ha⟩;have k1:=ap b0 ha;go_wp2_with fail
  refine(C2 _ Hq (ko _ (HX.out.below k1))).mono ?_;rintro e wb ⟨Ls,rfl,jP,hb⟩;have k2:=ap k1 hb;go_wp2_with fail
  refine(C3 _ Ls (jP _ (ko _ (HX.out.below k2)))).mono ?_;rintro e wc ⟨O9,rfl,ku,hc⟩;have k3:=ap (ap ha hb) hc;have qj:=am fun u (hu:Bec u ao W cp F)=>ku _ (jP _ (ko _ hu));clear ha hb hc ko jP ku k1 k2;go_wp2_with fail
  refine(C4 _ O9 (qj.out _ (HX.out.below (ap b0 k3)))).mono ?_;rintro e wd ⟨ro,rc,bo,rfl,em,D4,hd⟩;have k4:=ap k3 hd;have hu:∀ o,b7 w0 (wd.alloc o):=fun o=>k4.alloc k4.size o;have m0:=fun o=>(aY bi (hu o)).1.1;have m1:=fun o=>(aY bi (hu o)).1.2.1;have m2:=fun o=>(aY bi (hu o)).1.2.2.1;have m3:=fun o=>(aY bi (hu o)).1.2.2.2.1;have m4:=fun o=>(aY bi (hu o)).1.2.2.2.2;have f:=fun o i=>(aY bi (hu o)).2 i;have HS:X (w.heap.size+1<=wc.heap.size):=by show _<=_;have:=k3.size;rw [bi] at this;simpa using this
  have HK:=am (ap b0 k4);have kR:=am em;have Lr:=am fun u (hu:Bec u ao W cp F)=>D4 u (qj.out u hu);have Pa:=am (hd.size);clear bi hu k3 k4 em D4 hd qj;go_wp2_with fail
  refine bodyPost_ret (v:=g #[J O (A:Int),J O (D:Int),J O (M:Int),Z ro m rc,Z bo l4 c4]) (by simp [results,Tryz.results171,go_sem,m0,m1,m2,m3,m4]) rfl ⟨ro,rc,bo,rfl,?_,Lr.out,?_⟩
  ·have h5:=HS.out;have h6:=Pa.out;refine OwR.mono (B:=wc.heap.size) (kR.out.stay fun t ht KC=>?_) za;have f9:t ≠ w.heap.size:=za;rw [heap_setCell_other _ _ _ _ f9,heap_setCell_other _ _ _ _ f9,heap_setCell_other _ _ _ _ f9,heap_setCell_other _ _ _ _ f9,heap_setCell_other _ _ _ _ f9,Below.heap_alloc _ _ _ KC]
  ·exact(((((HK.out.alloc HK.out.size _).setCell (L _) _).setCell (L _) _).setCell (L _) _).setCell (L _) _).setCell (L _) _
 ·obtain rfl:m=M:=za;clear hm;go_enter Tryz.func171,Tryz.ntmps171
  go_wp2_with fail
  rw [<- bi];refine(C1 _ (HX.out.below b0)).mono ?_;rintro e wa ⟨Hq,rfl,ko,ha⟩;have k1:=ap b0 ha;go_wp2_with fail
  refine(C2 _ Hq (ko _ (HX.out.below k1))).mono ?_;rintro e wb ⟨Ls,rfl,jP,hb⟩;have k2:=ap k1 hb;go_wp2_with fail
  refine(C3 _ Ls (jP _ (ko _ (HX.out.below k2)))).mono ?_;rintro e wc ⟨O9,rfl,ku,hc⟩;have k3:=ap (ap ha hb) hc;have qj:=am fun u (hu:Bec u ao W cp F)=>ku _ (jP _ (ko _ hu));clear ha hb hc ko jP ku k1 k2;go_wp2_with fail
  refine(C4 _ O9 (qj.out _ (HX.out.below (ap b0 k3)))).mono ?_;rintro e wd ⟨ro,rc,bo,rfl,em,D4,hd⟩;have k4:=ap k3 hd;have hu:∀ o,b7 w0 (wd.alloc o):=fun o=>k4.alloc k4.size o;have m0:=fun o=>(aY bi (hu o)).1.1;have m1:=fun o=>(aY bi (hu o)).1.2.1;have m2:=fun o=>(aY bi (hu o)).1.2.2.1;have m3:=fun o=>(aY bi (hu o)).1.2.2.2.1;have m4:=fun o=>(aY bi (hu o)).1.2.2.2.2;have f:=fun o i=>(aY bi (hu o)).2 i;have HS:X (w.heap.size+1<=wc.heap.size):=by show _<=_;have:=k3.size;rw [bi] at this;simpa using this
  have HK:=am (ap b0 k4);have kR:=am em;have Lr:=am fun u (hu:Bec u ao W cp F)=>D4 u (qj.out u hu);have Pa:=am (hd.size);clear bi hu k3 k4 em D4 hd qj;go_wp2_with fail
  refine bodyPost_ret (v:=g #[J O (A:Int),J O (D:Int),J O (m:Int),Z ro m rc,Z bo l4 c4]) (by simp [results,Tryz.results171,go_sem,m0,m1,m2,m3,m4]) rfl ⟨ro,rc,bo,rfl,?_,Lr.out,?_⟩
  ·have h5:=HS.out;have h6:=Pa.out;refine OwR.mono (B:=wc.heap.size) (kR.out.stay fun t ht KC=>?_) za;have f9:t ≠ w.heap.size:=za;rw [heap_setCell_other _ _ _ _ f9,heap_setCell_other _ _ _ _ f9,heap_setCell_other _ _ _ _ f9,heap_setCell_other _ _ _ _ f9,heap_setCell_other _ _ _ _ f9,Below.heap_alloc _ _ _ KC]
  ·exact(((((HK.out.alloc HK.out.size _).setCell (L _) _).setCell (L _) _).setCell (L _) _).setCell (L _) _).setCell (L _) _
theorem mY(w:C)(ao:Option jd)(W cp:Nat)(F:Nat->UInt8)(h:Bec w ao W cp F)(hW:32<=W)(yY:W<=1000):
  T Q 171 #[Z ao W cp] w fun e w'=>∃ ro rc bo m c,m=min (nm F 5 2) (dir W)/\e=Y (g #[J O ((nm F 0 4:Nat):Int),J O ((nm F 4 1:Nat):Int),J O ((nm F 5 2:Nat):Int),Z ro m rc,Z bo (W-7-6*m) c])/\OwR w.heap.size w' ro m rc (rdR F 7) (rdV F 7)/\(∀ u,Bec u ao W cp F->Bec u bo (W-7-6*m) c (fun j=>F (7+6*m+j)))/\b7 w w':=by
 refine(oA w ao W cp F h hW yY (nm F 0 4) (nm F 4 1) (nm F 5 2) (dir W) (min (nm F 5 2) (dir W)) rfl (bY F 4 0 1) (fK fun i _=>by rw [Nat.zero_add,<- Nat.add_assoc]) (gj F 5 2) (by unfold dir;omega) (dX hW) rfl).mono ?_;rintro e w' ⟨ro,rc,bo,rfl,h1,h2,h3⟩;refine⟨ro,rc,bo,_,_,rfl,rfl,h1.congr fun i _=>⟨?_,?_⟩,fun u hu=>(h2 u hu).congr fun j _=>by rw [Nat.add_assoc],h3⟩
 ·unfold rdR;rw [bY,Nat.zero_add]
 ·unfold rdV;rw [bY,Nat.zero_add,Nat.add_assoc]
theorem eN(k r c q a v:Int)(w:C):
  T Q 250 #[Pz k r c q,g #[J O a,J O v]] w fun e w'=>e=Y (jb (okR q a v))/\b7 w w':=by
 have HO:X (okR q a v=decide (0<=a/\a<q/\1<=v/\v<=1073741824)):=rfl;go_enter Tryz.func250,Tryz.ntmps250
 go_wp2;all_goals (go_ret;refine⟨ay ?_,(bal _ _).alloc (Nat.le_of_lt zi) _⟩;rw [HO.out];first | exact decide_eq_decide.2 za | exact(zp za).symm | exact(zm za).symm)
theorem mH(k r c q a v:Int)(w:C):
  T Q 310 #[Pz k r c q,g #[J O a,J O v]] w fun e w'=>e=Y (jb (okR q a v))/\b7 w w':=by
 have HO:X (okR q a v=decide (0<=a/\a<q/\1<=v/\v<=1073741824)):=rfl;go_enter Tryz.func310,Tryz.ntmps310
 go_wp2;all_goals (go_ret;refine⟨ay ?_,(bal _ _).alloc (Nat.le_of_lt zi) _⟩;rw [HO.out];first | exact decide_eq_decide.2 za | exact(zp za).symm | exact(zm za).symm)
theorem rX(k r c q a v:Int)(pb:Nat)(w:C)(h0:w.cell? ⟨pb,0,U⟩=G (J O k))(h1:w.cell? ⟨pb,1,U⟩=G (J O r))(h2:w.cell? ⟨pb,2,U⟩=G (J O c))(h3:w.cell? ⟨pb,3,U⟩=G (J O q)):
  T Q 249 #[g #[J O a,J O v],jf (G ⟨pb,0,U⟩)] w fun e w'=>e=Y (jb (!okR q a v))/\b7 w w':=by
 have HC:=fun w=>eN k r c q a v w;obtain⟨w0,bi⟩:=fd (w.alloc (jc #[J O a,J O v] 71))
 have b0:=jt bi
 have g0:=held h0 b0;have g1:=held h1 b0;have g2:=held h2 b0;have g3:=held h3 b0;have x0:=ae bi (H _ _) 0 rfl;have x1:=ae bi (H _ _) 1 rfl;have u0:∀ o,(w.alloc o).cell? ⟨pb,0,U⟩=G (J O k):=fun o=>held h0 (bal _ _);have u1:∀ o,(w.alloc o).cell? ⟨pb,1,U⟩=G (J O r):=fun o=>held h1 (bal _ _);have u2:∀ o,(w.alloc o).cell? ⟨pb,2,U⟩=G (J O c):=fun o=>held h2 (bal _ _);have u3:∀ o,(w.alloc o).cell? ⟨pb,3,U⟩=G (J O q):=fun o=>held h3 (bal _ _);generalize okR q a v=b at *
 go_enter Tryz.func249,Tryz.ntmps249
 go_wp2_with fail
 rw [<- bi];refine(HC _).mono ?_;rintro e wa ⟨rfl,ha⟩;go_wp2_with fail
 go_ret;exact⟨rfl,ap b0 ha⟩
theorem oO(u:UInt8)(w:C):T Q 252 #[J .u8 ((u.toNat:Nat):Int)] w fun e w'=>e=Y (jb (!decide (u=0)))/\b7 w w':=by
 have HU:X ((u.toNat:Int)=0 ↔ u=0):=⟨fun h=>UInt8.toNat_inj.1 (by simpa using h),fun h=>by rw [h];rfl⟩
 obtain⟨x,hx⟩:∃ x:Nat,u.toNat=x:=⟨_,rfl⟩
 rw [hx] at HU ⊢;clear hx;go_enter Tryz.func252,Tryz.ntmps252
 go_wp2;go_ret;refine⟨ay ?_,H _ _⟩;by_cases hu:x=0
 ·rw [zm (HU.out.1 za)];subst hu;rfl
 ·rw [zp (fun h=>hu (by have:=HU.out.2 h;omega))];have:¬ (x:Int)=0:=za;simpa using this
def As (w:C) (fn:Nat) (cp:Array je) (n:Nat) (R V:Nat->Int) (P:Nat->Bool):Prop :=
  ∀ i,i<n->∀ v,b7 w v->T Q fn (#[.agg #[.int .i64 (R i),.int .i64 (V i)]] ++ cp) v fun e w'=>e=.returned (.bool (P i))/\b7 v w'
theorem pA(w:C)(ao:Option jd)(n ca fn:Nat)(cp:Array je)(R V:Nat->Int)(P:Nat->Bool)(hn:n<=1000)(yO:∀ xs w,(callFunc fn xs).run Q w=.ok (.enter fn xs) w)(hr:RdR w ao n R V)(hf:As w fn cp n R V P):
  T Q 307 #[Z ao n ca,.func (.func fn) #[] cp] w fun e w'=>∃ x:Int,e=Y (J O x)/\decide (0<=x)=bp n P/\b7 w w':=by
 have HR:=am hr;have HF:=am hf;clear hr hf;by_cases hall:∀ i,i<n->P i=S
 ·have HB:X (bp n P=S):=by show _=_;unfold bp;rw [zm hall];rfl
  have HA:=am hall;clear hall;go_enter Tryz.func307,Tryz.ntmps307
  go_wp2;go_loopw [8] (fun x wr=>∃ i:Nat,i<=n/\x=J O i/\X (b7 w wr)) (fun x _=>n-(intOf x).toNat)
  case atStart=>exact⟨0,p _,rfl,H _ _⟩
  case round =>
   obtain⟨i,hi,rfl,d8⟩:=hrel;by_cases hlt:i<n
   ·obtain⟨b,off,rfl,hc⟩:=(HR.out.below d8.out) za
    obtain⟨q0,q1⟩:=hc i hlt;have HC:=HF.out i hlt wr d8.out;rw [HA.out i hlt] at HC;clear hc;have i1:(0:Int)<=(i:Int):=za;have i2:(i:Int)<(n:Int):=za;go_wp2_with fail
    refine HC.mono ?_;rintro e w' ⟨rfl,g8⟩;have jv:=am (ap d8.out g8);clear g8;go_wp2_with fail
    exact⟨⟨i+1,za,by go_num,jv⟩,by simp [intOf];omega⟩
   ·go_wp2;go_ret;exact⟨_,rfl,by rw [HB.out];rfl,d8.out⟩
 ·have HB:X (bp n P=ja):=by show _=_;unfold bp;rw [zp hall];rfl
  obtain⟨q,hq,f9,heq⟩:=bA hall;have HE:=am heq;have HN:X (P q=ja):=by show _=_;cases h:P q;exact absurd h f9;rfl
  clear hall f9 heq;go_enter Tryz.func307,Tryz.ntmps307
  go_wp2;go_loopw [8] (fun x wr=>∃ i:Nat,i<=q/\x=J O i/\X (b7 w wr)) (fun x _=>n-(intOf x).toNat)
  case atStart=>exact⟨0,p _,rfl,H _ _⟩
  case round =>
   obtain⟨i,hi,rfl,d8⟩:=hrel;have hlt:i<n:=za;obtain⟨b,off,rfl,hc⟩:=(HR.out.below d8.out) za
   obtain⟨q0,q1⟩:=hc i hlt;have HC:=HF.out i hlt wr d8.out;clear hc;have i1:(0:Int)<=(i:Int):=za;have i2:(i:Int)<(n:Int):=za;by_cases hiq:i<q
   ·rw [HE.out i hiq] at HC;go_wp2_with fail
    refine HC.mono ?_;rintro e w' ⟨rfl,g8⟩;have jv:=am (ap d8.out g8);clear g8;go_wp2_with fail
    exact⟨⟨i+1,za,by go_num,jv⟩,by simp [intOf];omega⟩
   ·obtain rfl:i=q:=za;rw [HN.out] at HC;go_wp2_with fail
    refine HC.mono ?_;rintro e w' ⟨rfl,g8⟩;have jv:=am (ap d8.out g8);clear g8;go_wp2_with fail
    go_ret;exact⟨_,rfl,by rw [HB.out];simp,jv.out⟩
theorem lE(w:C)(ao:Option jd)(n ca fn:Nat)(cp:Array je)(R V:Nat->Int)(P:Nat->Bool)(hn:n<=1000)(yO:∀ xs w,(callFunc fn xs).run Q w=.ok (.enter fn xs) w)(hr:RdR w ao n R V)(hf:As w fn cp n R V P):
  T Q 248 #[Z ao n ca,.func (.func fn) #[] cp] w fun e w'=>e=Y (jb (bp n P))/\b7 w w':=by
 have HX:=pA w ao n ca fn cp R V P hn yO hr hf;clear hr hf yO;go_enter Tryz.func248,Tryz.ntmps248
 go_wp2_with (go_at_call 307;refine HX.mono ?_;rintro e w' ⟨x,rfl,hx,hb⟩)
 go_ret;exact⟨by rw [<- hx];rfl,hb⟩
def ic (w:C) (fn:Nat) (cp:Array je) (n:Nat) (F:Nat->UInt8) (P:Nat->Bool):Prop :=
  ∀ i,i<n->∀ v,b7 w v->T Q fn (#[.int .u8 (((F i).toNat:Nat):Int)] ++ cp) v fun e w'=>e=.returned (.bool (P i))/\b7 v w'
theorem py(w:C)(ao:Option jd)(n ca fn:Nat)(cp:Array je)(F:Nat->UInt8)(P:Nat->Bool)(hn:n<=1000)(yO:∀ xs w,(callFunc fn xs).run Q w=.ok (.enter fn xs) w)(hr:RdU w ao n F)(hf:ic w fn cp n F P):
  T Q 308 #[Z ao n ca,.func (.func fn) #[] cp] w fun e w'=>∃ x:Int,e=Y (J O x)/\decide (0<=x)=bp n P/\b7 w w':=by
 have HR:=am hr;have HF:=am hf;clear hr hf;by_cases hall:∀ i,i<n->P i=S
 ·have HB:X (bp n P=S):=by show _=_;unfold bp;rw [zm hall];rfl
  have HA:=am hall;clear hall;go_enter Tryz.func308,Tryz.ntmps308
  go_wp2;go_loopw [8] (fun x wr=>∃ i:Nat,i<=n/\x=J O i/\X (b7 w wr)) (fun x _=>n-(intOf x).toNat)
  case atStart=>exact⟨0,p _,rfl,H _ _⟩
  case round =>
   obtain⟨i,hi,rfl,d8⟩:=hrel;by_cases hlt:i<n
   ·obtain⟨b,off,rfl,hc⟩:=(HR.out.below d8.out) za
    have q0:=hc i hlt;have HC:=HF.out i hlt wr d8.out;rw [HA.out i hlt] at HC;clear hc;have i1:(0:Int)<=(i:Int):=za;have i2:(i:Int)<(n:Int):=za;go_wp2_with fail
    refine HC.mono ?_;rintro e w' ⟨rfl,g8⟩;have jv:=am (ap d8.out g8);clear g8;go_wp2_with fail
    exact⟨⟨i+1,za,by go_num,jv⟩,by simp [intOf];omega⟩
   ·go_wp2;go_ret;exact⟨_,rfl,by rw [HB.out];rfl,d8.out⟩
 ·have HB:X (bp n P=ja):=by show _=_;unfold bp;rw [zp hall];rfl
  obtain⟨q,hq,f9,heq⟩:=bA hall;have HE:=am heq;have HN:X (P q=ja):=by show _=_;cases h:P q;exact absurd h f9;rfl
  clear hall f9 heq;go_enter Tryz.func308,Tryz.ntmps308
  go_wp2;go_loopw [8] (fun x wr=>∃ i:Nat,i<=q/\x=J O i/\X (b7 w wr)) (fun x _=>n-(intOf x).toNat)
  case atStart=>exact⟨0,p _,rfl,H _ _⟩
  case round =>
   obtain⟨i,hi,rfl,d8⟩:=hrel;have hlt:i<n:=za;obtain⟨b,off,rfl,hc⟩:=(HR.out.below d8.out) za
   have q0:=hc i hlt;have HC:=HF.out i hlt wr d8.out;clear hc;have i1:(0:Int)<=(i:Int):=za;have i2:(i:Int)<(n:Int):=za;by_cases hiq:i<q
   ·rw [HE.out i hiq] at HC;go_wp2_with fail
    refine HC.mono ?_;rintro e w' ⟨rfl,g8⟩;have jv:=am (ap d8.out g8);clear g8;go_wp2_with fail
    exact⟨⟨i+1,za,by go_num,jv⟩,by simp [intOf];omega⟩
   ·obtain rfl:i=q:=za;rw [HN.out] at HC;go_wp2_with fail
    refine HC.mono ?_;rintro e w' ⟨rfl,g8⟩;have jv:=am (ap d8.out g8);clear g8;go_wp2_with fail
    go_ret;exact⟨_,rfl,by rw [HB.out];simp,jv.out⟩
theorem lB(w:C)(ao:Option jd)(n ca fn:Nat)(cp:Array je)(F:Nat->UInt8)(P:Nat->Bool)(hn:n<=1000)(yO:∀ xs w,(callFunc fn xs).run Q w=.ok (.enter fn xs) w)(hr:RdU w ao n F)(hf:ic w fn cp n F P):
  T Q 251 #[Z ao n ca,.func (.func fn) #[] cp] w fun e w'=>e=Y (jb (bp n P))/\b7 w w':=by
 have HX:=py w ao n ca fn cp F P hn yO hr hf;clear hr hf yO;go_enter Tryz.func251,Tryz.ntmps251
 go_wp2_with (go_at_call 308;refine HX.mono ?_;rintro e w' ⟨x,rfl,hx,hb⟩)
 go_ret;exact⟨by rw [<- hx];rfl,hb⟩
theorem Made.zero{k r c q len:Int}{W s d x n:Nat}{e:Int}(h:Made k r c q len W s d x n e):(e=0/\d<=1)\/(e ≠ 0/\s=0/\d=0/\x=0):=by
 rcases h with ⟨_,_,_,_,_,h,_,rfl⟩ | ⟨_,rfl,rfl,rfl,_,rfl⟩ | ⟨_,_,_,rfl,rfl,rfl,_,rfl⟩
 ·exact .inl ⟨rfl,za⟩
 ·exact .inr ⟨zb,rfl,rfl,rfl⟩
 ·exact .inr ⟨zb,rfl,rfl,rfl⟩
def cns (d s x:Nat):Nat:=if d=0 then s else x
theorem pS{k r c q:Int}{N W:Nat}{y:Int}(h:Par k r c q N W y){len:Int}{s d x n:Nat}{e:Int}(h':Made k r c q len W s d x n e)(w:C):
  T Q 247 #[Pz k r c q,J O len] w fun e' w'=>e'=Y (.tuple #[J O (d:Int),J O ((cns d s x:Nat):Int),J O e])/\b7 w w':=by
 have HD:=fun w=>uS h h' w;have HS:=fun w=>nB h h' w;have HL:=fun w=>rN h h' w;have hz:=h'.zero;have HN:X (cns d s x=if d=0 then s else x):=rfl;clear h h';obtain⟨w0,bi⟩:=jM w k r c q
 have b0:=jt bi
 rcases hz with ⟨rfl,hd⟩ | ⟨he,rfl,rfl,rfl⟩
 ·by_cases hd0:d=0
  ·subst hd0;go_enter Tryz.func247,Tryz.ntmps247
   go_wp2_with fail
   rw [<- bi];refine(HD _).mono ?_;rintro e wa ⟨rfl,ha⟩;obtain⟨s0,s1,s2,s3⟩:=ak bi ha;clear bi;go_wp2_with fail
   refine(HS _).mono ?_;rintro e wb ⟨rfl,hb⟩;go_wp2_with fail
   refine bodyPost_ret (v:=.tuple #[J O 0,J O (s:Int),J O 0]) (by simp [results,Tryz.results247,go_sem]) rfl ⟨?_,ap (ap b0 ha) hb⟩;rfl
  ·obtain rfl:d=1:=za;go_enter Tryz.func247,Tryz.ntmps247
   go_wp2_with fail
   rw [<- bi];refine(HD _).mono ?_;rintro e wa ⟨rfl,ha⟩;obtain⟨s0,s1,s2,s3⟩:=ak bi ha;clear bi;go_wp2_with fail
   refine(HL _).mono ?_;rintro e wb ⟨rfl,hb⟩;go_wp2_with fail
   refine bodyPost_ret (v:=.tuple #[J O 1,J O (x:Int),J O 0]) (by simp [results,Tryz.results247,go_sem]) rfl ⟨?_,ap (ap b0 ha) hb⟩;rw [HN.out,zl zb];rfl
 ·have he2:(e != 0)=ja:=by simpa using he
  go_enter Tryz.func247,Tryz.ntmps247
  go_wp2_with fail
  rw [<- bi];refine(HD _).mono ?_;rintro e wa ⟨rfl,ha⟩;clear bi;go_wp2_with fail
  refine bodyPost_ret (v:=.tuple #[J O 0,J O 0,J O _]) (by simp [results,Tryz.results247,go_sem]) rfl ⟨rfl,ap b0 ha⟩
theorem nr(pt:Int)(w:C):T Q 173 #[J O pt] w fun e w'=>e=Y (J O (if pt=5 then 0 else 150))/\w'=w:=by
 by_cases h:pt=5
 ·subst h;rw [zk rfl];go_enter Tryz.func173,Tryz.ntmps173
  go_wp2;go_ret;exact⟨rfl,rfl⟩
 ·rw [zl h];have h2:(pt == 5)=S:=by simpa using h
  go_enter Tryz.func173,Tryz.ntmps173
  go_wp2;go_ret;exact⟨rfl,rfl⟩
theorem te{k r c q:Int}{N W:Nat}{y:Int}(h:Par k r c q N W y){len:Int}{s d x nn:Nat}{er:Int}(h':Made k r c q len W s d x nn er)(w:C)(gt many:Int)(ro:Option jd)(n rc:Nat)(R V:Nat->Int)(hR:RdR w ro n R V)(hn:many=((cns d s x:Nat):Int)->n<=1000)(bo:Option jd)(l bc:Nat)(F:Nat->UInt8)(hB:RdU w bo l F)(hl:l<=1000):
  T Q 172 #[.agg #[.int .i64 len,.int .i64 gt,.int .i64 many,.slice ro n rc,.slice bo l bc],.agg #[.int .i64 k,.int .i64 r,.int .i64 c,.int .i64 q],.int .i64 0] w fun e w'=>∃ pt:Int,e=.returned (.int .i64 pt)/\decide (pt=5)=(decide (er=0/\gt=(d:Int)/\many=((cns d s x:Nat):Int)) && (okL q n R V && !bp l (fun j=>!decide (F j=0))))/\I w.heap.size w w':=by
 have HS:=fun w=>pS h h' w;generalize cns d s x=cn at *
 have HR:=am hR;have HB:=am hB;have HL:X (bp n (fun i=>!okR q (R i) (V i))=!okL q n R V):=CZ q n R V;have NP:X (many=(cn:Int)->∀ v pb,RdR v ro n R V->(∀ u,I v.heap.size v u->u.cell? ⟨pb,0,U⟩=G (.int .i64 k)/\u.cell? ⟨pb,1,U⟩=G (.int .i64 r)/\u.cell? ⟨pb,2,U⟩=G (.int .i64 c)/\u.cell? ⟨pb,3,U⟩=G (.int .i64 q))->T Q 248 #[.slice ro n rc,.func (.func 249) #[] #[.pointer (G ⟨pb,0,U⟩)]] v fun e w'=>e=.returned (.bool (!okL q n R V))/\I v.heap.size v w'):=fun Va v pb hv hp=>by
  have:=lE v ro n rc 249 #[.pointer (G ⟨pb,0,U⟩)] R V (fun i=>!okR q (R i) (V i)) (hn Va) (fun _ _=>rfl) hv (fun i hi u hu=>by
   obtain⟨p0,p1,p2,p3⟩:=hp u hu;exact rX k r c q (R i) (V i) pb u p0 p1 p2 p3)
  rw [HL.out] at this;exact this
 have NQ:X (∀ v,RdU v bo l F->T Q 251 #[.slice bo l bc,.func (.func 252) #[] #[]] v fun e w'=>e=.returned (.bool (bp l (fun j=>!decide (F j=0))))/\I v.heap.size v w'):=fun v hv=>lB v bo l bc 252 #[] F _ hl (fun _ _=>rfl) hv (fun i hi u hu=>oO (F i) u);clear h h' hR hB HL hn;generalize okL q n R V=ok at *
 generalize bp l (fun j=>!decide (F j=0))=z at *
 obtain⟨w0,bi⟩:=fd (w.alloc (.cells #[.int .i64 len,.int .i64 gt,.int .i64 many,.slice ro n rc,.slice bo l bc] 216))
 obtain⟨w1,ci⟩:=jM w0 k r c q
 have b0:=jt bi
 have b1:=jt ci
 have z0:=ks bi
 have HP:X (∀ u,I w1.heap.size w1 u->u.cell? ⟨w.heap.size+1,0,U⟩=G (.int .i64 k)/\u.cell? ⟨w.heap.size+1,1,U⟩=G (.int .i64 r)/\u.cell? ⟨w.heap.size+1,2,U⟩=G (.int .i64 c)/\u.cell? ⟨w.heap.size+1,3,U⟩=G (.int .i64 q)):=fun u hu=>by have:=ak ci hu;rw [z0] at this;exact this
 have HC:X (∀ u,I w1.heap.size w1 u->u.cell? ⟨w.heap.size,0,U⟩=G (.int .i64 len)/\u.cell? ⟨w.heap.size,1,U⟩=G (.int .i64 gt)/\u.cell? ⟨w.heap.size,2,U⟩=G (.int .i64 many)/\u.cell? ⟨w.heap.size,3,U⟩=G (.slice ro n rc)/\u.cell? ⟨w.heap.size,4,U⟩=G (.slice bo l bc)):=fun u hu=>cI bi (ap b1 hu);have io:=am (ap b0 b1);obtain⟨p0,p1,p2,p3⟩:=HP.out _ (H _ _);obtain⟨c0,c1,c2,c3,c4⟩:=HC.out _ (H _ _);by_cases he:er=0
 ·have he2:(er != 0)=S:=by simpa using he
  by_cases hd:gt=(d:Int)
  ·have G1:(gt != (d:Int))=S:=by simpa using hd
   by_cases hm:many=(cn:Int)
   ·have yr:(many != (cn:Int))=S:=by simpa using hm
    have HT:X (decide (er=0/\gt=(d:Int)/\many=(cn:Int))=ja):=zm ⟨he,hd,hm⟩;have Pb:=NP.out hm;have NP:=am Pb;clear Pb he hd hm;cases ok
    ·go_enter Tryz.func172,Tryz.ntmps172
     go_wp2_with fail
     rw [<- bi,<- ci];clear bi ci z0 b0 b1;refine(HS _).mono ?_;rintro e wa ⟨rfl,ha⟩;obtain⟨g0,g1,g2,g3,g4⟩:=HC.out _ ha;go_wp2_with fail
     refine(NP.out wa _ (HR.out.below (ap io.out ha)) (fun u hu=>HP.out u (ap ha hu))).mono ?_;rintro e wb ⟨rfl,hb⟩;go_wp2_with fail
     go_ret;exact⟨3,rfl,by rw [HT.out];rfl,ap (ap io.out ha) hb⟩
    ·cases z
     all_goals (
      go_enter Tryz.func172,Tryz.ntmps172
      go_wp2_with fail
      rw [<- bi,<- ci];clear bi ci z0 b0 b1;refine(HS _).mono ?_;rintro e wa ⟨rfl,ha⟩;obtain⟨g0,g1,g2,g3,g4⟩:=HC.out _ ha;go_wp2_with fail
      refine(NP.out wa _ (HR.out.below (ap io.out ha)) (fun u hu=>HP.out u (ap ha hu))).mono ?_;rintro e wb ⟨rfl,hb⟩;have k1:=ap ha hb;obtain⟨j0,j1,j2,j3,j4⟩:=HC.out _ k1;go_wp2_with fail
      refine(NQ.out wb (HB.out.below (ap io.out k1))).mono ?_;rintro e wc ⟨rfl,hc⟩;go_wp2_with fail
      go_ret;exact⟨_,rfl,by rw [HT.out];rfl,ap (ap io.out k1) hc⟩)
   ·have yr:(many != (cn:Int))=ja:=by simpa using hm
    have HT:X (decide (er=0/\gt=(d:Int)/\many=(cn:Int))=S):=zp fun h=>hm h.2.2;clear he hd hm;go_enter Tryz.func172,Tryz.ntmps172
    go_wp2_with fail
    rw [<- bi,<- ci];clear bi ci z0 b0 b1;refine(HS _).mono ?_;rintro e wa ⟨rfl,ha⟩;obtain⟨g0,g1,g2,g3,g4⟩:=HC.out _ ha;go_wp2_with fail
    go_ret;exact⟨2,rfl,by rw [HT.out];rfl,ap io.out ha⟩
  ·have G1:(gt != (d:Int))=ja:=by simpa using hd
   have HT:X (decide (er=0/\gt=(d:Int)/\many=(cn:Int))=S):=zp fun h=>hd h.2.1;clear he hd;go_enter Tryz.func172,Tryz.ntmps172
   go_wp2_with fail
   rw [<- bi,<- ci];clear bi ci z0 b0 b1;refine(HS _).mono ?_;rintro e wa ⟨rfl,ha⟩;obtain⟨g0,g1,g2,g3,g4⟩:=HC.out _ ha;go_wp2_with fail
   go_ret;exact⟨1,rfl,by rw [HT.out];rfl,ap io.out ha⟩
 ·have he2:(er != 0)=ja:=by simpa using he
  have HT:X (decide (er=0/\gt=(d:Int)/\many=(cn:Int))=S):=zp fun h=>he h.1;clear he;go_enter Tryz.func172,Tryz.ntmps172
  go_wp2_with fail
  rw [<- bi,<- ci];clear bi ci z0 b0 b1;refine(HS _).mono ?_;rintro e wa ⟨rfl,ha⟩;obtain⟨g0,g1,g2,g3,g4⟩:=HC.out _ ha;go_wp2_with fail
  go_ret;exact⟨0,rfl,by rw [HT.out];rfl,ap io.out ha⟩
theorem _root_.Go.Proofs.YtemlojjkokooeaaGreat.Par.erP{k r c q:Int}{N W:Nat}{e:Int}(h:Par k r c q N W e):erP k r c q=e:=by
 unfold YtemlojjkokooeaaGreat.erP;rcases h with ⟨h,_,_,rfl⟩ | ⟨h,_,_,rfl⟩
 ·rw [zk h]
 ·rw [zl (by rw [h];decide)]
theorem _root_.Go.Proofs.YtemlojjkokooeaaGreat.Par.fine{k r c q:Int}{N W:Nat}(h:Par k r c q N W 0):may k r c q=ja/\32<=W/\W<=768/\q<=256:=by
 have hw:=h.wide;rcases h with ⟨h,h0,_,_⟩ | ⟨_,_,_,h⟩
 ·obtain⟨h1,h2,h3,h4,h5,h6,h7,h8,h9⟩:=aB h;exact⟨h,za,hw,h9⟩
 ·cases h
theorem AC(o l:Nat)(F:Nat->UInt8):(!bp l (fun j=>!decide (F (o+j)=0)))=decide (∀ j,j<o+l->o<=j->F j=0):=by
 unfold bp;rw [Bool.not_not];apply decide_eq_decide.2
 constructor
 ·intro h j hj ho;have:(!decide (F (o+(j-o))=0))=S:=h (j-o) za;rw [show o+(j-o)=j by omega] at this
  simpa using this
 ·intro h i hi;have:=h (o+i) za za
  simpa using this
theorem iM{k r c q:Int}{N W:Nat}(h:Par k r c q N W 0){len:Int}{s d x nn:Nat}{er:Int}(h':Made k r c q len W s d x nn er)(gt:Int)(n:Nat)(R V:Nat->Int):
  okD W q len gt n R V=(decide (er=0/\gt=(d:Int)/\(n:Int)=((cns d s x:Nat):Int)) && okL q n R V):=by
 obtain⟨hm,_⟩:=h.fine;unfold okD;rw [show okL q n R V=decide (okL q n R V=ja) by simp,<- Bool.decide_and];apply decide_eq_decide.2
 rw [show decide (okL q n R V=ja)=okL q n R V by simp];rcases h' with ⟨_,h1,h2,h3,h4,h5,_,rfl⟩ | ⟨h1,rfl,rfl,rfl,_,rfl⟩ | ⟨_,_,h2,rfl,rfl,rfl,_,rfl⟩
 ·have e1:dpt W (up len.toNat W)=d:=by unfold dpt;rw [<- h3,<- h4,h5]
  have e2:rL W (up len.toNat W)=cns d s x:=by
   unfold rL cns;rw [<- h3,<- h4];by_cases hx:x=0
   ·rw [zk hx,zk za]
   ·rw [zl hx,zl za]
  rw [e1,e2];constructor
  ·rintro⟨_,_,a,b,c⟩;exact⟨⟨rfl,a,za⟩,c⟩
  ·rintro⟨⟨_,a,b⟩,c⟩;exact⟨h1,h2,a,za,c⟩
 ·constructor
  ·rintro⟨a,_⟩;rcases h1 with h1 | h1
   ·rw [hm] at h1;cases h1
   ·omega
  ·rintro⟨⟨a,_⟩,_⟩;cases a
 ·constructor
  ·rintro⟨_,a,_⟩;omega
  ·rintro⟨⟨a,_⟩,_⟩;cases a
theorem mE{k r c q:Int}{N W:Nat}(h:Par k r c q N W 0){len:Int}{s d x nn:Nat}{er:Int}(h':Made k r c q len W s d x nn er):cns d s x<=dir W:=by
 obtain⟨_,hW,_,_⟩:=h.fine;rcases h' with ⟨_,h1,h2,h3,h4,h5,_,rfl⟩ | ⟨h1,rfl,rfl,rfl,_,rfl⟩ | ⟨_,_,h2,rfl,rfl,rfl,_,rfl⟩
 ·have:=nC (W:=W) (len:=len.toNat) hW za;unfold rL at this;unfold cns;rw [<- h3,<- h4] at this;by_cases hx:x=0
  ·rw [zk hx] at this;rw [zk za];exact this
  ·rw [zl hx] at this;rw [zl za];exact this
 ·exact p _
 ·exact p _
theorem vA{k r c q:Int}{N W:Nat}(h:Par k r c q N W 0)(F:Nat->UInt8){s d x nn:Nat}{er:Int}(h':Made k r c q ((nm F 0 4:Nat):Int) W s d x nn er)(m:Nat)(hm:m=min (nm F 5 2) (dir W)):
  isD W q F=(decide (er=0/\((nm F 4 1:Nat):Int)=(d:Int)/\((nm F 5 2:Nat):Int)=((cns d s x:Nat):Int)) && (okL q m (rdR F 7) (rdV F 7) && !bp (W-7-6*m) (fun j=>!decide (F (7+6*m+j)=0)))):=by
 obtain⟨_,hW,_,_⟩:=h.fine;have hd:=dX hW;unfold isD;rw [iM h h',Bool.decide_and,AC];have hf:=mE h h';by_cases hc:er=0/\((nm F 4 1:Nat):Int)=(d:Int)/\((nm F 5 2:Nat):Int)=((cns d s x:Nat):Int)
 ·have e:m=nm F 5 2:=za;rw [zm hc,e];simp only [Bool.true_and];rw [show decide (okL q (nm F 5 2) (rdR F 7) (rdV F 7)=ja)=okL q (nm F 5 2) (rdR F 7) (rdV F 7) by simp];congr 1
  apply decide_eq_decide.2
  rw [show 7+6*nm F 5 2+(W-7-6*nm F 5 2)=W by omega]
 ·rw [zp hc];simp
theorem ek{k r c q:Int}{N W:Nat}{y:Int}(h:Par k r c q N W y)(bo:Option jd)(n bc:Nat)(w:C):
  T Q 170 #[Pz k r c q,Z bo n bc] w fun e w'=>e=Y (J O (if y=0 then (if n=W then 0 else 20) else y))/\b7 w w':=by
 have HW:=fun w=>fT h w;have he:=h.err;clear h;obtain⟨w0,bi⟩:=jM w k r c q
 have b0:=jt bi
 rcases he with rfl | rfl
 ·rw [zk rfl];by_cases hn:n=W
  ·rw [zk hn];have A5:((n:Int) != (W:Int))=S:=by rw [hn];simp
   clear hn;go_enter Tryz.func170,Tryz.ntmps170
   go_wp2_with fail
   rw [<- bi];refine(HW _).mono ?_;rintro e wa ⟨rfl,ha⟩;clear bi;go_wp2_with fail
   go_ret;exact⟨rfl,ap b0 ha⟩
  ·rw [zl hn];have A5:((n:Int) != (W:Int))=ja:=by simpa using (by omega:¬ (n:Int)=(W:Int))
   clear hn;go_enter Tryz.func170,Tryz.ntmps170
   go_wp2_with fail
   rw [<- bi];refine(HW _).mono ?_;rintro e wa ⟨rfl,ha⟩;clear bi;go_wp2_with fail
   go_ret;exact⟨rfl,ap b0 ha⟩
 ·rw [zl zb];go_enter Tryz.func170,Tryz.ntmps170
  go_wp2_with fail
  rw [<- bi];refine(HW _).mono ?_;rintro e wa ⟨rfl,ha⟩;clear bi;go_wp2_with fail
  go_ret;exact⟨rfl,ap b0 ha⟩
theorem pQ{k r c q:Int}{N W:Nat}{y:Int}(h:Par k r c q N W y)(w:C)(len gt:Int)(ro:Option jd)(n rc:Nat)(R V:Nat->Int)(hR:RdR w ro n R V):
  T Q 164 #[.agg #[.int .i64 k,.int .i64 r,.int .i64 c,.int .i64 q],.agg #[.int .i64 len,.int .i64 gt,.slice ro n rc]] w fun e w'=>e=.returned (.int .i64 (erD y W q len gt n R V))/\I w.heap.size w w':=by
 have HC:=fun w=>eQ k r c q w;rw [h.erP] at HC;have HR:=am hR;clear hR;obtain⟨w0,bi⟩:=jM w k r c q
 obtain⟨w1,ci⟩:=fd (w0.alloc (.cells #[.int .i64 len,.int .i64 gt,.slice ro n rc] 60))
 have b0:=jt bi
 have b1:=jt ci
 have z0:=ks bi
 have io:=am (ap b0 b1);rcases h.err with rfl | rfl
 ·obtain⟨s,d,x,nn,er,h'⟩:=cN k r c q len W;have HF:=fun v hr=>te h h' v gt (n:Int) ro n rc R V hr (fun e=>by have h1:=mE h h';have h2:=dP h.wide;omega) U 0 0 (fun _=>0) (fun hh=>absurd hh (Nat.lt_irrefl 0)) za;rw [show (okL q n R V && !bp 0 (fun j=>!decide ((fun _=>(0:UInt8)) j=0)))=okL q n R V from by show (okL q n R V && ja)=_;simp,<- iM h h'] at HF;obtain⟨E,hE⟩:=fd (erD 0 W q len gt n R V)
  rw [<- hE];have HE:X ((if okD W q len gt n R V=ja then (0:Int) else 150)=E):=hE.symm;clear h h' hE;generalize okD W q len gt n R V=ok at *
  go_enter Tryz.func164,Tryz.ntmps164
  go_wp2_with fail
  rw [<- bi,<- ci];refine(HC _).mono ?_;rintro e wa ⟨rfl,ha⟩;obtain⟨s0,s1,s2,s3⟩:=ak bi (ap b1 ha);have d0:=ae ci ha 0 rfl;have d1:=ae ci ha 1 rfl;have d2:=ae ci ha 2 rfl;rw [z0] at d0 d1 d2;have u0:∀ o,(wa.alloc o).cell? ⟨w.heap.size,0,U⟩=G (.int .i64 k):=fun o=>held s0 (bal _ _);have u1:∀ o,(wa.alloc o).cell? ⟨w.heap.size,1,U⟩=G (.int .i64 r):=fun o=>held s1 (bal _ _);have u2:∀ o,(wa.alloc o).cell? ⟨w.heap.size,2,U⟩=G (.int .i64 c):=fun o=>held s2 (bal _ _);have u3:∀ o,(wa.alloc o).cell? ⟨w.heap.size,3,U⟩=G (.int .i64 q):=fun o=>held s3 (bal _ _);have k1:=ap io.out ha;have HK:X (∀ o,I w.heap.size w (wa.alloc o)):=fun o=>k1.alloc k1.size o;clear bi ci z0 b0 b1 ha k1;go_wp2_with fail
  refine(HF _ (HR.out.below (HK.out _))).mono ?_;rintro e wb ⟨pt,rfl,F3,hb⟩;have F4:=am (ap (HK.out _) hb);have KD:X ((if pt=5 then (0:Int) else 150)=E):=by
   show _=_;rw [<- HE.out,<- F3];simp
  clear hb F3;go_wp2_with fail
  refine(nr pt _).mono ?_;rintro e wc ⟨rfl,qJ⟩;obtain rfl:=qJ.symm;rw [KD.out];go_wp2_with fail
  go_ret;exact⟨rfl,F4.out⟩
 ·have HE:X (erD 2 W q len gt n R V=2):=rfl;clear h;go_enter Tryz.func164,Tryz.ntmps164
  go_wp2_with fail
  rw [<- bi,<- ci];refine(HC _).mono ?_;rintro e wa ⟨rfl,ha⟩;clear bi ci;go_wp2_with fail
  go_ret;exact⟨by rw [HE.out];rfl,ap io.out ha⟩
end Go.Proofs.YtemlojjkokooeaaGreat.De
