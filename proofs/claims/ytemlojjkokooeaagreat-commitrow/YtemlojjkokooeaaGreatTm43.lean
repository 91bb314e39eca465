import Derived.Test.YtemlojjkokooeaaGreatTm42
open Go.IntKind renaming i64->J
open Go.Value renaming int->O,tuple->Y,slice->Z,agg->P,bool->b
open Go.RowKit renaming Below->I,Hid->S
open Go.Proofs.Tryz renaming prog->Q
open Go.Ending renaming returned->U
open Go renaming World->X,Calls->H,Addr->j
open Option renaming none->G,some->m
open Go.Obj renaming cells->T
open Nat renaming le_succ->p
open Bool renaming false->l,true->s
set_option maxHeartbeats 16000000
set_option maxRecDepth 100000
namespace Go.Proofs.YtemlojjkokooeaaGreat.Cn
open Go.RowKit Go.Maps Go.ChangeShapes
theorem Winner_any{k r c q:Int}{N W:Nat}{x:Int}(h:Par k r c q N W x)(w:X)(ro:Option j)(rn rc:Nat)(A:Nat->Option j)(L C:Nat->Nat)(F:Nat->Nat->UInt8)(hr:Rw w ro rn A L C F)(E:Int)(hE:erR x N c rn L=E)(y:Int)(hy:rdv E (wins k (hP N c L F) (hQ N c L F) N) 0=y)(z:Bool)(hz:rdb E (wins k (hP N c L F) (hQ N c L F) N) 0=z):
  H Q 163 #[Pz k r c q,Z ro rn rc] w fun e w'=>e=U (Y #[O J y,b z,O J E])/\b7 w w':=by
 obtain⟨w0,bi⟩:=jM w k r c q
 have b0:=jt bi
 have HH:=fE h w0 ro rn rc A L C F (hr.below b0) E hE 0 za y hy z hz;clear hr hE h hy hz;go_enter Tryz.func163,Tryz.ntmps163
 go_wp2_with fail
 rw [<- bi];refine HH.mono ?_;rintro e wa ⟨rfl,ha⟩;have BA:=am (ap b0 ha);clear ha b0 bi HH;go_wp2_with fail
 refine bodyPost_ret (v:=Y #[O J y,b z,O J E]) (by simp [results,Tryz.results163,go_sem]) rfl ?_;exact⟨rfl,BA.out⟩
theorem Runner_any{k r c q:Int}{N W:Nat}{x:Int}(h:Par k r c q N W x)(w:X)(ro:Option j)(rn rc:Nat)(A:Nat->Option j)(L C:Nat->Nat)(F:Nat->Nat->UInt8)(hr:Rw w ro rn A L C F)(E:Int)(hE:erR x N c rn L=E)(y:Int)(hy:rdv E (wins k (hP N c L F) (hQ N c L F) N) 1=y)(z:Bool)(hz:rdb E (wins k (hP N c L F) (hQ N c L F) N) 1=z):
  H Q 178 #[Pz k r c q,Z ro rn rc] w fun e w'=>e=U (Y #[O J y,b z,O J E])/\b7 w w':=by
 obtain⟨w0,bi⟩:=jM w k r c q
 have b0:=jt bi
 have HH:=fE h w0 ro rn rc A L C F (hr.below b0) E hE 1 za y hy z hz;clear hr hE h hy hz;go_enter Tryz.func178,Tryz.ntmps178
 go_wp2_with fail
 rw [<- bi];refine HH.mono ?_;rintro e wa ⟨rfl,ha⟩;have BA:=am (ap b0 ha);clear ha b0 bi HH;go_wp2_with fail
 refine bodyPost_ret (v:=Y #[O J y,b z,O J E]) (by simp [results,Tryz.results178,go_sem]) rfl ?_;exact⟨rfl,BA.out⟩
theorem tY{w:X}{B B':Nat}{v:Value}{zs:List Int}(h:w.ownsInts B 3 J v zs)(hb:B'<=B):w.ownsInts B' 3 J v zs:=⟨ez h.1 hb,h.2⟩
end Go.Proofs.YtemlojjkokooeaaGreat.Cn
namespace Go.Proofs.YtemlojjkokooeaaGreat
open Go.RowKit
def Askd (w:X) (fn:Nat) (k r c q:Int) (ro:Option j) (rn rc:Nat) (y:Int) (z:Bool) (E:Int):Prop:=∀ u,b7 w u->H Q fn #[.agg #[.int .i64 k,.int .i64 r,.int .i64 c,.int .i64 q,.slice ro rn rc]] u fun e w'=>e=.returned (.tuple #[.int .i64 y,.bool z,.int .i64 E])/\b7 u w'
theorem Askd.below{w w':X}{fn:Nat}{k r c q:Int}{ro:Option j}{rn rc:Nat}{y:Int}{z:Bool}{E:Int}(h:Askd w fn k r c q ro rn rc y z E)(hb:b7 w w'):Askd w' fn k r c q ro rn rc y z E:=fun u hu=>h u (ap hb hu)
theorem iV{k r c q:Int}{N W:Nat}{x:Int}(h:Par k r c q N W x)(w:X)(ro:Option j)(rn rc:Nat)(A:Nat->Option j)(L C:Nat->Nat)(F:Nat->Nat->UInt8)(hr:Rw w ro rn A L C F)(E:Int)(hE:erR x N c rn L=E)(y:Int)(hy:Cn.rdv E (Cn.wins k (Cn.hP N c L F) (Cn.hQ N c L F) N) 0=y)(z:Bool)(hz:Cn.rdb E (Cn.wins k (Cn.hP N c L F) (Cn.hQ N c L F) N) 0=z):Askd w 98 k r c q ro rn rc y z E:=fun u hu=>by
 obtain⟨w0,bi⟩:=fd (u.alloc (T #[O J k,O J r,O J c,O J q,Z ro rn rc] 136))
 have b0:=jt bi
 have HH:=Cn.Winner_any h w0 ro rn rc A L C F (hr.below (ap hu b0)) E hE y hy z hz;clear hr hE h hy hz;go_enter Tryz.func98,Tryz.ntmps98
 go_wp2_with fail
 rw [<- bi];refine HH.mono ?_;rintro e wa ⟨rfl,ha⟩;have BA:=am (ap b0 ha);clear ha b0 bi HH;go_wp2_with fail
 refine bodyPost_ret (v:=Y #[O J y,b z,O J E]) (by simp [results,Tryz.results98,go_sem]) rfl ?_;exact⟨rfl,BA.out⟩
theorem iW(fn:Nat)(yO:∀ xs w,(callFunc fn xs).run Q w=.ok (.enter fn xs) w){k r c q:Int}(w:X)(ro:Option j)(rn rc:Nat)(y:Int)(z:Bool)(E:Int)(h:Askd w fn k r c q ro rn rc y z E):
  H Q 97 #[Pz k r c q,Z ro rn rc,.func (.func fn) #[] #[]] w fun e w'=>e=U (Y #[O J y,O J E])/\b7 w w':=by
 obtain⟨w0,bi⟩:=jM w k r c q
 have b0:=jt bi
 have HH:=h w0 b0;clear h;go_enter Tryz.func97,Tryz.ntmps97
 go_wp2_with fail
 rw [<- bi];refine HH.mono ?_;rintro e wa ⟨rfl,ha⟩;have BA:=am (ap b0 ha);clear ha b0 bi HH;go_wp2_with fail
 refine bodyPost_ret (v:=Y #[O J y,O J E]) (by simp [results,Tryz.results97,go_sem]) rfl ?_;exact⟨rfl,BA.out⟩
def fP (E:Int) (z:Bool):Int:=if E=0 then (if z=s then 0 else 5) else E
def lenO (E:Int) (z:Bool) (y:Int):Int:=if E=0/\z=l then 0 else y
theorem iy(fn:Nat)(yO:∀ xs w,(callFunc fn xs).run Q w=.ok (.enter fn xs) w){k r c q:Int}(w:X)(ro:Option j)(rn rc:Nat)(y:Int)(z:Bool)(E:Int)(h:Askd w fn k r c q ro rn rc y z E):
  H Q 105 #[Pz k r c q,Z ro rn rc,.func (.func fn) #[] #[]] w fun e w'=>e=U (Y #[O J (lenO E z y),O J (fP E z)])/\b7 w w':=by
 obtain⟨w0,bi⟩:=jM w k r c q
 have b0:=jt bi
 have HH:=h w0 b0;clear h;unfold lenO fP;by_cases hE:E=0
 ·subst hE;cases z
  ·rw [zk ⟨rfl,rfl⟩,zk rfl,zl zb];go_enter Tryz.func105,Tryz.ntmps105
   go_wp2_with fail
   rw [<- bi];refine HH.mono ?_;rintro e wa ⟨rfl,ha⟩;have BA:=am (ap b0 ha);clear ha b0 bi HH;go_wp2_with fail
   refine bodyPost_ret (v:=Y #[O J 0,O J 5]) (by simp [results,Tryz.results105,go_sem]) rfl ?_;exact⟨rfl,BA.out⟩
  ·rw [zl (fun e=>by cases e.2),zk rfl,zk rfl];go_enter Tryz.func105,Tryz.ntmps105
   go_wp2_with fail
   rw [<- bi];refine HH.mono ?_;rintro e wa ⟨rfl,ha⟩;have BA:=am (ap b0 ha);clear ha b0 bi HH;go_wp2_with fail
   refine bodyPost_ret (v:=Y #[O J y,O J 0]) (by simp [results,Tryz.results105,go_sem]) rfl ?_;exact⟨rfl,BA.out⟩
 ·have hz:(E == 0)=l:=by simpa using hE
  rw [zl (fun e=>hE e.1),zl hE];clear hE;go_enter Tryz.func105,Tryz.ntmps105
  go_wp2_with fail
  rw [<- bi];refine HH.mono ?_;rintro e wa ⟨rfl,ha⟩;have BA:=am (ap b0 ha);clear ha b0 bi HH;go_wp2_with fail
  refine bodyPost_ret (v:=Y #[O J y,O J E]) (by simp [results,Tryz.results105,go_sem]) rfl ?_;exact⟨rfl,BA.out⟩
theorem lO(w:X)(k r c q nu:Int):
  H Q 99 #[Pz k r c q,O J nu] w fun e w'=>e=U (b (decide (0<=nu/\nu<q)))/\b7 w w':=by
 by_cases h1:0<=nu
 ·have e1:decide (0<=nu)=s:=zm h1;have e2:decide (0<=nu/\nu<q)=decide (nu<q):=by simp [h1]
  rw [e2];go_enter Tryz.func99,Tryz.ntmps99
  go_wp2;go_ret;exact⟨rfl,bal _ _⟩
 ·have e1:decide (0<=nu)=l:=zp h1;have e2:decide (0<=nu/\nu<q)=l:=zp fun h=>h1 h.1;rw [e2];go_enter Tryz.func99,Tryz.ntmps99
  go_wp2;go_ret;exact⟨rfl,bal _ _⟩
theorem ml{k r c q:Int}{N W:Nat}{x:Int}(h:Par k r c q N W x)(w:X):
  H Q 43 #[Pz k r c q] w fun e w'=>e=U (Y #[O J (if x=0 then k else 0),O J x])/\b7 w w':=by
 have HC:=fun w=>eQ k r c q w;have hx:erP k r c q=x:=h.erP;rw [hx] at HC;obtain⟨w0,bi⟩:=jM w k r c q
 have b0:=jt bi
 clear h hx;by_cases e:x=0
 ·subst e;rw [zk rfl];go_enter Tryz.func43,Tryz.ntmps43
  go_wp2_with fail
  rw [<- bi];refine(HC _).mono ?_;rintro e wa ⟨rfl,ha⟩;have s0:=(ak bi ha).1;have BA:=am (ap b0 ha);clear ha bi;go_wp2_with fail
  refine bodyPost_ret (v:=Y #[O J k,O J 0]) (by simp [results,Tryz.results43,go_sem]) rfl ?_;exact⟨rfl,BA.out⟩
 ·have hz:(x != 0)=s:=by simpa using e
  rw [zl e];clear e;go_enter Tryz.func43,Tryz.ntmps43
  go_wp2_with fail
  rw [<- bi];refine(HC _).mono ?_;rintro e wa ⟨rfl,ha⟩;have BA:=am (ap b0 ha);clear ha bi;go_wp2_with fail
  refine bodyPost_ret (v:=Y #[O J 0,O J x]) (by simp [results,Tryz.results43,go_sem]) rfl ?_;exact⟨rfl,BA.out⟩
def dV (w:X) (E y A D:Int) (n:Nat) (R V:Nat->Int) (e:Ending) (w':X):Prop :=
  ∃ ao cp,e=.returned (.tuple #[.agg #[.int .i64 (De.lenI E A),.int .i64 (De.lenI E D),.slice ao (aK E n) cp],.int .i64 (De.lenI E y),.int .i64 E])/\De.OwR w.heap.size w' ao (aK E n) cp R V/\b7 w w'
theorem bs{B:Nat}{w v:X}{g:Nat}(h:I B w v)(hg:B<=g)(u0 u1 u2:Value):I B w (((v.setCell ⟨g,0,G⟩ u0).setCell ⟨g,1,G⟩ u1).setCell ⟨g,2,G⟩ u2):=((h.setCell hg _).setCell hg _).setCell hg _
theorem lU{k r c q:Int}(w:X)(ro:Option j)(rn rc:Nat)(y eL:Int)(f9:eL ≠ 0)(HA:S (∀ u,b7 w u->H Q 105 #[Pz k r c q,Z ro rn rc,.func (.func 98) #[] #[]] u fun e w'=>e=U (Y #[O J y,O J eL])/\b7 u w'))(A D:Int)(n:Nat)(R V:Nat->Int)(v:Int):
  H Q 39 #[Pz k r c q,Z ro rn rc] w (dV w eL v A D n R V):=by
 have hz:(eL != 0)=s:=by simpa using f9
 unfold dV;rw [aZ n f9,De.lenI_not f9,De.lenI_not f9,De.lenI_not f9];clear f9;obtain⟨w0,bi⟩:=jM w k r c q
 obtain⟨w1,ci⟩:=fd (w0.alloc (T #[O J 0,O J 0,Z G 0 0] 60))
 have b0:=jt bi
 have b1:=jt ci
 have z0:=ks bi
 go_enter Tryz.func39,Tryz.ntmps39
 go_wp2_with fail
 rw [<- bi,<- ci];refine(HA.out _ (ap b0 b1)).mono ?_;rintro e wa ⟨rfl,ha⟩;have t0:=ae ci ha 0 rfl;have t1:=ae ci ha 1 rfl;have t2:=ae ci ha 2 rfl;have f:=aI ci ha;rw [z0] at t0 t1 t2 f;clear bi ci;go_wp2_with fail
 refine bodyPost_ret (v:=Y #[P #[O J 0,O J 0,Z G 0 0],O J 0,O J eL]) (by simp [results,Tryz.results39,go_sem,t0,t1,t2]) rfl ⟨G,0,rfl,De.owr_nil _ _ _ _,?_⟩;exact bs (ap (ap b0 b1) ha) (p _) _ _ _
theorem AF{k r c q:Int}{W:Nat}(w:X)(ro:Option j)(rn rc:Nat)(y e1 e2:Int)(F:Nat->UInt8)(A D:Int)(n:Nat)(R V:Nat->Int)
  (HA:S (∀ u,b7 w u->H Q 105 #[Pz k r c q,Z ro rn rc,.func (.func 98) #[] #[]] u fun e w'=>e=U (Y #[O J y,O J 0])/\b7 u w'))
  (HR:S (∀ u,b7 w u->H Q 17 #[Pz k r c q,Z ro rn rc,O .u8 2,O J y] u (AnsB u e1 W F)))
  (HP:S (e1=0->∀ u bo bc,Bec u bo W bc F->H Q 106 #[Pz k r c q,Z bo W bc] u (De.AnsD u e2 A D n R V))) (E:Int) (hE:dW e1 e2=E) :
  H Q 39 #[Pz k r c q,Z ro rn rc] w (dV w E y A D n R V):=by
 unfold dW at hE;unfold dV;obtain⟨w0,bi⟩:=jM w k r c q
 obtain⟨w1,ci⟩:=fd (w0.alloc (T #[O J 0,O J 0,Z G 0 0] 60))
 have b0:=jt bi
 have b1:=jt ci
 have z0:=ks bi
 have xK:S (w1.heap.size=w.heap.size+2):=by show _=_;rw [ci];simp [z0]
 have HQ:S (∀ u,b7 w1 u->(u.cell? ⟨w.heap.size,0,G⟩=m (O J k)/\u.cell? ⟨w.heap.size,1,G⟩=m (O J r)/\u.cell? ⟨w.heap.size,2,G⟩=m (O J c)/\u.cell? ⟨w.heap.size,3,G⟩=m (O J q))/\(u.cell? ⟨w.heap.size+1,0,G⟩=m (O J 0)/\u.cell? ⟨w.heap.size+1,1,G⟩=m (O J 0)/\u.cell? ⟨w.heap.size+1,2,G⟩=m (Z G 0 0))/\∀ i,u.frozen? ⟨w.heap.size+1,i,G⟩=l):=fun u hu=>⟨ak bi (ap b1 hu),by rw [<- z0];exact⟨⟨ae ci hu 0 rfl,ae ci hu 1 rfl,ae ci hu 2 rfl⟩,aI ci hu⟩⟩
 have io:=am (ap b0 b1);by_cases h1:e1=0
 ·subst h1;rw [zk rfl] at hE;subst hE;have kp:=HP.out rfl;unfold AnsB at HR;rw [aQ] at HR;by_cases h2:e2=0
  ·subst h2;rw [aQ,De.lenI_zero,De.lenI_zero,De.lenI_zero];unfold De.AnsD at kp;rw [aQ,De.lenI_zero,De.lenI_zero] at kp;go_enter Tryz.func39,Tryz.ntmps39
   go_wp2_with fail
   rw [<- bi,<- ci];clear bi ci z0 b0 b1;refine(HA.out _ io.out).mono ?_;rintro e wa ⟨rfl,ha⟩;obtain⟨⟨s0,s1,s2,s3⟩,_⟩:=HQ.out wa ha;go_wp2_with fail
   refine(HR.out _ (ap io.out ha)).mono ?_;rintro e wb ⟨bo,bc,rfl,yU,hb⟩;have kK:=ap ha hb;clear s0 s1 s2 s3;obtain⟨⟨s0,s1,s2,s3⟩,_⟩:=HQ.out wb kK;have qm:=yU.bec;clear yU ha hb;go_wp2_with fail
   refine(kp _ bo bc qm).mono ?_;rintro e wc ⟨ao,cp,rfl,how,hc⟩;have qQ:=am (ap kK hc);have kR:=am how;have Rm:S (w.heap.size+2<=wb.heap.size):=by show _<=_;rw [<- xK.out];exact kK.size
   have t0:=fun o=>(HQ.out (wc.alloc o) (ap qQ.out (bal _ o))).2.1.1;have t1:=fun o=>(HQ.out (wc.alloc o) (ap qQ.out (bal _ o))).2.1.2.1;have t2:=fun o=>(HQ.out (wc.alloc o) (ap qQ.out (bal _ o))).2.1.2.2;have f:=fun o i=>(HQ.out (wc.alloc o) (ap qQ.out (bal _ o))).2.2 i;clear s0 s1 s2 s3 kK hc how qm kp HP HR HA;go_wp2_with fail
   refine bodyPost_ret (v:=Y #[P #[O J A,O J D,Z ao n cp],O J y,O J 0]) (by simp [results,Tryz.results39,go_sem,t0,t1,t2]) rfl ⟨ao,cp,rfl,?_,?_⟩
   ·have h5:=Rm.out;refine De.OwR.mono (B:=wb.heap.size) ((kR.out.below (bal _ (T #[O J A,O J D,Z ao n cp] 60))).stay fun t ht KC=>?_) za;have f9:t ≠ w.heap.size+1:=za;rw [heap_setCell_other _ _ _ _ f9,heap_setCell_other _ _ _ _ f9,heap_setCell_other _ _ _ _ f9]
   ·exact bs (ap (ap io.out qQ.out) (bal _ _)) (p _) _ _ _
  ·have hz:(e2 != 0)=s:=by simpa using h2
   rw [aZ n h2,De.lenI_not h2,De.lenI_not h2,De.lenI_not h2];unfold De.AnsD at kp;rw [aZ n h2,De.lenI_not h2,De.lenI_not h2] at kp;clear h2;go_enter Tryz.func39,Tryz.ntmps39
   go_wp2_with fail
   rw [<- bi,<- ci];clear bi ci z0 b0 b1;refine(HA.out _ io.out).mono ?_;rintro e wa ⟨rfl,ha⟩;obtain⟨⟨s0,s1,s2,s3⟩,_⟩:=HQ.out wa ha;go_wp2_with fail
   refine(HR.out _ (ap io.out ha)).mono ?_;rintro e wb ⟨bo,bc,rfl,yU,hb⟩;have kK:=ap ha hb;clear s0 s1 s2 s3;obtain⟨⟨s0,s1,s2,s3⟩,_⟩:=HQ.out wb kK;have qm:=yU.bec;clear yU ha hb;go_wp2_with fail
   refine(kp _ bo bc qm).mono ?_;rintro e wc ⟨ao,cp,rfl,_,hc⟩;have qQ:=am (ap kK hc);have t0:=fun o=>(HQ.out (wc.alloc o) (ap qQ.out (bal _ o))).2.1.1;have t1:=fun o=>(HQ.out (wc.alloc o) (ap qQ.out (bal _ o))).2.1.2.1;have t2:=fun o=>(HQ.out (wc.alloc o) (ap qQ.out (bal _ o))).2.1.2.2;have f:=fun o i=>(HQ.out (wc.alloc o) (ap qQ.out (bal _ o))).2.2 i;clear s0 s1 s2 s3 kK hc qm kp HP HR HA;go_wp2_with fail
   refine bodyPost_ret (v:=Y #[P #[O J 0,O J 0,Z G 0 0],O J 0,O J e2]) (by simp [results,Tryz.results39,go_sem,t0,t1,t2]) rfl ⟨G,0,rfl,De.owr_nil _ _ _ _,?_⟩;exact bs (ap (ap io.out qQ.out) (bal _ _)) (p _) _ _ _
 ·have hz:(e1 != 0)=s:=by simpa using h1
  rw [zl h1] at hE;subst hE;rw [aZ n h1,De.lenI_not h1,De.lenI_not h1,De.lenI_not h1];go_enter Tryz.func39,Tryz.ntmps39
  go_wp2_with fail
  rw [<- bi,<- ci];clear bi ci z0 b0 b1 h1;refine(HA.out _ io.out).mono ?_;rintro e wa ⟨rfl,ha⟩;obtain⟨⟨s0,s1,s2,s3⟩,_⟩:=HQ.out wa ha;go_wp2_with fail
  refine(HR.out _ (ap io.out ha)).mono ?_;rintro e wb ⟨bo,bc,rfl,_,hb⟩;have qQ:=am (ap ha hb);obtain⟨_,⟨t0,t1,t2⟩,f⟩:=HQ.out wb qQ.out;clear s0 s1 s2 s3 ha hb HP HR HA;go_wp2_with fail
  refine bodyPost_ret (v:=Y #[P #[O J 0,O J 0,Z G 0 0],O J 0,O J e1]) (by simp [results,Tryz.results39,go_sem,t0,t1,t2]) rfl ⟨G,0,rfl,De.owr_nil _ _ _ _,?_⟩;exact bs (ap io.out qQ.out) (p _) _ _ _
def wnV (k:Int) (N:Nat) (c:Int) (L:Nat->Nat) (F:Nat->Nat->UInt8):Int:=(Cn.wins k (Cn.hP N c L F) (Cn.hQ N c L F) N).getD 0 0
def wnB (k:Int) (N:Nat) (c:Int) (L:Nat->Nat) (F:Nat->Nat->UInt8):Bool:=decide (0<(Cn.wins k (Cn.hP N c L F) (Cn.hQ N c L F) N).length)
def wnD (k:Int) (N:Nat) (c:Int) (L:Nat->Nat) (F:Nat->Nat->UInt8):Nat->UInt8:=dI c.toNat (cH k.toNat (zv N c L F 2 (wnV k N c L F)) N)
def rP (x:Int) (W:Nat) (k c q:Int) (N rn:Nat) (L:Nat->Nat) (F:Nat->Nat->UInt8):Int :=
  if fP (erR x N c rn L) (wnB k N c L F)=0 then dW (dW (erK x N c rn L 2 (wnV k N c L F)) (erL k.toNat (zv N c L F 2 (wnV k N c L F)) N)) (De.erB x W q W (wnD k N c L F)) else fP (erR x N c rn L) (wnB k N c L F)
theorem uf{k r c q:Int}{N W:Nat}{x:Int}(h:Par k r c q N W x)(w:X)(ro:Option j)(rn rc:Nat)(A:Nat->Option j)(L C:Nat->Nat)(F:Nat->Nat->UInt8)(hr:Rw w ro rn A L C F)(E:Int)(hE:rP x W k c q N rn L F=E):
  H Q 39 #[Pz k r c q,Z ro rn rc] w (dV w E (wnV k N c L F) ((nm (wnD k N c L F) 0 4:Nat):Int) ((nm (wnD k N c L F) 4 1:Nat):Int) (nm (wnD k N c L F) 5 2) (De.rdR (wnD k N c L F) 7) (De.rdV (wnD k N c L F) 7)):=by
 obtain⟨E0,kT⟩:=km (erR x N c rn L)
 obtain⟨y,hy⟩:=km (Cn.rdv E0 (Cn.wins k (Cn.hP N c L F) (Cn.hQ N c L F) N) 0)
 obtain⟨z,hz⟩:=km (Cn.rdb E0 (Cn.wins k (Cn.hP N c L F) (Cn.hQ N c L F) N) 0)
 have HA:=fun u (hu:b7 w u)=>iy 98 (fun _ _=>rfl) u ro rn rc y z E0 ((iV h w ro rn rc A L C F hr E0 kT y hy z hz).below hu);unfold rP at hE;by_cases e0:E0=0
 ·subst e0;have Hl:z=wnB k N c L F:=by rw [<- hz];unfold Cn.rdb wnB;simp
  have Ji:y=wnV k N c L F:=by rw [<- hy];unfold Cn.rdv wnV;rw [zk rfl]
  rw [kT,<- Hl] at hE;unfold fP at hE HA;rw [zk rfl] at hE HA;cases z
  ·rw [zl zb,zl zb] at hE;rw [zl zb] at HA;rw [<- hE];exact lU w ro rn rc _ 5 zb HA _ _ _ _ _ _
  ·rw [zk rfl,zk rfl] at hE;rw [zk rfl] at HA;unfold lenO at HA;rw [zl (fun e=>by cases e.2),Ji] at HA;have hx:x=0:=by
    unfold erR at kT;by_cases e:x=0
    ·exact e
    ·rw [zl e] at kT;exact kT
   subst hx;obtain⟨e1,OZ⟩:=km (dW (erK 0 N c rn L 2 (wnV k N c L F)) (erL k.toNat (zv N c L F 2 (wnV k N c L F)) N))
   have hW:k.toNat*c.toNat=W:=by
    rcases h with ⟨hm,hW,_⟩ | ⟨_,_,_,h0⟩
    ·obtain⟨h1,h2,h3,h4,h5,h6,h7,h8,h9⟩:=aB hm;have e1:k=(k.toNat:Int):=za;have e2:c=(c.toNat:Int):=za;rw [e1,e2,<- Int.natCast_mul] at hW;exact(Int.ofNat.inj hW).symm
    ·exact absurd h0 zb
   have HR:=fun u (hu:b7 w u)=>vj h u ro rn rc A L C F (hr.below hu) 2 (wnV k N c L F) e1 OZ;rw [hW] at HR;rw [OZ] at hE;exact AF w ro rn rc (wnV k N c L F) e1 (De.erB 0 W q W (wnD k N c L F)) (wnD k N c L F) _ _ _ _ _ HA HR (fun _ u bo bc hb=>De.Parse_any h u bo W bc _ hb _ rfl) E hE
 ·rw [kT] at hE;have f9:fP E0 (wnB k N c L F)=E0:=by unfold fP;rw [zl e0]
  have Rn:fP E0 z=E0:=by unfold fP;rw [zl e0]
  rw [f9,zl e0] at hE;rw [Rn] at HA;rw [<- hE];exact lU w ro rn rc _ E0 e0 HA _ _ _ _ _ _
end Go.Proofs.YtemlojjkokooeaaGreat
