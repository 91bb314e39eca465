import Derived.Test.YtemlojjkokooeaaGreatTm21
open Go.Value renaming int->J,slice->I,agg->ja,tuple->jb
open Go.IntKind renaming i64->O
open Go.RowKit renaming Below->Q,Hid->H
open Option renaming none->Z,some->u
open Go.Proofs.Tryz renaming prog->U
open Go.Ending renaming returned->X
open Nat renaming le_succ->G,zero_le->je
open Bool renaming true->T,false->B
open Go renaming Addr->S,World->p,Calls->jc,Value->jd
open Go.RowKit.Below renaming refl->o
open Go.Obj renaming cells->jf
set_option maxHeartbeats 16000000
set_option maxRecDepth 100000
namespace Go.Proofs.YtemlojjkokooeaaGreat
def tB (y:Sl) (kd:UInt8) (v:Int):Bool:=decide (y.kd=kd/\y.st=v)
def tS (Y:Nat->Sl) (kd:UInt8) (v:Int):Nat->Sl
  | 0=>zSl
  | m+1=>if (tS Y kd v m).ce=0 then (if tB (Y m) kd v=T then Y m else zSl) else tS Y kd v m
def zz (Y:Nat->Sl) (kd:UInt8) (t:Sl) (i:Nat):Sl:=if t.ce=0 then zSl else fZ (Y (2*i)) (Y (2*i+1)) kd (t.V i)
def yy (N:Nat) (c:Int) (L:Nat->Nat) (F:Nat->Nat->UInt8) (j:Nat):Sl:=he 0 N c ((j / 2:Nat):Int) (L j) (F j)
def Is (N:Nat) (c:Int) (y:Sl) (i:Nat):Prop:=okS N c y=T/\y.ix=(i:Int)
def OkY (N:Nat) (c:Int) (Y:Nat->Sl):Prop:=∀ j,j<2*N->Y j=zSl\/Is N c (Y j) (j / 2)
theorem he_is(N:Nat)(c ix:Int)(n:Nat)(F:Nat->UInt8):he 0 N c ix n F=zSl\/(okS N c (he 0 N c ix n F)=T/\(he 0 N c ix n F).ix=ix/\isS N c n F=T/\he 0 N c ix n F=dec N c F):=by
 unfold he ofI slQ;rw [zk rfl];cases e:isS N c n F
 ·rw [zl Bool.false_ne_true];by_cases h:zSl.ix=ix
  ·rw [zk h];exact .inl rfl
  ·rw [zl h];exact .inl rfl
 ·rw [zk rfl];by_cases h:(dec N c F).ix=ix
  ·rw [zk h];exact .inr ⟨(eH e).2.2.2,h,rfl,rfl⟩
  ·rw [zl h];exact .inl rfl
theorem cL(N:Nat)(c:Int)(L:Nat->Nat)(F:Nat->Nat->UInt8):OkY N c (yy N c L F):=fun j _=>by
 rcases he_is N c ((j / 2:Nat):Int) (L j) (F j) with h | ⟨h1,h2,_⟩
 ·exact .inl h
 ·exact .inr ⟨h1,h2⟩
theorem wI{R:Nat->Int}:∀ {n i:Nat},i<n->R i<=mx R n
 | 0,_,h=>absurd h (Nat.not_lt_zero _)
 | n+1,i,h=>by
  rw [mx,gr];by_cases e:i=n
  ·subst e;split <;> omega
  ·have:=wI (R:=R) (n:=n) (i:=i) za;split <;> omega
structure Ok (N:Nat) (c:Int) (s:Sl):Prop where
  vn:s.vn=N
  V:∀ i,i<N->1<=s.V i/\s.V i<=1073741824
  kd:s.kd=1\/s.kd=2
  ix:0<=s.ix/\s.ix<(N:Int)
  dn:(s.dn:Int)=c
  st:s.st=mx s.V N
  ce:s.ce=s.V s.ix.toNat
theorem bD{N:Nat}{c:Int}{s:Sl}(h:okS N c s=T):Ok N c s:=by
 obtain⟨⟨k1,k2⟩,k3,k4,k5,k6,k7,k8⟩:=dY h;subst k1;exact⟨rfl,k2,k3,⟨k4,k5⟩,k6,k7,k8⟩
theorem Ok.ok{N:Nat}{c:Int}{s:Sl}(h:Ok N c s):okS N c s=T:=by
 have h1:=h.vn;refine zm ⟨⟨h1,fun i hi=>h.V i za⟩,h.kd,h.ix.1,by have:=h.ix.2;omega,h.dn,by rw [h1];exact h.st,h.ce⟩
theorem Ok.ne{N:Nat}{c:Int}{s:Sl}(h:Ok N c s):s.ce ≠ 0:=by
 have:=h.V s.ix.toNat (by have:=h.ix;omega)
 have:=h.ce;omega
theorem Ok.le{N:Nat}{c:Int}{s:Sl}(h:Ok N c s):s.ce<=s.st:=by
 rw [h.ce,h.st];exact wI (by have:=h.ix;omega)
theorem Is.ce{N:Nat}{c:Int}{y:Sl}{i:Nat}(h:Is N c y i):y.ce=y.V i:=by
 have:=(bD h.1).ce;rw [h.2,Int.toNat_natCast] at this;exact this
theorem Dm{N:Nat}{c:Int}{y:Sl}{i:Nat}{kd:UInt8}{v:Int}(hk:kd=1\/kd=2)(h:y=zSl\/Is N c y i)(ht:tB y kd v=T):Is N c y i:=by
 rcases h with rfl | h
 ·have:=(of_decide_eq_true ht).1;rcases hk with rfl | rfl <;> exact absurd this zb
 ·exact h
theorem sj{Y:Nat->Sl}{kd:UInt8}{v:Int}{m n:Nat}(h:(tS Y kd v m).ce ≠ 0)(hm:m<=n):tS Y kd v n=tS Y kd v m:=by
 induction n with
 | zero=>rw [show m=0 by omega]
 | succ n ih =>
  by_cases e:m=n+1
  ·rw [e]
  ·have:=ih za;rw [tS,this,zl h]
theorem dB{N:Nat}{c:Int}{Y:Nat->Sl}{kd:UInt8}{v:Int}(hk:kd=1\/kd=2)(hY:OkY N c Y):∀ m,m<=2*N->(tS Y kd v m=zSl/\∀ j,j<m->tB (Y j) kd v=B)\/∃ j,j<m/\tS Y kd v m=Y j/\tB (Y j) kd v=T/\Is N c (Y j) (j / 2)/\∀ j',j'<j->tB (Y j') kd v=B
 | 0,_=>.inl ⟨rfl,fun j h=>absurd h (Nat.not_lt_zero j)⟩
 | m+1,hm=>by
  rcases dB hk hY m za with ⟨h1,h2⟩ | ⟨j,h1,h2,h3,h4,h5⟩
  ·rw [tS,h1,zk (show zSl.ce=0 from rfl)];cases e:tB (Y m) kd v
   ·rw [zl Bool.false_ne_true];refine .inl ⟨rfl,fun j hj=>?_⟩;by_cases g:j=m
    ·rw [g];exact e
    ·exact h2 j za
   ·rw [zk rfl];exact .inr ⟨m,za,rfl,e,Dm hk (hY m za) e,h2⟩
  ·rw [tS,h2,zl (bD h4.1).ne];exact .inr ⟨j,za,rfl,h3,h4,h5⟩
theorem da{y:Sl}{kd:UInt8}{v:Int}(h:hB y kd v=T):v ≠ 0/\y.kd=kd/\y.ce=v:=of_decide_eq_true h
theorem fZ_is{N:Nat}{c:Int}{y0 y1:Sl}{i:Nat}{kd:UInt8}{v:Int}(h0:y0=zSl\/Is N c y0 i)(h1:y1=zSl\/Is N c y1 i):(fZ y0 y1 kd v=zSl/\hB y0 kd v=B/\hB y1 kd v=B)\/(Is N c (fZ y0 y1 kd v) i/\(fZ y0 y1 kd v).kd=kd/\(fZ y0 y1 kd v).ce=v/\v ≠ 0):=by
 unfold fZ;cases e0:hB y0 kd v
 ·rw [zl Bool.false_ne_true];cases e1:hB y1 kd v
  ·rw [zl Bool.false_ne_true];exact .inl ⟨rfl,rfl,rfl⟩
  ·rw [zk rfl];obtain⟨a,b,d⟩:=da e1;refine .inr ⟨?_,b,d,a⟩;rcases h1 with rfl | h
   ·exact absurd d.symm a
   ·exact h
 ·rw [zk rfl];obtain⟨a,b,d⟩:=da e0;refine .inr ⟨?_,b,d,a⟩;rcases h0 with rfl | h
  ·exact absurd d.symm a
  ·exact h
theorem sW{N:Nat}{c:Int}{Y:Nat->Sl}(hY:OkY N c Y){i:Nat}(hi:i<N):(Y (2*i)=zSl\/Is N c (Y (2*i)) i)/\(Y (2*i+1)=zSl\/Is N c (Y (2*i+1)) i):=by
 have h0:=hY (2*i) za;have h1:=hY (2*i+1) za;rw [show 2*i / 2=i by omega] at h0;rw [show (2*i+1) / 2=i by omega] at h1;exact⟨h0,h1⟩
theorem Dp{N:Nat}{c:Int}{Y:Nat->Sl}{kd:UInt8}(hY:OkY N c Y)(t:Sl){i:Nat}(hi:i<N):zz Y kd t i=zSl\/(Is N c (zz Y kd t i) i/\(zz Y kd t i).kd=kd/\(zz Y kd t i).ce=t.V i/\t.ce ≠ 0):=by
 unfold zz;by_cases e:t.ce=0
 ·rw [zk e];exact .inl rfl
 ·rw [zl e];obtain⟨h0,h1⟩:=sW hY hi;rcases fZ_is (kd:=kd) (v:=t.V i) h0 h1 with ⟨h,_⟩ | ⟨h,g,f,_⟩
  ·exact .inl h
  ·exact .inr ⟨h,g,f,e⟩
open Go.RowKit
structure Rw (w:World) (ro:Option Addr) (rn:Nat) (A:Nat->Option Addr) (L C:Nat->Nat) (F:Nat->Nat->UInt8):Prop where
  at_:0<rn->∃ b off,ro=some ⟨b,off,none⟩/\∀ i,i<rn->w.cell? ⟨b,off+i*2,none⟩=some (.slice (A (2*i)) (L (2*i)) (C (2*i)))/\w.cell? ⟨b,off+i*2+1,none⟩=some (.slice (A (2*i+1)) (L (2*i+1)) (C (2*i+1)))
  bec:∀ j,j<2*rn->Bec w (A j) (L j) (C j) (F j)
theorem Rw.below{w w':p}{ro:Option S}{rn:Nat}{A:Nat->Option S}{L C:Nat->Nat}{F:Nat->Nat->UInt8}(h:Rw w ro rn A L C F)(hb:b7 w w'):Rw w' ro rn A L C F:=by
 refine⟨fun hp=>?_,fun j hj=>(h.bec j hj).below hb⟩;obtain⟨b,off,rfl,hc⟩:=h.at_ hp;exact⟨b,off,rfl,fun i hi=>⟨held (hc i hi).1 hb,held (hc i hi).2 hb⟩⟩
theorem ej(n a b:Int)(w:p):
  jc U 132 #[J O n,J O a,J O b] w fun e w'=>e=X (.bool (decide (a<=n/\n<=b)))/\w'=w:=by
 rw [Bool.decide_and];go_enter Tryz.func132,Tryz.ntmps132
 go_wp2
 ·go_ret;exact⟨ay (by rw [zm (show a<=n by omega)];rfl),rfl⟩
 ·go_ret;exact⟨ay (by rw [zp (show ¬ a<=n by omega)];rfl),rfl⟩
def sH (w:p) (fn:Nat) (cp:Array jd) (n:Nat) (A:Nat->Option S) (L C:Nat->Nat) (P:Nat->Bool):Prop :=
  ∀ i,i<n->jc U fn (#[.slice (A i) (L i) (C i)] ++ cp) w fun e w'=>e=.returned (.bool (P i))/\w'=w
def RdC (w:p) (ao:Option S) (n:Nat) (A:Nat->Option S) (L C:Nat->Nat):Prop:=0<n->∃ b off,ao=u ⟨b,off,Z⟩/\∀ i,i<n->w.cell? ⟨b,off+i,Z⟩=u (.slice (A i) (L i) (C i))
theorem pK(w:p)(ao:Option S)(n ca fn:Nat)(cp:Array jd)(A:Nat->Option S)(L C:Nat->Nat)(P:Nat->Bool)(hn:n<=1000)(yO:∀ xs w,(callFunc fn xs).run U w=.ok (.enter fn xs) w)(hr:RdC w ao n A L C)(hf:sH w fn cp n A L C P):
  jc U 276 #[I ao n ca,.func (.func fn) #[] cp] w fun e w'=>∃ x:Int,e=X (J O x)/\decide (0<=x)=bp n P/\w'=w:=by
 have HR:=am hr;have HF:=am hf;clear hr hf;by_cases hall:∀ i,i<n->P i=B
 ·have HB:H (bp n P=B):=by show _=_;unfold bp;rw [zm hall];rfl
  have HA:=am hall;clear hall;go_enter Tryz.func276,Tryz.ntmps276
  go_wp2;go_loop [8] (fun x=>∃ i:Nat,i<=n/\x=J O i) (fun x=>n-(intOf x).toNat)
  case atStart=>exact⟨0,je _,rfl⟩
  case round =>
   obtain⟨i,hi,rfl⟩:=hrel;by_cases hlt:i<n
   ·obtain⟨b,off,rfl,hc⟩:=HR.out za;have ck:=hc i hlt;have HC:=HF.out i hlt;rw [HA.out i hlt] at HC;clear hc;have i1:(0:Int)<=(i:Int):=za;have i2:(i:Int)<(n:Int):=za;go_wp2_with fail
    refine HC.mono ?_;rintro e w' ⟨rfl,rfl⟩;go_wp2_with fail
    go_round
    case rel=>exact⟨i+1,za,by go_num⟩
    case measure=>simp [intOf];omega
   ·go_wp2;go_ret;exact⟨_,rfl,by rw [HB.out];rfl,rfl⟩
 ·have HB:H (bp n P=T):=by show _=_;unfold bp;rw [zp hall];rfl
  obtain⟨q,hq,f9,heq⟩:=bA hall;have HE:=am heq;have HN:H (P q=T):=by show _=_;cases h:P q;exact absurd h f9;rfl
  clear hall f9 heq;go_enter Tryz.func276,Tryz.ntmps276
  go_wp2;go_loop [8] (fun x=>∃ i:Nat,i<=q/\x=J O i) (fun x=>n-(intOf x).toNat)
  case atStart=>exact⟨0,je _,rfl⟩
  case round =>
   obtain⟨i,hi,rfl⟩:=hrel;have hlt:i<n:=za;obtain⟨b,off,rfl,hc⟩:=HR.out za;have ck:=hc i hlt;have HC:=HF.out i hlt;clear hc;have i1:(0:Int)<=(i:Int):=za;have i2:(i:Int)<(n:Int):=za;by_cases hiq:i<q
   ·rw [HE.out i hiq] at HC;go_wp2_with fail
    refine HC.mono ?_;rintro e w' ⟨rfl,rfl⟩;go_wp2_with fail
    go_round
    case rel=>exact⟨i+1,za,by go_num⟩
    case measure=>simp [intOf];omega
   ·obtain rfl:i=q:=za;rw [HN.out] at HC;go_wp2_with fail
    refine HC.mono ?_;rintro e w' ⟨rfl,rfl⟩;go_wp2_with fail
    go_ret;exact⟨_,rfl,by rw [HB.out];simp,rfl⟩
theorem lG(w:p)(ao:Option S)(n ca fn:Nat)(cp:Array jd)(A:Nat->Option S)(L C:Nat->Nat)(P:Nat->Bool)(hn:n<=1000)(yO:∀ xs w,(callFunc fn xs).run U w=.ok (.enter fn xs) w)(hr:RdC w ao n A L C)(hf:sH w fn cp n A L C P):
  jc U 200 #[I ao n ca,.func (.func fn) #[] cp] w fun e w'=>e=X (.bool (bp n P))/\w'=w:=by
 have HX:=pK w ao n ca fn cp A L C P hn yO hr hf;clear hr hf yO;go_enter Tryz.func200,Tryz.ntmps200
 go_wp2_with (go_at_call 276;refine HX.mono ?_;rintro e w' ⟨x,rfl,hx,rfl⟩)
 go_ret;exact⟨by rw [<- hx];rfl,rfl⟩
def uY (z l:Nat):Bool:=decide (l ≠ 0/\l ≠ z)
theorem Cv(w:p)(a:Option S)(l cp g z:Nat)(hg:w.cell? ⟨g,0,Z⟩=u (J O (z:Int))):
  jc U 201 #[I a l cp,.pointer (u ⟨g,0,Z⟩)] w fun e w'=>e=X (.bool (uY z l))/\w'=w:=by
 have HV:H (uY z l=decide (l ≠ 0/\l ≠ z)):=rfl;by_cases h0:l=0
 ·have h1:((l:Int) != 0)=B:=by simp [h0]
  go_enter Tryz.func201,Tryz.ntmps201
  go_wp2;go_ret;refine⟨ay ?_,rfl⟩;rw [HV.out,zp za]
 ·have h1:((l:Int) != 0)=T:=by simp [h0]
  have h2:((l:Int) != (z:Int))=decide (l ≠ z):=by
   by_cases e:l=z
   ·subst e;simp
   ·rw [zm e];simp;omega
  go_enter Tryz.func201,Tryz.ntmps201
  go_wp2;go_ret;refine⟨ay ?_,rfl⟩;rw [HV.out];first | (by_cases e:l=z;subst e;simp;simp [h0,e];done) | simp [h0]
def erR (x:Int) (N:Nat) (c:Int) (rn:Nat) (L:Nat->Nat):Int:=if x=0 then (if rn=N/\∀ j,j<2*rn->L j=0\/L j=sz N c then 0 else 120) else x
theorem Par.le{k r c q:Int}{N W:Nat}{e:Int}(h:Par k r c q N W e):N<=16:=by
 rcases h with ⟨h,_,h0,_⟩ | ⟨_,_,h0,_⟩
 ·obtain⟨h1,h2,h3,h4,h5,h6,h7,h8,h9⟩:=aB h;omega
 ·omega
theorem mC{k r c q:Int}{N W:Nat}{x:Int}(h:Par k r c q N W x)(w:p)(ro:Option S)(rn rc:Nat)(A:Nat->Option S)(L C:Nat->Nat)(F:Nat->Nat->UInt8)(hr:Rw w ro rn A L C F)(E:Int)(hE:erR x N c rn L=E):
  jc U 131 #[Pz k r c q,I ro rn rc] w fun e w'=>e=X (J O E)/\b7 w w':=by
 have HD:=fun w=>cW h w;have HZ:=fun w=>iU h w;have qe:=h.le;obtain⟨w0,bi⟩:=jM w k r c q
 have b0:=jt bi
 by_cases hx:x=0
 ·subst hx;have e0:szE 0 N c=sz N c:=zk rfl;rw [e0] at HZ;unfold erR at hE;rw [zk rfl] at hE;clear h e0;by_cases hn:rn=N
  ·subst hn;have Ha:((rn:Int) != (rn:Int))=B:=zi;obtain⟨z,hz⟩:=fd (sz rn c)
   rw [<- hz] at hE HZ;clear hz;have HE:H ((∀ j,j<2*rn->L j=0\/L j=z)/\E=0\/¬ (∀ j,j<2*rn->L j=0\/L j=z)/\E=120):=by
    by_cases g:∀ j,j<2*rn->L j=0\/L j=z
    ·rw [zk ⟨rfl,g⟩] at hE;exact .inl ⟨g,hE.symm⟩
    ·rw [zl fun a=>g a.2] at hE;exact .inr ⟨g,hE.symm⟩
   have HR:=am hr;clear hE hr;go_enter Tryz.func131,Tryz.ntmps131
   go_wp2_with fail
   rw [<- bi];refine(HD _).mono ?_;rintro e wa ⟨rfl,ha⟩;obtain⟨s0,s1,s2,s3⟩:=ak bi ha;go_wp2_with fail
   refine(HZ _).mono ?_;rintro e wb ⟨rfl,hb⟩;obtain⟨wc,qJ⟩:=fd (wb.alloc (jf #[J O (z:Int)] 3))
   have HC:H (b7 w wc):=by show Q _ _ _;rw [qJ];exact ap (ap (ap b0 ha) hb) (bal _ _)
   have HG:=am fun v (hv:b7 wc v)=>ae qJ hv 0 rfl;clear s0 s1 s2 s3 bi b0 ha hb;go_wp2_with fail
   rw [<- qJ];clear qJ;go_loopw [30] (fun y wr=>∃ i:Nat,i<=rn/\y=J O (i:Int)/\H (b7 wc wr)/\H (∀ j,j<2*i->L j=0\/L j=z)) (fun y _=>rn-(intOf y).toNat)
   case atStart=>exact⟨0,je _,rfl,o _ _,fun j hj=>absurd hj za⟩
   case round =>
    obtain⟨i,hi,rfl,jB,hall⟩:=hrel;by_cases hlt:i<rn
    ·obtain⟨b,off,rfl,jI⟩:=HR.out.at_ za;have c0:wr.cell? ⟨b,off+i*2,Z⟩=u (I (A (2*i)) (L (2*i)) (C (2*i))):=held (jI i hlt).1 (ap HC.out jB.out);have c1:wr.cell? ⟨b,off+i*2+1,Z⟩=u (I (A (2*i+1)) (L (2*i+1)) (C (2*i+1))):=held (jI i hlt).2 (ap HC.out jB.out);clear jI;have i1:(0:Int)<=(i:Int):=za;have i2:(i:Int)<(rn:Int):=za;obtain⟨wd,jN⟩:=fd (wr.alloc (jf #[I (A (2*i)) (L (2*i)) (C (2*i)),I (A (2*i+1)) (L (2*i+1)) (C (2*i+1))] 97))
     have bd:=jt jN
     have I7:sH wd 201 #[.pointer (u ⟨wb.heap.size,0,Z⟩)] 2 (fun t=>A (2*i+t)) (fun t=>L (2*i+t)) (fun t=>C (2*i+t)) (fun t=>uY z (L (2*i+t))):=fun t _=>Cv wd _ _ _ _ z (HG.out _ (ap jB.out bd));have I8:RdC wd (u ⟨wr.heap.size,0,Z⟩) 2 (fun t=>A (2*i+t)) (fun t=>L (2*i+t)) (fun t=>C (2*i+t)):=fun _=>⟨_,0,rfl,fun t ht=>by
      rcases (show t=0\/t=1 by omega) with rfl | rfl
      ·exact ae jN (o _ _) 0 rfl
      ·exact ae jN (o _ _) 1 rfl⟩
     have HX:=lG wd _ 2 2 201 _ _ _ _ _ za (fun _ _=>rfl) I8 I7;obtain⟨y,hy⟩:=fd (bp 2 (fun t=>uY z (L (2*i+t))))
     rw [<- hy] at HX;have FP:=am (ap jB.out bd);have HY:H ((y=B/\(L (2*i)=0\/L (2*i)=z)/\(L (2*i+1)=0\/L (2*i+1)=z))\/(y=T/\¬ ((L (2*i)=0\/L (2*i)=z)/\(L (2*i+1)=0\/L (2*i+1)=z)))):=by
      have Mn:=hy;unfold bp at Mn;by_cases g:∀ t,t<2->uY z (L (2*i+t))=B
      ·refine .inl ⟨by rw [Mn,zm g];rfl,?_,?_⟩
       ·have:=of_decide_eq_false (g 0 za);rw [Nat.add_zero] at this;omega
       ·have:=of_decide_eq_false (g 1 za);omega
      ·refine .inr ⟨by rw [Mn,zp g];rfl,fun a=>g fun t ht=>?_⟩;rcases (show t=0\/t=1 by omega) with rfl | rfl
       ·exact zp (by rw [Nat.add_zero];omega)
       ·exact zp za
     clear I7 I8 bd hy;cases y
     ·go_wp2_with fail
      rw [<- jN];clear jN c0 c1;refine HX.mono ?_;rintro e w' ⟨rfl,g8⟩;obtain rfl:=g8.symm;go_wp2_with fail
      go_roundw
      case rel =>
       refine⟨i+1,za,by go_num,FP.out,fun j hj=>?_⟩;rcases HY.out with ⟨_,g0,g1⟩ | ⟨g,_⟩
       ·by_cases e0:j<2*i
        ·exact hall.out j e0
        ·rcases (show j=2*i\/j=2*i+1 by omega) with rfl | rfl
         ·exact g0
         ·exact g1
       ·cases g
      case measure=>simp [intOf];omega
     ·go_wp2_with fail
      rw [<- jN];clear jN c0 c1;refine HX.mono ?_;rintro e w' ⟨rfl,g8⟩;obtain rfl:=g8.symm;go_wp2_with fail
      go_ret;refine⟨aN ?_,ap HC.out FP.out⟩;rcases HE.out with ⟨g,_⟩ | ⟨_,g⟩
      ·exfalso
       rcases HY.out with ⟨g2,_⟩ | ⟨_,g2⟩
       ·cases g2
       ·exact g2 ⟨g (2*i) za,g (2*i+1) za⟩
      ·exact g.symm
    ·obtain rfl:i=rn:=za;go_wp2_with fail
     go_ret;refine⟨aN ?_,ap HC.out jB.out⟩;rcases HE.out with ⟨_,g⟩ | ⟨g,_⟩
     ·exact g.symm
     ·exact absurd (fun j hj=>hall.out j hj) g
  ·have Ha:((rn:Int) != (N:Int))=T:=zj;obtain rfl:E=120:=by rw [zl fun a=>hn a.1] at hE;exact hE.symm
   clear hE hr;go_enter Tryz.func131,Tryz.ntmps131
   go_wp2_with fail
   rw [<- bi];refine(HD _).mono ?_;rintro e wa ⟨rfl,ha⟩;go_wp2_with fail
   go_ret;exact⟨rfl,ap b0 ha⟩
 ·obtain rfl:x=E:=by unfold erR at hE;rw [zl hx] at hE;exact hE
  have Ha:(x != 0)=T:=by simp [hx]
  clear hE hr;go_enter Tryz.func131,Tryz.ntmps131
  go_wp2_with fail
  rw [<- bi];refine(HD _).mono ?_;rintro e wa ⟨rfl,ha⟩;go_wp2_with fail
  go_ret;exact⟨rfl,ap b0 ha⟩
def stv (k r c q:Int) (ro:Option S) (rn rc:Nat) (kd:UInt8):jd:=.agg #[.int .i64 k,.int .i64 r,.int .i64 c,.int .i64 q,.slice ro rn rc,.int .u8 ((kd.toNat:Nat):Int)]
def stz:jd:=.agg #[.int .i64 0,.int .i64 0,.int .i64 0,.int .i64 0,.slice Z 0 0,.int .u8 0]
def erK (x:Int) (N:Nat) (c:Int) (rn:Nat) (L:Nat->Nat) (kd:UInt8) (v:Int):Int:=if erR x N c rn L=0 then (if (kd=1\/kd=2)/\1<=v/\v<=1073741824 then 0 else 2) else erR x N c rn L
def erW (E q nu ke:Int):Int:=if E=0 then (if (0<=nu/\nu<=q-1)/\0<=ke/\ke<=1073741824 then 0 else 2) else E
theorem eA(v:p)(g:Nat)(u0 u1 u2 u3 u4 u5:jd):Only (fun x=>x=g) v ((((((v.setCell ⟨g,0,Z⟩ (u0)).setCell ⟨g,1,Z⟩ (u1)).setCell ⟨g,2,Z⟩ (u2)).setCell ⟨g,3,Z⟩ (u3)).setCell ⟨g,4,Z⟩ (u4)).setCell ⟨g,5,Z⟩ (u5)):=aW v g u0 u1 u2 u3 u4 u5
theorem aC{a v:p}{g:Nat}(h:b7 a v)(hg:a.heap.size<=g)(u0 u1 u2 u3 u4 u5:jd):b7 a ((((((v.setCell ⟨g,0,Z⟩ (u0)).setCell ⟨g,1,Z⟩ (u1)).setCell ⟨g,2,Z⟩ (u2)).setCell ⟨g,3,Z⟩ (u3)).setCell ⟨g,4,Z⟩ (u4)).setCell ⟨g,5,Z⟩ (u5)) :=
 h.trans ((eA v g u0 u1 u2 u3 u4 u5).below (fun i hi=>by omega) h.size)
theorem ma{k r c q:Int}{N W:Nat}{x:Int}(h:Par k r c q N W x)(w:p)(ro:Option S)(rn rc:Nat)(A:Nat->Option S)(L C:Nat->Nat)(F:Nat->Nat->UInt8)(hr:Rw w ro rn A L C F)(kd:UInt8)(v:Int)(E:Int)(hE:erK x N c rn L kd v=E):
  jc U 67 #[Pz k r c q,I ro rn rc,J .u8 ((kd.toNat:Nat):Int),J O v] w fun e w'=>e=X (jb #[if E=0 then stv k r c q ro rn rc kd else stz,J O E])/\b7 w w':=by
 obtain⟨D,hD⟩:=km (erR x N c rn L)
 have HC:=am fun v (hv:b7 w v)=>mC h v ro rn rc A L C F (hr.below hv) D hD;unfold erK at hE;rw [hD] at hE;clear hD h hr;obtain⟨w0,bi⟩:=jM w k r c q
 have b0:=jt bi
 have z0:=ks bi
 obtain⟨w1,ci⟩:=fd (w0.alloc (jf #[J O 0,J O 0,J O 0,J O 0,I Z 0 0,J .u8 0] 99))
 have b1:=jt ci
 have B1:=am (ap b0 b1);have L0:=am fun v (hv:b7 w1 v)=>(ah (o _ _) bi).below (ap b1 hv);have L1:H (∀ v,b7 w1 v->At w v (w.heap.size+1) #[J O 0,J O 0,J O 0,J O 0,I Z 0 0,J .u8 0] 99):=fun v hv=>by rw [<- z0];exact(ah b0 ci).below hv
 clear b0 b1 z0;have kD:=rO kd;have G3:=pV kd;unfold stv stz;by_cases hd:D=0
 ·subst hd;rw [zk rfl] at hE;obtain⟨y,hy⟩:=km (decide (1<=v/\v<=1073741824))
  have HW:=fun w=>ej v 1 1073741824 w;rw [hy] at HW;have HE:H (((kd=1\/kd=2)->y=T->E=0)/\((kd=1\/kd=2)->y=B->E=2)/\(¬ (kd=1\/kd=2)->E=2)):=by
   refine⟨fun a b=>?_,fun a b=>?_,fun a=>?_⟩
   ·rw [zk ⟨a,of_decide_eq_true (hy.trans b)⟩] at hE;exact hE.symm
   ·rw [zl fun g=>of_decide_eq_false (hy.trans b) g.2] at hE;exact hE.symm
   ·rw [zl fun g=>a g.1] at hE;exact hE.symm
  clear hE hy;by_cases g1:kd=1
  ·subst g1;rw [show ((UInt8.toNat 1:Nat):Int)=1 from rfl];cases y
   ·obtain rfl:E=2:=HE.out.2.1 (.inl rfl) rfl;rw [zl (show ¬ (2:Int)=0 by decide)]
    (
      go_enter Tryz.func67,Tryz.ntmps67
      go_wp2_with fail
      rw [<- bi,<- ci];refine(HC.out _ B1.out).mono ?_;rintro e wa ⟨rfl,ha⟩;have q1:=L1.out wa ha;have t0:=q1.cz 0;have t1:=q1.cz 1;have t2:=q1.cz 2;have t3:=q1.cz 3;have t4:=q1.cz 4;have t5:=q1.cz 5;have tf:=q1.free;have HA:=am ha;clear q1 ha bi ci;go_wp2_with (go_at_call 132;refine(HW _).mono ?_;rintro e w' ⟨rfl,g8⟩;obtain rfl:=g8.symm)
      refine bodyPost_ret (v:=jb #[ja #[J O 0,J O 0,J O 0,J O 0,I Z 0 0,J .u8 0],J O 2]) (by simp [results,Tryz.results67,go_sem,t0,t1,t2,t3,t4,t5]) rfl ⟨rfl,?_⟩;exact aC (ap B1.out HA.out) (G _) _ _ _ _ _ _)
   ·obtain rfl:E=0:=HE.out.1 (.inl rfl) rfl;rw [zk rfl]
    (
      go_enter Tryz.func67,Tryz.ntmps67
      go_wp2_with fail
      rw [<- bi,<- ci];refine(HC.out _ B1.out).mono ?_;rintro e wa ⟨rfl,ha⟩;have q0:=L0.out wa ha;have s0:=q0.cz 0;have s1:=q0.cz 1;have s2:=q0.cz 2;have s3:=q0.cz 3;have q1:=L1.out wa ha;have t0:=q1.cz 0;have t1:=q1.cz 1;have t2:=q1.cz 2;have t3:=q1.cz 3;have t4:=q1.cz 4;have t5:=q1.cz 5;have tf:=q1.free;have HA:=am ha;clear q0 q1 ha bi ci;go_wp2_with (go_at_call 132;refine(HW _).mono ?_;rintro e w' ⟨rfl,g8⟩;obtain rfl:=g8.symm)
      refine bodyPost_ret (v:=jb #[ja #[J O k,J O r,J O c,J O q,I ro rn rc,J .u8 1],J O 0]) (by simp [results,Tryz.results67,go_sem,t0,t1,t2,t3,t4,t5]) rfl ⟨rfl,?_⟩;exact aC (ap B1.out HA.out) (G _) _ _ _ _ _ _)
  ·by_cases g2:kd=2
   ·subst g2;rw [show ((UInt8.toNat 2:Nat):Int)=2 from rfl];cases y
    ·obtain rfl:E=2:=HE.out.2.1 (.inr rfl) rfl;rw [zl (show ¬ (2:Int)=0 by decide)]
     (
      go_enter Tryz.func67,Tryz.ntmps67
      go_wp2_with fail
      rw [<- bi,<- ci];refine(HC.out _ B1.out).mono ?_;rintro e wa ⟨rfl,ha⟩;have q1:=L1.out wa ha;have t0:=q1.cz 0;have t1:=q1.cz 1;have t2:=q1.cz 2;have t3:=q1.cz 3;have t4:=q1.cz 4;have t5:=q1.cz 5;have tf:=q1.free;have HA:=am ha;clear q1 ha bi ci;go_wp2_with (go_at_call 132;refine(HW _).mono ?_;rintro e w' ⟨rfl,g8⟩;obtain rfl:=g8.symm)
      refine bodyPost_ret (v:=jb #[ja #[J O 0,J O 0,J O 0,J O 0,I Z 0 0,J .u8 0],J O 2]) (by simp [results,Tryz.results67,go_sem,t0,t1,t2,t3,t4,t5]) rfl ⟨rfl,?_⟩;exact aC (ap B1.out HA.out) (G _) _ _ _ _ _ _)
    ·obtain rfl:E=0:=HE.out.1 (.inr rfl) rfl;rw [zk rfl]
     (
      go_enter Tryz.func67,Tryz.ntmps67
      go_wp2_with fail
      rw [<- bi,<- ci];refine(HC.out _ B1.out).mono ?_;rintro e wa ⟨rfl,ha⟩;have q0:=L0.out wa ha;have s0:=q0.cz 0;have s1:=q0.cz 1;have s2:=q0.cz 2;have s3:=q0.cz 3;have q1:=L1.out wa ha;have t0:=q1.cz 0;have t1:=q1.cz 1;have t2:=q1.cz 2;have t3:=q1.cz 3;have t4:=q1.cz 4;have t5:=q1.cz 5;have tf:=q1.free;have HA:=am ha;clear q0 q1 ha bi ci;go_wp2_with (go_at_call 132;refine(HW _).mono ?_;rintro e w' ⟨rfl,g8⟩;obtain rfl:=g8.symm)
      refine bodyPost_ret (v:=jb #[ja #[J O k,J O r,J O c,J O q,I ro rn rc,J .u8 2],J O 0]) (by simp [results,Tryz.results67,go_sem,t0,t1,t2,t3,t4,t5]) rfl ⟨rfl,?_⟩;exact aC (ap B1.out HA.out) (G _) _ _ _ _ _ _)
   ·obtain rfl:E=2:=HE.out.2.2 fun a=>a.elim g1 g2;rw [zl (show ¬ (2:Int)=0 by decide)];have e1:¬ ((kd.toNat:Nat):Int)=1:=fun a=>g1 (kD.1 a);have e2:¬ ((kd.toNat:Nat):Int)=2:=fun a=>g2 (G3.1 a);generalize ((kd.toNat:Nat):Int)=kv at *
    clear kD G3 g1 g2
    (
      go_enter Tryz.func67,Tryz.ntmps67
      go_wp2_with fail
      rw [<- bi,<- ci];refine(HC.out _ B1.out).mono ?_;rintro e wa ⟨rfl,ha⟩;have q1:=L1.out wa ha;have t0:=q1.cz 0;have t1:=q1.cz 1;have t2:=q1.cz 2;have t3:=q1.cz 3;have t4:=q1.cz 4;have t5:=q1.cz 5;have tf:=q1.free;have HA:=am ha;clear q1 ha bi ci;go_wp2_with (go_at_call 132;refine(HW _).mono ?_;rintro e w' ⟨rfl,g8⟩;obtain rfl:=g8.symm)
      refine bodyPost_ret (v:=jb #[ja #[J O 0,J O 0,J O 0,J O 0,I Z 0 0,J .u8 0],J O 2]) (by simp [results,Tryz.results67,go_sem,t0,t1,t2,t3,t4,t5]) rfl ⟨rfl,?_⟩;exact aC (ap B1.out HA.out) (G _) _ _ _ _ _ _)
 ·rw [zl hd] at hE;subst hE;rw [zl hd];have e1:(D != 0)=T:=by simp [hd]
  go_enter Tryz.func67,Tryz.ntmps67
  go_wp2_with fail
  rw [<- bi,<- ci];refine(HC.out _ B1.out).mono ?_;rintro e wa ⟨rfl,ha⟩;have q1:=L1.out wa ha;have t0:=q1.cz 0;have t1:=q1.cz 1;have t2:=q1.cz 2;have t3:=q1.cz 3;have t4:=q1.cz 4;have t5:=q1.cz 5;have tf:=q1.free;have HA:=am ha;clear q1 ha bi ci;go_wp2_with fail
  refine bodyPost_ret (v:=jb #[ja #[J O 0,J O 0,J O 0,J O 0,I Z 0 0,J .u8 0],J O D]) (by simp [results,Tryz.results67,go_sem,t0,t1,t2,t3,t4,t5]) rfl ⟨rfl,?_⟩;exact aC (ap B1.out HA.out) (G _) _ _ _ _ _ _
end Go.Proofs.YtemlojjkokooeaaGreat
