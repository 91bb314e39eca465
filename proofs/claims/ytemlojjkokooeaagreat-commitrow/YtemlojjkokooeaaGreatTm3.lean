import Derived.Laws.BitsAllLaws
import Derived.WalkMore
import Derived.Test.YtemlojjkokooeaaGreatTm2
open Go.Value renaming slice->J,int->O,agg->l
open Go.IntKind renaming i64->I
open Option renaming none->Q,some->T
open Go.RowKit renaming Hid->Z,Below->P
open Go.RowKit.Below renaming refl->U
open Go renaming World->L,Calls->f
open Nat renaming le_succ->H
open Go.Proofs.Tryz renaming prog->S
open Go.Ending renaming returned->R
open Int renaming toNat_natCast->C
open Go.Obj renaming cells->A
set_option maxHeartbeats 16000000
set_option maxRecDepth 100000
namespace Go.Proofs.YtemlojjkokooeaaGreat
open Go.RowKit
theorem iU{k r c q:Int}{N W:Nat}{x:Int}(h:Par k r c q N W x)(w:L):
  f S 199 #[Pz k r c q] w fun e w'=>e=R (.tuple #[O I ((szE x N c:Nat):Int),O I x])/\b7 w w':=by
 have HD:=fun w=>cW h w;have hN:=h.few;have hc:=fun e=>h.cell e;have hx:=h.err;clear h;obtain⟨w0,bi⟩:=jM w k r c q
 have b0:=jt bi
 rcases hx with rfl | rfl
 ·have hc':=hc rfl;clear hc;have HE:Z (12+4*(N:Int)+c=((szE 0 N c:Nat):Int)):=by show _=_;unfold szE sz;rw [zk rfl];omega
  go_enter Tryz.func199,Tryz.ntmps199
  go_wp2_with fail
  rw [<- bi];refine(HD _).mono ?_;rintro e wa ⟨rfl,ha⟩;obtain⟨s0,s1,s2,s3⟩:=ak bi ha;have hb:=ap b0 ha;clear bi;go_wp2_with fail
  go_ret2;exact⟨by rw [<- HE.out];rfl,hb⟩
 ·have HE:Z (szE 2 N c=0):=by show _=_;unfold szE;rw [zl zb]
  go_enter Tryz.func199,Tryz.ntmps199
  go_wp2_with fail
  rw [<- bi];refine(HD _).mono ?_;rintro e wa ⟨rfl,ha⟩;have hb:=ap b0 ha;clear bi;go_wp2_with fail
  go_ret2;exact⟨by rw [HE.out];rfl,hb⟩
theorem rO(u:UInt8):((u.toNat:Nat):Int)=1 ↔ u=1:=by
 constructor
 ·intro h;exact UInt8.toNat_inj.1 (by have:(1:UInt8).toNat=1:=rfl;omega)
 ·rintro rfl;rfl
theorem pV(u:UInt8):((u.toNat:Nat):Int)=2 ↔ u=2:=by
 constructor
 ·intro h;exact UInt8.toNat_inj.1 (by have:(2:UInt8).toNat=2:=rfl;omega)
 ·rintro rfl;rfl
theorem eN{k r c q:Int}{N W:Nat}(h:Par k r c q N W 0)(w:L)(s:Sl)(ao:Option Addr)(ca:Nat)(bo:Option Addr)(cb:Nat)(hs:Has w s ao ca bo cb)(y:Bool)(hy:okS N c s=y):
  f S 204 #[Pz k r c q,slv s ao ca bo cb] w fun e w'=>e=R (.bool y)/\b7 w w':=by
 obtain⟨E,hE⟩:=km (erV 0 N s.vn s.V)
 have HL:=fun w (hv:Vec w ao s.vn ca s.V)=>oF h w ao s.vn ca s.V hv E hE;have hN:=h.few;obtain⟨kd,ix,ce,st,vn,V,dn,D⟩:=s;simp only [slv] at *;have HV:=am (hs.vec);obtain⟨kn,xF⟩:∃ kn:Int,kn=((kd.toNat:Nat):Int):=⟨_,rfl⟩
 have HK:Z (decide (kd=1\/kd=2)=decide (kn=1\/kn=2)):=by
  show _=_;apply decide_eq_decide.2
  rw [xF,rO,pV]
 have HO:=am hy;rw [<- xF];clear xF hs h hy;obtain⟨w0,bi⟩:=jM w k r c q
 obtain⟨w1,ci⟩:=fd (w0.alloc (A #[O .u8 kn,O I ix,O I ce,O I st,J ao vn ca,J bo dn cb] 107))
 have b0:=jt bi
 have b1:=jt ci
 have z0:=ks bi
 unfold oI at HL;by_cases h1:E=0
 ·subst h1;obtain⟨_,h3,h4⟩:=vU hE;rw [zk rfl] at HL;have U0:=am h4;obtain⟨m,hm⟩:=km (mx V vn)
  rw [hm] at HL;have HM:=am hm;have HN:=am h3;clear hm h4 hE h3;by_cases hk:kn=1\/kn=2
  ·by_cases hi:0<=ix/\ix<(vn:Int)
   ·by_cases hd:(dn:Int)=c
    ·have HY:Z (y=decide (st=m/\ce=V ix.toNat)):=by
      show _=_;rw [<- HO.out];unfold okS;apply decide_eq_decide.2
      simp only;rw [HM.out];constructor
      ·rintro⟨_,_,_,_,_,p,q⟩;exact⟨p,q⟩
      ·rintro⟨p,q⟩;exact⟨⟨HN.out,U0.out⟩,of_decide_eq_true (by rw [HK.out];exact zm hk),hi.1,hi.2,hd,p,q⟩
     go_enter Tryz.func204,Tryz.ntmps204
     go_wp2_with fail
     rw [<- bi,<- ci];refine(HL _ (HV.out.below (ap b0 b1))).mono ?_;rintro e wa ⟨rfl,ha⟩;obtain⟨s0,s1,s2,s3⟩:=ak bi (ap b1 ha);obtain⟨m0,m1,m2,m3,m4,m5⟩:=dw ci ha;rw [z0] at m0 m1 m2 m3 m4 m5;have hb:=ap (ap b0 b1) ha;obtain⟨b,off,rfl,jI⟩:=(HV.out.below hb).rd za;have ck:=jI ix.toNat za
     obtain⟨t,ht⟩:∃ t:Nat,ix=(t:Int):=⟨ix.toNat,za⟩
     subst ht;rw [C] at ck;obtain⟨vt,Hp⟩:=km (V t)
     rw [Hp] at ck;have HT:=am Hp;have io:=am hb;clear bi ci hb ha b0 b1 z0 jI Hp HL;rcases hk with rfl | rfl
     all_goals (
      go_wp2_with fail
      by_cases hst:st=m
      ·go_quiet (fail)
       go_wp2;go_ret;refine⟨ay ?_,io.out.trans (below_drewN _ _ _)⟩;rw [HY.out,C,HT.out];by_cases hce:ce=vt
       ·rw [zm (show st=m/\ce=vt from⟨hst,hce⟩)];simp [hce]
       ·rw [zp (show ¬ (st=m/\ce=vt) from fun h=>hce h.2)];simp [hce]
      ·go_quiet (fail)
       go_wp2;go_ret;refine⟨ay ?_,io.out.trans (below_drewN _ _ _)⟩;rw [HY.out,zp (show ¬ (st=m/\ce=V (t:Int).toNat) from fun h=>hst h.1)])
    ·have HY:Z (y=false):=by
      show _=_;rw [<- HO.out];exact zp fun⟨p1,p2,p3,p4,p5,p6,p7⟩=>hd p5
     have G1:((dn:Int) != c)=true:=by simpa using hd
     go_enter Tryz.func204,Tryz.ntmps204
     go_wp2_with fail
     rw [<- bi,<- ci];refine(HL _ (HV.out.below (ap b0 b1))).mono ?_;rintro e wa ⟨rfl,ha⟩;obtain⟨s0,s1,s2,s3⟩:=ak bi (ap b1 ha);obtain⟨m0,m1,m2,m3,m4,m5⟩:=dw ci ha;rw [z0] at m0 m1 m2 m3 m4 m5;have io:=am (ap (ap b0 b1) ha);clear bi ci ha b0 b1 z0 HL;rcases hk with rfl | rfl
     all_goals (
      go_wp2_with fail
      go_ret;exact⟨ay HY.out.symm,io.out⟩)
   ·have HY:Z (y=false):=by
     show _=_;rw [<- HO.out];exact zp fun⟨p1,p2,p3,p4,p5,p6,p7⟩=>hi ⟨p3,p4⟩
    go_enter Tryz.func204,Tryz.ntmps204
    go_wp2_with fail
    rw [<- bi,<- ci];refine(HL _ (HV.out.below (ap b0 b1))).mono ?_;rintro e wa ⟨rfl,ha⟩;obtain⟨s0,s1,s2,s3⟩:=ak bi (ap b1 ha);obtain⟨m0,m1,m2,m3,m4,m5⟩:=dw ci ha;rw [z0] at m0 m1 m2 m3 m4 m5;have io:=am (ap (ap b0 b1) ha);clear bi ci ha b0 b1 z0 HL;have hi2:ix<0\/(0<=ix/\(vn:Int)<=ix):=za;clear hi;rcases hk with rfl | rfl <;> rcases hi2 with hi2 | ⟨hi2,Lo⟩
    all_goals (
     go_wp2_with fail
     go_ret;exact⟨ay HY.out.symm,io.out⟩)
  ·have HY:Z (y=false):=by
    show _=_;rw [<- HO.out];exact zp fun⟨p1,p2,p3,p4,p5,p6,p7⟩=>hk (of_decide_eq_true (by rw [<- HK.out];exact zm p2))
   have kD:¬ kn=1:=fun h=>hk (.inl h);have G3:¬ kn=2:=fun h=>hk (.inr h);have Kx:(kn != 1)=true:=by simpa using kD
   have A4:(kn != 2)=true:=by simpa using G3
   clear hk;go_enter Tryz.func204,Tryz.ntmps204
   go_wp2_with fail
   rw [<- bi,<- ci];refine(HL _ (HV.out.below (ap b0 b1))).mono ?_;rintro e wa ⟨rfl,ha⟩;obtain⟨s0,s1,s2,s3⟩:=ak bi (ap b1 ha);obtain⟨m0,m1,m2,m3,m4,m5⟩:=dw ci ha;rw [z0] at m0 m1 m2 m3 m4 m5;have io:=am (ap (ap b0 b1) ha);clear bi ci ha b0 b1 z0 HL;go_wp2_with fail
   go_ret;exact⟨ay HY.out.symm,io.out⟩
 ·have f9:(E != 0)=true:=by simpa using h1
  rw [zl h1] at HL;have HY:Z (y=false):=by
   show _=_;rw [<- HO.out];exact zp fun⟨p1,p2,p3,p4,p5,p6,p7⟩=>h1 (by rw [<- hE];exact Ed p1.1 p1.2)
  clear hE;go_enter Tryz.func204,Tryz.ntmps204
  go_wp2_with fail
  rw [<- bi,<- ci];refine(HL _ (HV.out.below (ap b0 b1))).mono ?_;rintro e wa ⟨rfl,ha⟩;obtain⟨s0,s1,s2,s3⟩:=ak bi (ap b1 ha);obtain⟨m0,m1,m2,m3,m4,m5⟩:=dw ci ha;rw [z0] at m0 m1 m2 m3 m4 m5;have io:=am (ap (ap b0 b1) ha);clear bi ci ha b0 b1 z0 HL;go_wp2_with fail
  go_ret;exact⟨ay HY.out.symm,io.out⟩
structure Only (X:Nat->Prop) (w w':World):Prop where
  os:w'.os=w.os
  tape:w'.tape=w.tape
  output:w'.output=w.output
  size:w.heap.size<=w'.heap.size
  block:∀ b,b<w.heap.size->¬ X b->w'.heap[b]? = w.heap[b]?
theorem Only.refl(X:Nat->Prop)(w:L):Only X w w:=⟨rfl,rfl,rfl,Nat.le_refl _,fun _ _ _=>rfl⟩
theorem Only.trans{X:Nat->Prop}{a b c:L}(h:Only X a b)(k:Only X b c):Only X a c :=
 ⟨k.os.trans h.os,k.tape.trans h.tape,k.output.trans h.output,Nat.le_trans h.size k.size,fun i hi hx=>(k.block i (Nat.lt_of_lt_of_le hi h.size) hx).trans (h.block i hi hx)⟩
theorem Only.of_below{X:Nat->Prop}{a b:L}(h:b7 a b):Only X a b:=⟨h.os,h.tape,h.output,h.size,fun i hi _=>h.block i hi⟩
theorem Only.below{X:Nat->Prop}{B:Nat}{a b:L}(h:Only X a b)(k:∀ i,X i->B<=i)(hB:B<=a.heap.size):P B a b:=⟨h.os,h.tape,h.output,h.size,fun i hi=>h.block i za fun hx=>by have:=k i hx;omega⟩
theorem Only.setCell{X:Nat->Prop}{a b:L}(h:Only X a b){p:Addr}(hp:X p.block)(v:Value):Only X a (b.setCell p v) :=
 h.trans ⟨rfl,rfl,rfl,by simp [World.setCell],fun i _ hx=>Below.heap_setCell _ _ _ _ (fun e=>hx (e ▸ hp))⟩
theorem Only.alloc{X:Nat->Prop}{a b:L}(h:Only X a b)(o:Obj):Only X a (b.alloc o):=h.trans (.of_below (bal _ _))
theorem Only.drew{X:Nat->Prop}{a b:L}(h:Only X a b):Only X a b.drew:=h.trans (.of_below (bdw _ _))
theorem Only.then{X:Nat->Prop}{a b c:L}(h:Only X a b)(k:b7 b c):Only X a c:=h.trans (.of_below k)
theorem Only.cell{X:Nat->Prop}{a b:L}(h:Only X a b){p:Addr}{v:Value}(hc:a.cell? p=T v)(hp:¬ X p.block):b.cell? p=T v :=
 (World.cell?_of_block (h.block p.block (World.block_lt_of_cell? a _ hc) hp)).trans hc
theorem Only.step{X Y:Nat->Prop}{a b c:L}(h:Only X a b)(k:Only Y b c)(hx:∀ i,i<a.heap.size->Y i->X i):Only X a c :=
 ⟨k.os.trans h.os,k.tape.trans h.tape,k.output.trans h.output,Nat.le_trans h.size k.size,fun i hi hn=>(k.block i (Nat.lt_of_lt_of_le hi h.size) fun hy=>hn (hx i hi hy)).trans (h.block i hi hn)⟩
def tk (G:Nat->UInt8) (o k m t:Nat):Nat->UInt8:=fun j=>if o+(k-t)<=j/\j<o+k then dg m (o+k-1-j) else G j
theorem Bz(G:Nat->UInt8)(o k m:Nat):tk G o k m 0=G:=by
 funext j;unfold tk;rw [zl za]
theorem BH(G:Nat->UInt8){o k m t:Nat}(ht:t<k):put (o+(k-1-t)) (dg m t) (tk G o k m t)=tk G o k m (t+1):=by
 funext j
 unfold put tk;by_cases e:j=o+(k-1-t)
 ·rw [zk e,zk za,show o+k-1-j=t by omega]
 ·rw [zl e];by_cases h:o+(k-t)<=j/\j<o+k
  ·rw [zk h,zk za]
  ·rw [zl h,zl za]
theorem En(G:Nat->UInt8)(o k m:Nat):tk G o k m k=upR G o k (fun i=>dg m (k-1-i)):=by
 funext j
 unfold tk upR;by_cases h:o<=j/\j<o+k
 ·rw [zk za,zk h,show o+k-1-j=k-1-(j-o) by omega]
 ·rw [zl za,zl h]
theorem oW(m t:Nat):m / 256 ^ t / 256=m / 256 ^ (t+1):=by rw [Nat.div_div_eq_div_mul,Nat.pow_succ]
theorem bF(w:L)(g n o k cp m:Nat)(G:Nat->UInt8)(hg:Bk w g n G)(hk:o+k<=n)(h0:0<k)(hn:n<=1000):
  f S 298 #[.slice (T ⟨g,o,Q⟩) k cp,.int .i64 (m:Int)] w fun e w'=>e=.returned (.tuple #[])/\Bk w' g n (upR G o k (fun i=>dg m (k-1-i)))/\Only (fun b=>b=g) w w':=by
 have HT:Z (∀ t,t<k->put (o+(k-1-t)) (dg m t) (tk G o k m t)=tk G o k m (t+1)):=fun t ht=>BH G ht;have HD:Z (∀ t,(m / 256 ^ t / 256=m / 256 ^ (t+1))/\(m / 256 ^ t<=m)):=fun t=>⟨oW m t,Nat.div_le_self _ _⟩
 have HV:Z (∀ t,(((dg m t).toNat:Nat):Int)=((m / 256 ^ t:Nat):Int) % 256):=fun t=>by rw [aP];omega
 have HG:Z (Bk w g n (tk G o k m 0)):=by show Bk _ _ _ _;rw [Bz];exact hg
 have HA:Z (tk G o k m k=upR G o k (fun i=>dg m (k-1-i))):=En G o k m;have HM:Z (m / 256 ^ 0=m):=by show _=_;rw [Nat.pow_zero,Nat.div_one]
 clear hg;go_enter Tryz.func298,Tryz.ntmps298
 go_wp2;go_loopw [1,4] (fun y x wr=>∃ t:Nat,t<=k/\(∃ z:Int,y=.int .i64 z/\Z (z=((m / 256 ^ t:Nat):Int)))/\(∃ i:Int,x=.int .i64 i/\i=(k:Int)-1-(t:Int))/\Z (Bk wr g n (tk G o k m t))/\Z (Only (fun b=>b=g) w wr)) (fun _ x _=>(intOf x+1).toNat)
 case atStart=>exact⟨0,Nat.zero_le _,⟨_,rfl,by show _=_;rw [HM.out]⟩,⟨_,rfl,by go_num⟩,HG,Only.refl _ _⟩
 case round =>
  obtain⟨t,ht,⟨z,rfl,hz⟩,⟨i,rfl,hi⟩,hB,hW⟩:=hrel;by_cases hlt:t<k
  ·have e1:=HT.out t hlt;have e2:=HD.out t;have e3:=HV.out t;obtain⟨mt,It⟩:∃ mt:Nat,m / 256 ^ t=mt:=⟨_,rfl⟩
   rw [It] at e2 e3;have U4:z=(mt:Int):=by rw [hz.out,It]
   clear hz;subst U4;have ck:=hB.out.cell (i:=o+(k-1-t)) za;have fk:=hB.out.free (o+(k-1-t));have hst:=hB.out.set (o+(k-1-t)) (dg m t);rw [e1,e3] at hst;have D1:=am hst;obtain⟨it,Jm⟩:∃ it:Nat,it=k-1-t:=⟨_,rfl⟩
   have O8:i=(it:Int):=za;rw [<- Jm] at ck fk D1;have HZ:Z (((mt / 256:Nat):Int)=((m / 256 ^ (t+1):Nat):Int)):=by show _=_;rw [e2.1]
   have U5:=e2.2;subst O8;clear hst e1 e2 e3 It;have i1:(0:Int)<=(it:Int):=za;have i2:(it:Int)<(k:Int):=za;have i3:it<k:=za;have U7:=am Jm;clear Jm hi;go_wp2;go_roundw
   case rel=>exact⟨t+1,za,⟨_,rfl,by show _=_;rw [<- HZ.out];omega⟩,⟨_,rfl,by have:=U7.out;omega⟩,D1,hW.out.setCell rfl _⟩
   case measure=>simp [intOf]
  ·go_wp2;refine bodyPost_end (results_none rfl _ _ _) rfl ⟨rfl,?_,hW.out⟩;obtain rfl:t=k:=za;rw [<- HA.out];exact hB.out
theorem fl(a b:Nat)(ha:a<4611686018427387904)(hb:b<4611686018427387904):bits .or I (a:Int) (b:Int)=((a ||| b:Nat):Int):=by
 have hx:a ||| b<2 ^ 62:=Nat.or_lt_two_pow za za
 show IntKind.i64.wrap ((BitVec.ofInt 64 (a:Int) ||| BitVec.ofInt 64 (b:Int)).toNat:Int)=_;rw [BitVec.toNat_or,ofInt_u64 a za,ofInt_u64 b za];rw [IntKind.wrap_i64];omega
theorem rW(a b:Nat)(h:a<256):(b*256) ||| a=b*256+a:=by
 rw [show b*256=b <<< 8 from by rw [Nat.shiftLeft_eq],<- Nat.shiftLeft_add_eq_or_of_lt (i:=8) za]
theorem bI(w:L)(g o k cp:Nat)(F:Nat->UInt8)(hr:∀ j,j<k->w.cell? ⟨g,o+j,Q⟩=T (.int .u8 (((F j).toNat:Nat):Int)))(hk:k<=4):
  f S 277 #[.slice (T ⟨g,o,Q⟩) k cp] w fun e w'=>e=.returned (.int .i64 ((nm F 0 k:Nat):Int))/\w'=w:=by
 have HR:=am hr;have HB:Z (∀ j,j<=k->nm F 0 j<4294967296):=fun j hj=>Nat.lt_of_lt_of_le (gj F 0 j) (by
  rcases (show j=0\/j=1\/j=2\/j=3\/j=4 by omega) with rfl | rfl | rfl | rfl | rfl <;> decide)
 have HS:Z (∀ j,nm F 0 (j+1)=nm F 0 j*256+(F j).toNat):=fun j=>by show _=_;rw [nm,Nat.zero_add]
 have HL:Z (∀ j,(F j).toNat<256):=fun j=>(F j).toNat_lt;clear hr;go_enter Tryz.func277,Tryz.ntmps277
 go_wp2;go_loop [3,8] (fun y x=>∃ i:Nat,i<=k/\x=.int .i64 (i:Int)/\∃ z:Nat,y=.int .i64 (z:Int)/\Z (z=nm F 0 i)) (fun _ x=>k-(intOf x).toNat)
 case atStart=>exact⟨0,Nat.zero_le _,rfl,0,rfl,rfl⟩
 case round =>
  obtain⟨i,hi,rfl,z,rfl,hz⟩:=hrel;by_cases hlt:i<k
  ·have ck:=HR.out i hlt;have hb:=HB.out i za;have hs:=HS.out i;have hl:=HL.out i;rw [<- hz.out] at hb hs;obtain⟨u,hu⟩:∃ u:Nat,(F i).toNat=u:=⟨_,rfl⟩
   rw [hu] at ck hs hl;have HN:=am hs;have Iu:bits .or .i64 ((z:Int)*256) (u:Int)=((z*256+u:Nat):Int):=by
    rw [show (z:Int)*256=((z*256:Nat):Int) by omega,fl _ _ za za,rW _ _ hl]
   have i1:(0:Int)<=(i:Int):=za;have i2:(i:Int)<(k:Int):=za;clear hs hu hz;go_wp2;go_round
   case rel=>exact⟨i+1,za,by go_num,z*256+u,by go_num,HN.out.symm⟩
   case measure=>simp [intOf];omega
  ·obtain rfl:i=k:=za;go_wp2;go_ret;exact⟨aN (by rw [hz.out]),rfl⟩
def prt (g o v d:Nat):Array Value:=#[.slice (T ⟨g,o,Q⟩) 2 2,.slice (T ⟨g,o+2,Q⟩) 1 1,.slice (T ⟨g,o+3,Q⟩) 1 1,.slice (T ⟨g,o+4,Q⟩) 4 4,.slice (T ⟨g,o+8,Q⟩) 4 4,.slice (T ⟨g,o+12,Q⟩) v v,.slice (T ⟨g,o+12+v,Q⟩) d d]
theorem gH(w:L)(g o N d i:Nat)(hi:i<N)(hN:N<=16):
  f S 278 #[l (prt g o (4*N) d),O I (i:Int)] w fun e w'=>e=R (J (T ⟨g,o+12+4*i,Q⟩) 4 4)/\b7 w w':=by
 unfold prt;have h1:(4*(i:Int))<((4*N:Nat):Int):=za;have h2:(i:Int)*4+4<=((4*N:Nat):Int):=za;go_enter Tryz.func278,Tryz.ntmps278
 go_wp2;go_ret;exact⟨by rw [show (i+1)*4-i*4=4 by omega,show i*4=4*i by omega];rfl,bal _ _⟩
theorem sY(w:L)(k r c q:Int)(g o n cp N:Nat)(hn:n=12+4*N+c.toNat)(o9:n<=cp)(hN:1<=N)(Ky:N<=16)(hc:8<=c)(xX:c<=64):
  f S 202 #[Pz k r c q,J (T ⟨g,o,Q⟩) n cp] w fun e w'=>e=R (l (prt g o (4*N) c.toNat))/\b7 w w':=by
 obtain⟨d,rfl⟩:∃ d:Nat,c=(d:Int):=⟨c.toNat,za⟩
 rw [C] at *;unfold prt;obtain⟨m,hm⟩:=fd (12+4*N)
 have hv:4*N=m-12:=za;have h1:((n:Int)-(d:Int))=(m:Int):=za;rw [hv];have m1:16<=m:=za;have m2:m<=76:=za;have m3:n=m+d:=za;clear hm hv hn hN Ky;subst m3;obtain⟨w0,bi⟩:=fd (w.alloc (A #[O I k,O I r,O I (d:Int),O I q] 23))
 obtain⟨w1,ci⟩:=fd (w0.alloc (A #[J Q 0 0,J Q 0 0,J Q 0 0,J Q 0 0,J Q 0 0,J Q 0 0,J Q 0 0] 247))
 have b0:=jt bi
 have b1:=jt ci
 have z0:=ks bi
 have x0:=ae ci (U _ _) 0 rfl;have x1:=ae ci (U _ _) 1 rfl;have x2:=ae ci (U _ _) 2 rfl;have x3:=ae ci (U _ _) 3 rfl;have x4:=ae ci (U _ _) 4 rfl;have x5:=ae ci (U _ _) 5 rfl;have x6:=ae ci (U _ _) 6 rfl;have xf:=aI ci (U _ _);rw [z0] at x0 x1 x2 x3 x4 x5 x6 xf;have io:=am (ap b0 b1);have n1:¬ m=12:=za;have n2:((m:Int)+(d:Int)).toNat=m+d:=za;have n3:¬ m+d=m:=za;have n4:m+d-m=d:=za;go_enter Tryz.func202,Tryz.ntmps202
 go_wp2_with fail
 rw [<- bi,<- ci];clear bi ci z0 b0 b1;have c2:(2:Int)<=(cp:Int):=za;have c3:(3:Int)<=(cp:Int):=za;have c4:(4:Int)<=(cp:Int):=za;have c8:(8:Int)<=(cp:Int):=za;have U8:(12:Int)<=(cp:Int):=za;have cm:(m:Int)<=(cp:Int):=za;have cd:(m:Int)+(d:Int)<=(cp:Int):=za;have c5:(12:Int)<=(m:Int):=za;have c6:(0:Int)<=(m:Int):=za;have c7:(0:Int)<=(m:Int)+(d:Int):=za;have c9:(m:Int)<=(m:Int)+(d:Int):=za;refine wp_region_still_tail 22 zh zh ?_;simp only [List.take_succ_cons,List.take_zero,List.drop_succ_cons,List.drop_zero]
 repeat (refine wpStill_step (fun K hK=>?_);go_simp;(try simp only [c2,c3,c4,c8,U8,cm,cd,c5,c6,c7,c9,and_self,if_true]);refine hK _ ?_;clear hK K)
 refine wpStill_nil ?_;go_wp2;refine bodyPost_ret (v:=l #[J (T ⟨g,o,Q⟩) 2 2,J (T ⟨g,o+2,Q⟩) 1 1,J (T ⟨g,o+3,Q⟩) 1 1,J (T ⟨g,o+4,Q⟩) 4 4,J (T ⟨g,o+8,Q⟩) 4 4,J (T ⟨g,o+12,Q⟩) (m-12) (m-12),J (T ⟨g,o+m,Q⟩) d d]) (by simp [results,Tryz.results202,go_sem,x0,x1,x2,x3,x4,x5,x6]) rfl ⟨?_,?_⟩
 ·rw [show o+12+(m-12)=o+m by omega]
 ·exact ag (((((((io.out.setCell (H _) _).setCell (H _) _).setCell (H _) _).setCell (H _) _).setCell (H _) _).setCell (H _) _).setCell (H _) _) (bdw _ _) (by simp [World.setCell];exact io.out.size)
end Go.Proofs.YtemlojjkokooeaaGreat
