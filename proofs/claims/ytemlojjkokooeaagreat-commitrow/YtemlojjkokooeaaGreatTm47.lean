import Derived.Test.YtemlojjkokooeaaGreatTm35
open Go.Value renaming int->J,slice->L
open Go.IntKind renaming i64->O
open Go.Proofs.Tryz renaming prog->I
open Go.RowKit renaming Below->Q,Hid->Y
open Go.Ending renaming returned->U
open Go.Obj renaming cells->D
open Go renaming World->T,Calls->A
open Option renaming none->S,some->B
open Int renaming toNat_natCast->C
open Nat renaming zero_le->o,le_refl->jb
open Go.RowKit.Below renaming refl->jc
set_option maxHeartbeats 16000000
set_option maxRecDepth 100000
namespace Go.Proofs.YtemlojjkokooeaaGreat.De
open Go.RowKit
def gq (m k t:Nat) (j:Nat):UInt8:=if k<=j+t/\j<k then dg m (k-1-j) else 0
theorem pB{m k t:Nat}(ht:t<k):put (k-1-t) (dg m t) (gq m k t)=gq m k (t+1):=by
 funext j
 unfold put gq;by_cases e:j=k-1-t
 ·rw [zk e,zk za,show k-1-j=t by omega]
 ·rw [zl e];by_cases h:k<=j+t/\j<k
  ·rw [zk h,zk za]
  ·rw [zl h,zl za]
theorem lH(W:Nat)(hW:W<=5000)(w:T):(Instr.makeSlice 36 (J O (W:Int)) (J O (W:Int))).run I w=.ok (L (B ⟨w.heap.size,0,S⟩) W W) (w.alloc (D (byF W (fun _=>0)).toArray 5)):=by
 have:=run_make_row' (P:=I) 36 5 (J .u8 0) 1 Tryz.underlying36 bU rfl O O W za za w;rw [this,im]
theorem cr(w:T)(m k:Nat)(hk:k<=4)(hm:m<4294967296):
  A I 242 #[J O (m:Int),J O (k:Int)] w fun e w'=>∃ g,e=U (L (B ⟨g,0,S⟩) k k)/\Bk w' g k (fun j=>dg m (k-1-j))/\w.heap.size<=g/\b7 w w':=by
 obtain⟨Z,hZ⟩:=fd ((byF k (fun _=>0)).toArray)
 have hmk:=lH k za;rw [<- hZ] at hmk;have xY:Y (Bk (w.alloc (D Z 5)) w.heap.size k (gq m k 0)):=by
  show Bk _ _ _ _;have:Bk (w.alloc (D Z 5)) w.heap.size k (fun _=>0):=by unfold Bk;rw [hZ];exact heap_alloc_new w _
  exact this.congr fun j hj=>by unfold gq;rw [zl za]
 have io:Y (b7 w (w.alloc (D Z 5))):=bal _ _;clear hZ;have kD:IntKind.i64.wrap ((k:Int)-1)=(k:Int)-1:=by rw [IntKind.wrap_i64];omega
 go_enter Tryz.func242,Tryz.ntmps242
 go_wp2_with fail
 go_loopw [0,6] (fun y x wr=>∃ t z:Nat,∃ j:Int,t<=k/\x=J O j/\j+1+(t:Int)=(k:Int)/\y=J O (z:Int)/\Y (z=m / 256 ^ t)/\Y (Bk wr w.heap.size k (gq m k t))/\Y (b7 w wr)) (fun _ x _=>(intOf x+1).toNat)
 case atStart=>exact⟨0,m,(k:Int)-1,o _,rfl,za,rfl,(show m=m / 256 ^ 0 from by simp),xY,io⟩
 case round =>
  obtain⟨t,z,j,ht,rfl,hj,rfl,hz,EN,d8⟩:=hrel;by_cases hlt:0<=j
  ·obtain⟨s,rfl⟩:∃ s:Nat,j=(s:Int):=⟨j.toNat,za⟩
   have hs:s=k-1-t:=za;have KU:t<k:=za;have YT:z<4294967296:=by rw [hz.out];exact Nat.lt_of_le_of_lt (Nat.div_le_self _ _) hm
   have hd:(z:Int) % 256=(((dg m t).toNat:Nat):Int):=by rw [aP,<- hz.out];omega
   have HX:Y (Bk (wr.setCell ⟨w.heap.size,s,S⟩ (J .u8 ((z:Int) % 256))) w.heap.size k (gq m k (t+1))):=by
    show Bk _ _ _ _;rw [hd,hs,<- pB KU];exact EN.out.set _ _
   have HY:Y (b7 w (wr.setCell ⟨w.heap.size,s,S⟩ (J .u8 ((z:Int) % 256)))):=d8.out.setCell (jb _) _;have HZ:Y (z / 256=m / 256 ^ (t+1)):=by show _=_;rw [hz.out,oW]
   have ck:=EN.out.cell (i:=s) za;have f:=EN.out.free;have i1:(0:Int)<=(s:Int):=za;have i2:(s:Int)<(k:Int):=za;clear hd hs;go_wp2_with fail
   exact⟨⟨t+1,z / 256,(s:Int)-1,za,by go_num,za,by go_num,HZ,HX,HY⟩,by simp [intOf]⟩
  ·have KU:t=k:=za;go_wp2_with fail
   go_ret;refine⟨w.heap.size,rfl,EN.out.congr fun i hi=>?_,jb _,d8.out⟩;unfold gq;rw [zk za]
theorem eG(w:T)(ao:Option Addr)(n cp:Nat)(F:Nat->UInt8)(h:RdU w ao n F)(hn:n<=4):
  A I 174 #[.slice ao n cp] w fun e w'=>e=.returned (.int .i64 ((nm F 0 n:Nat):Int))/\w'=w:=by
 have HR:=am h;have HB:Y (∀ j,j<=n->nm F 0 j<4294967296):=fun j hj=>Nat.lt_of_lt_of_le (gj F 0 j) (by
  rcases (show j=0\/j=1\/j=2\/j=3\/j=4 by omega) with rfl | rfl | rfl | rfl | rfl <;> decide)
 have HS:Y (∀ j,nm F 0 (j+1)=nm F 0 j*256+(F j).toNat):=fun j=>by show _=_;rw [nm,Nat.zero_add]
 have HL:Y (∀ j,(F j).toNat<256):=fun j=>(F j).toNat_lt;clear h;go_enter Tryz.func174,Tryz.ntmps174
 go_wp2;go_loop [3,4] (fun y x=>∃ i:Nat,i<=n/\x=.int .i64 (i:Int)/\∃ z:Nat,y=.int .i64 (z:Int)/\Y (z=nm F 0 i)) (fun _ x=>n-(intOf x).toNat)
 case atStart=>exact⟨0,o _,rfl,0,rfl,rfl⟩
 case round =>
  obtain⟨i,hi,rfl,z,rfl,hz⟩:=hrel;by_cases hlt:i<n
  ·obtain⟨b,off,rfl,hr⟩:=HR.out za;have ck:=hr i za;have hb:=HB.out i za;have jP:=HB.out (i+1) za;have hs:=HS.out i;have hl:=HL.out i;rw [<- hz.out] at hb hs;obtain⟨u,hu⟩:∃ u:Nat,(F i).toNat=u:=⟨_,rfl⟩
   rw [hu] at ck hs hl;have HN:=am hs;have i1:(0:Int)<=(i:Int):=za;have i2:(i:Int)<(n:Int):=za;clear hs hu hz hr jP;go_wp2;go_round
   case rel=>exact⟨i+1,za,by go_num,z*256+u,by go_num,HN.out.symm⟩
   case measure=>simp [intOf];omega
  ·obtain rfl:i=n:=za;go_wp2;go_ret;exact⟨aN (by rw [hz.out]),rfl⟩
theorem CP{n:Nat}{R V:Nat->Int}{F:Nat->UInt8}(hF:∀ j,j<6*n->F j=rfB R V j):∀ j,j<6*n+2+4->upR (upR F (6*n) 2 (fun t=>dg (R n).toNat (2-1-t))) (6*n+2) 4 (fun t=>dg (V n).toNat (4-1-t)) j=rfB R V j:=by
 intro j hj;by_cases h2:6*n+2<=j/\j<6*n+2+4
 ·rw [aE h2];have:=sO (R:=R) (V:=V) (i:=n) (t:=j-(6*n+2)) za;rw [show 6*n+2+(j-(6*n+2))=j by omega] at this;exact this.symm
 ·rw [aw h2];by_cases h1:6*n<=j/\j<6*n+2
  ·rw [aE h1];have:=tp (R:=R) (V:=V) (i:=n) (t:=j-6*n) za;rw [show 6*n+(j-6*n)=j by omega] at this;exact this.symm
  ·rw [aw h1];exact hF j za
theorem _root_.Go.Proofs.YtemlojjkokooeaaGreat.Bk.bec{w:T}{g n:Nat}{G:Nat->UInt8}(h:Bk w g n G):Bec w (B ⟨g,0,S⟩) n n G :=
 ⟨fun _=>⟨g,0,rfl,fun j hj=>by rw [Nat.zero_add];exact h.cell hj⟩,(fun e=>by cases e),jb _⟩
theorem wZ(w:T)(ro:Option Addr)(n rc:Nat)(R V:Nat->Int)(hR:RdR w ro n R V)(hn:n<=1000)(hok:∀ i,i<n->(0<=R i/\R i<4294967296)/\0<=V i/\V i<4294967296):
  A I 243 #[L ro n rc] w fun e w'=>∃ uo uc,e=U (L uo (6*n) uc)/\OwU w.heap.size w' uo (6*n) uc (rfB R V)/\b7 w w':=by
 have HR:=am hR;have HK:Y (∀ i,i<n->∃ ri vi:Nat,R i=(ri:Int)/\V i=(vi:Int)/\ri<4294967296/\vi<4294967296):=fun i hi=>⟨(R i).toNat,(V i).toNat,by have:=hok i hi;omega,by have:=hok i hi;omega,by have:=hok i hi;omega,by have:=hok i hi;omega⟩
 clear hR hok;go_enter Tryz.func243,Tryz.ntmps243
 go_wp2_with fail
 go_loopw [3,4] (fun y x wr=>∃ i:Nat,i<=n/\x=J O (i:Int)/\(∃ uo uc,y=L uo (6*i) uc/\Y (OwU w.heap.size wr uo (6*i) uc (rfB R V)))/\Y (b7 w wr)) (fun _ x _=>n-(intOf x).toNat)
 case atStart=>exact⟨0,o _,rfl,⟨S,0,rfl,cE _ _ _⟩,jc _ _⟩
 case round =>
  obtain⟨i,hi,rfl,⟨uo,uc,rfl,em⟩,d8⟩:=hrel;by_cases hlt:i<n
  ·obtain⟨b,off,rfl,jI⟩:=(HR.out.below d8.out) za
   obtain⟨q0,q1⟩:=jI i hlt;obtain⟨ri,vi,e1,e2,l1,l2⟩:=HK.out i hlt;rw [e1] at q0;rw [e2] at q1;have D1:Y (∀ j,j<6*i+2+4->upR (upR (rfB R V) (6*i) 2 (fun t=>dg ri (2-1-t))) (6*i+2) 4 (fun t=>dg vi (4-1-t)) j=rfB R V j):=by
    have:=CP (n:=i) (R:=R) (V:=V) (F:=rfB R V) (fun _ _=>rfl);rw [e1,e2,C,C] at this;exact this
   have i1:(0:Int)<=(i:Int):=za;have i2:(i:Int)<(n:Int):=za
   have Q1:Y (wr.cell? ⟨b,off+i*2+1,S⟩=B (J O (vi:Int))/\b<w.heap.size):=⟨q1,by
    obtain⟨b',qg,e,h'⟩:=HR.out za;cases e
    exact World.block_lt_of_cell? w _ (h' i hlt).1⟩
   clear jI e1 e2 q1;go_wp2_with fail
   refine(cr _ ri 2 za l1).mono ?_;rintro e wa ⟨g,rfl,hg,F6,ha⟩;have ho:=em.out.below ha;have Fg:=hg.bec;have hs:w.heap.size<=wa.heap.size:=Nat.le_trans d8.out.size ha.size;have HG:=am (cZ em.out);have Mu:=ag d8.out ha d8.out.size;have q2:=held Q1.out.1 ha;go_wp2_with (at_builtin;refine au zg (.tmp 11) (.tmp 17) zg w.heap.size (6*i) 2 uc 2 uo (B ⟨g,0,S⟩) _ _ zg zg ho Fg za hs ?_;intro Hr F5 w2 kS kx;have kH:=am kS;have jv:=am (Mu.grown kx hs HG.out);have q3:=kx.cell q2 (by intro e;have h1:=HG.out _ e.symm;have h2:=Q1.out.2;have h3:w.heap.size<=b:=h1;omega);clear kS kx ho Fg Mu q2 hg F6)
   have I9:=am (cZ kH.out);refine(cr _ vi 4 za l2).mono ?_;rintro e wb ⟨g3,rfl,Rv,_,hb⟩;have NH:=kH.out.below hb;have NI:=Rv.bec;have NJ:w.heap.size<=wb.heap.size:=Nat.le_trans jv.out.size hb.size;have NK:=ag jv.out hb jv.out.size;go_wp2_with (at_builtin;refine au zg (.tmp 19) (.tmp 25) zg w.heap.size (6*i+2) 4 F5 4 Hr (B ⟨g3,0,S⟩) _ _ zg zg NH NI za NJ ?_;intro XC XD w4 NL He;have O4:=am (NL.congr D1.out);have qj:=am (NK.grown He NJ I9.out);clear NL He NH NI NK Rv)
   exact⟨⟨i+1,za,by go_num,⟨XC,XD,by rw [show 6*(i+1)=6*i+2+4 by omega],by rw [show 6*(i+1)=6*i+2+4 by omega];exact O4⟩,qj⟩,by simp [intOf];omega⟩
  ·obtain rfl:i=n:=za;go_wp2;go_ret;exact⟨uo,uc,rfl,em.out,d8.out⟩
theorem dQ{n k:Nat}(G H:Nat->UInt8)(h:k<=n):byF k H ++ (byF n G).drop k=byF n (upR G 0 k H):=by
 have:=Bh (W:=n) (n:=0) (m:=k) G H za;rw [List.take_zero,List.nil_append,Nat.zero_add] at this;exact this
theorem dk{w:T}{g n k dC:Nat}{G H:Nat->UInt8}{bo:Option Addr}{cb:Nat}(h0:0<k)(hg:Bk w g n G)(hb:Bec w bo k cb H)(xB:k<=n):
  ∃ w',(Builtin.copy_ #[36,36] 3 #[L (B ⟨g,0,S⟩) n dC,L bo k cb]).run I w=.ok (goInt k) w'/\Bk w' g n (upR G 0 k H)/\Only (fun b=>b=g) w w':=by
 obtain⟨b,Pc,rfl,hc⟩:=hb.rd h0;have hl:(byF k H).length=Nat.min k n:=by rw [ai];exact(Nat.min_eq_left xB).symm
 have l9:=run_copy_row (P:=I) w 36 36 3 5 g 0 n dC ⟨b,Pc,S⟩ k cb (byF n G).toArray 5 (byF k H) Tryz.underlying36 zh hg hl (dF hb) (by simp [ai];exact xB) (dU k H);rw [ai] at l9;refine⟨_,l9,?_,⟨rfl,rfl,rfl,by simp [World.setRow],fun k _ hk=>setRow_other w g k _ hk⟩⟩;unfold Bk;rw [<- dQ G H xB];have:=setRow_heap w g _ (byF k H ++ (byF n G).drop k).toArray 5 _ hg
 simpa using this
theorem AX{k r c q:Int}{W:Nat}(O5:wrap64 (k*c)=(W:Int))(yY:W<=768)(w:T)(bo:Option Addr)(n bc:Nat)(H:Nat->UInt8)(hH:Bec w bo n bc H)(h0:0<n)(hn:n<=W):
  A I 244 #[Pz k r c q,L bo n bc] w fun e w'=>∃ g,e=U (L (B ⟨g,0,S⟩) W W)/\Bk w' g W (upR (fun _=>0) 0 n H)/\w.heap.size<=g/\b7 w w':=by
 have CW:=fun w=>ij k r c q w;rw [O5] at CW;obtain⟨Z,hZ⟩:=fd ((byF W (fun _=>0)).toArray)
 have hmk:=lH W za;rw [<- hZ] at hmk;have HZ:Y (∀ w:T,Bk (w.alloc (D Z 5)) w.heap.size W (fun _=>0)):=fun w=>by unfold Bk;rw [hZ];exact heap_alloc_new w _
 have HX:=am hH;clear hZ O5 hH;obtain⟨w0,bi⟩:=jM w k r c q
 have b0:=jt bi
 go_enter Tryz.func244,Tryz.ntmps244
 go_wp2_with fail
 rw [<- bi];refine(CW _).mono ?_;rintro e wa ⟨rfl,ha⟩;have k1:=ap b0 ha;have k2:b7 w (wa.alloc (D Z 5)):=k1.alloc k1.size _;obtain⟨wc,l9,EN,GU⟩:=dk (dC:=W) h0 (HZ.out wa) (HX.out.below k2) hn;have HB:=am EN;have HG:=am (k1.size);have HK:Y (b7 w wc):=k2.trans (GU.below (fun t e=>by rw [e];exact HG.out) k2.size);clear bi b0 ha k1 k2 EN GU;go_wp2_with fail
 go_ret;exact⟨wa.heap.size,rfl,HB.out,HG.out,HK.out⟩
theorem tO{w:T}{base e size n:Nat}{v:Value}{xs:List Value}(h:w.ownsRow base e size v n xs):w.drew.ownsRow base e size v n xs:=h
theorem uh(w:T)(xs:Array Value)(e:TypeId):∀(j:Nat) u,xs.toList[j]? = B u->(w.alloc (D xs e)).drew.cell? ((⟨w.heap.size,0,S⟩:Addr).add j)=B u:=fun j u h=>World.news_of_block (w:=(w.alloc (D xs e)).drew) (heap_alloc_new w (D xs e)) j u h
theorem gU(w:T)(ao:Option Addr)(n cp m:Nat)(F:Nat->UInt8)(h:Bec w ao n cp F)(hm:6*m<=n)(yr:m<=1000):
  A I 176 #[.slice ao n cp,.int .i64 (m:Int)] w fun e w'=>∃ uo uc,e=.returned (.slice uo m uc)/\OwR w.heap.size w' uo m uc (rdR F 0) (rdV F 0)/\Q w.heap.size w w':=by
 have HX:=am h;have l8:=h.room;clear h;go_enter Tryz.func176,Tryz.ntmps176
 go_wp2_with fail
 go_loopw [5,6] (fun y x wr=>∃ i:Nat,i<=m/\x=.int .i64 (i:Int)/\(∃ uo uc,y=.slice uo i uc/\Y (OwR w.heap.size wr uo i uc (rdR F 0) (rdV F 0)))/\Y (Q w.heap.size w wr)) (fun _ x _=>m-(intOf x).toNat)
 case atStart=>exact⟨0,o _,rfl,⟨S,0,rfl,owr_nil _ _ _ _⟩,jc _ _⟩
 case round =>
  obtain⟨i,hi,rfl,⟨uo,uc,rfl,em⟩,d8⟩:=hrel;by_cases hlt:i<m
  ·obtain⟨b,off,rfl,hc⟩:=(HX.out.below d8.out).rd za;have C1:=eG wr.drew (B ⟨b,off+6*i,S⟩) 2 (cp-6*i) (fun j=>F (6*i+j)) (fun _=>⟨_,_,rfl,fun j hj=>by rw [Nat.add_assoc];exact hc (6*i+j) za⟩) za;have C2:=eG wr.drew (B ⟨b,off+(6*i+2),S⟩) 4 (cp-(6*i+2)) (fun j=>F (6*i+2+j)) (fun _=>⟨_,_,rfl,fun j hj=>by rw [Nat.add_assoc];exact hc (6*i+2+j) za⟩) za;rw [show nm (fun j=>F (6*i+j)) 0 2=nm F (6*i) 2 from bY F (6*i) 0 2] at C1;rw [show nm (fun j=>F (6*i+2+j)) 0 4=nm F (6*i+2) 4 from bY F (6*i+2) 0 4] at C2;have Iw:Y (rdR F 0 i=((nm F (6*i) 2:Nat):Int)/\rdV F 0 i=((nm F (6*i+2) 4:Nat):Int)):=by unfold rdR rdV;rw [Nat.zero_add];exact⟨rfl,rfl⟩
   generalize nm F (6*i) 2=a at *
   generalize nm F (6*i+2) 4=v at *
   have w1:IntKind.i64.wrap (6*(i:Int))=6*(i:Int):=by rw [IntKind.wrap_i64];omega
   have w2:IntKind.i64.wrap (6*(i:Int)+2)=6*(i:Int)+2:=by rw [IntKind.wrap_i64];omega
   have w3:IntKind.i64.wrap (6*(i:Int)+6)=6*(i:Int)+6:=by rw [IntKind.wrap_i64];omega
   have c1:(0:Int)<=6*(i:Int):=za;have c2:6*(i:Int)<=6*(i:Int)+2:=za;have c3:6*(i:Int)+2<=(cp:Int):=za;have c4:(0:Int)<=6*(i:Int)+2:=za;have c5:6*(i:Int)+2<=6*(i:Int)+6:=za;have c6:6*(i:Int)+6<=(cp:Int):=za;have c7:(0:Int)<=6*(i:Int)+6:=za;have t1:(6*(i:Int)).toNat=6*i:=za;have t2:(6*(i:Int)+2).toNat=6*i+2:=za;have t3:(6*(i:Int)+6).toNat=6*i+6:=za;have n1:¬ cp=6*i:=za;have n2:¬ cp=6*i+2:=za;have HV:Y (wr.ownsRow w.heap.size 71 2 (.slice uo i uc) i (rvl (rdR F 0) (rdV F 0) i)):=em.out;obtain⟨XS,kh⟩:∃ X,X=rvl (rdR F 0) (rdV F 0) i:=⟨_,rfl⟩
   rw [<- kh] at HV;have o7:Y (rvl (rdR F 0) (rdV F 0) (i+1)=XS ++ [.int .i64 (a:Int),.int .i64 (v:Int)]):=by show _=_;rw [rvl,<- kh,Iw.out.1,Iw.out.2]
   have qA:w.heap.size<=wr.heap.size:=d8.out.size;obtain⟨j0,hj,kE,kB,kt⟩:=info_parts wR;clear hc kh em Iw;go_wp2_with fail
   go_region_held3 (fun _=>True) (trivial) ((first
    | (go_at_call 174;(with_reducible show A I 174 #[.slice (B ⟨b,off+6*i,S⟩) 2 (cp-6*i)] _ _);refine C1.mono ?_;rintro e w' ⟨rfl,g8⟩;obtain rfl:=g8.symm)
    | (go_at_call 174;(with_reducible show A I 174 #[.slice (B ⟨b,off+(6*i+2),S⟩) 4 (cp-(6*i+2))] _ _);refine C2.mono ?_;rintro e w' ⟨rfl,g8⟩;obtain rfl:=g8.symm)
    | ((with_reducible show if Region.wanted ⟨B 32,_,_,_,_,_⟩ _=true then _ else _);refine step_append_lies _ zg (.tmp 12) (.tmp 31) 58 zg w.heap.size 71 j0 (.agg #[.int .i64 0,.int .i64 0]) 2 16 Tryz.underlying58 hj kE kB kt zg zb (.slice uo i uc) i XS (by simp [Act.eval]) (tO (HV.out.alloc _)) ⟨wr.heap.size,0,S⟩ 1 1 [.int .i64 (a:Int),.int .i64 (v:Int)] (by simp [Act.eval]) zg (uh wr #[.int .i64 (a:Int),.int .i64 (v:Int)] 71) (by simp [Value.oneCell']) zb (by unfold maxLen;omega) za (by show _<=(wr.alloc _).heap.size;simp;omega) (wr.heap.size+1) (by show (wr.alloc _).heap.size=_;simp) ?_;intro g2 jK w2 jF jH _ _;have jv:Y (Q w.heap.size w w2):=((d8.out.alloc za _).drew).grown jH (by show _<=(wr.alloc _).heap.size;simp;omega) (fun r hr=>(HV.out.lt r hr).1))))
   have OH:Y (OwR w.heap.size w2 (B ⟨g2,0,S⟩) (i+1) jK (rdR F 0) (rdV F 0)):=by show w2.ownsRow _ _ _ _ _ _;rw [o7.out];exact jF
   clear jF jH;go_wp2_with fail
   exact⟨⟨i+1,za,by go_num,⟨_,_,rfl,OH⟩,jv⟩,by simp [intOf];omega⟩
  ·obtain rfl:i=m:=za;go_wp2;go_ret;exact⟨uo,uc,rfl,em.out,d8.out⟩
theorem pO(k r c q:Int)(w:T)(W:Nat)(h:wrap64 (k*c)=(W:Int))(h1:32<=W)(h2:W<=768):
  A I 175 #[Pz k r c q] w fun e w'=>e=U (J O ((dir W:Nat):Int))/\b7 w w':=by
 have HM:=ij k r c q (w.alloc (D #[J O k,J O r,J O c,J O q] 23));rw [h] at HM;go_enter Tryz.func175,Tryz.ntmps175
 go_wp2_with (go_at_call 85;refine HM.mono ?_;rintro e w' ⟨rfl,hb⟩)
 go_ret;exact⟨aN (by unfold dir;omega),ap (bal _ _) hb⟩
theorem vJ(k r c q:Int)(w:T)(W:Nat)(h:wrap64 (k*c)=(W:Int))(h1:32<=W)(h2:W<=768):
  A I 189 #[Pz k r c q] w fun e w'=>e=U (J O ((lea W:Nat):Int))/\b7 w w':=by
 have HM:=ij k r c q (w.alloc (D #[J O k,J O r,J O c,J O q] 23));rw [h] at HM;go_enter Tryz.func189,Tryz.ntmps189
 go_wp2_with (go_at_call 85;refine HM.mono ?_;rintro e w' ⟨rfl,hb⟩)
 go_ret;exact⟨aN (by unfold lea;omega),ap (bal _ _) hb⟩
theorem ei(k r c q:Int)(w:T)(W:Nat)(h:wrap64 (k*c)=(W:Int))(h1:32<=W)(h2:W<=768):
  A I 129 #[Pz k r c q] w fun e w'=>e=U (J O ((mst W:Nat):Int))/\b7 w w':=by
 have HD:=fun w=>pO k r c q w W h h1 h2;have HL:=fun w=>vJ k r c q w W h h1 h2;have HW:=fun w=>ij k r c q w;have HE:Y (mst W=min 32768 (dir W*lea W*W)):=rfl;have d1:=dP h2;have l1:=nw h2;have p1:=vF h2;have p2:=wW h2;rw [h] at HW;generalize dir W=d at *
 generalize lea W=l at *
 have q1:(0:Int)<=(d:Int)*(l:Int)/\(d:Int)*(l:Int)<=16128:=by rw [<- Int.natCast_mul];omega
 have q2:(0:Int)<=(d:Int)*(l:Int)*(W:Int)/\(d:Int)*(l:Int)*(W:Int)<=12386304:=by rw [<- Int.natCast_mul,<- Int.natCast_mul];omega
 obtain⟨p,hp⟩:∃ p:Nat,(p:Int)=(d:Int)*(l:Int)*(W:Int):=⟨d*l*W,by rw [Int.natCast_mul,Int.natCast_mul]⟩
 have e1:IntKind.i64.wrap ((d:Int)*(l:Int))=(d:Int)*(l:Int):=by rw [IntKind.wrap_i64];omega
 have HP:Y (IntKind.i64.wrap (IntKind.i64.wrap ((d:Int)*(l:Int))*(W:Int))=(p:Int)):=by show _=_;rw [e1,hp,IntKind.wrap_i64];omega
 have FV:Y ((if (p:Int)<32768 then (p:Int) else 32768)=((mst W:Nat):Int)):=by
  show _=_;rw [<- Int.natCast_mul,<- Int.natCast_mul] at hp;rw [HE.out];split <;> omega
 clear e1 hp q1 q2;clear HE h p1 p2;obtain⟨w0,bi⟩:=jM w k r c q
 have b0:=jt bi
 obtain⟨s0,s1,s2,s3⟩:=ak bi (jc _ _);go_enter Tryz.func129,Tryz.ntmps129
 go_wp2_with fail
 rw [<- bi];clear bi;go_region_held3 (fun w'=>w'.cell? ⟨w.heap.size,0,S⟩=B (J O k)/\w'.cell? ⟨w.heap.size,1,S⟩=B (J O r)/\w'.cell? ⟨w.heap.size,2,S⟩=B (J O c)/\w'.cell? ⟨w.heap.size,3,S⟩=B (J O q)) (go_keep)
  ((first
   | (go_at_call 175;refine(HD _).mono ?_;rintro e wa ⟨rfl,ha⟩;have t0:=held (w:=w0.drew) s0 ha;have t1:=held (w:=w0.drew) s1 ha;have t2:=held (w:=w0.drew) s2 ha;have t3:=held (w:=w0.drew) s3 ha)
   | (go_at_call 189;refine(HL _).mono ?_;rintro e wb ⟨rfl,hb⟩;have u0:=held t0 hb;have u1:=held t1 hb;have u2:=held t2 hb;have u3:=held t3 hb)
   | (go_at_call 85;refine(HW _).mono ?_;rintro e wc ⟨rfl,hc⟩;have v0:=held u0 hc;have v1:=held u1 hc;have v2:=held u2 hc;have v3:=held u3 hc)))
 rw [HP.out,FV.out];go_wp2;go_ret;exact⟨rfl,ap (ap (ap (ap b0 (bdw _ _)) ha) hb) hc⟩
theorem _root_.Go.Proofs.YtemlojjkokooeaaGreat.Par.good{k r c q:Int}{N W:Nat}{y:Int}(h:Par k r c q N W y)(hm:may k r c q=true):wrap64 (k*c)=(W:Int)/\32<=W/\W<=768/\y=0/\(W:Int)=k*c:=by
 have hw:=h.wide;rcases h with ⟨p0,p1,p2,rfl⟩ | ⟨p0,_⟩
 ·obtain⟨h1,h2,h3,h4,h5,h6,h7,h8,h9⟩:=aB p0;exact⟨by rw [p1];exact eS h1 h2 h5 h6,za,hw,rfl,p1⟩
 ·rw [p0] at hm;cases hm
theorem fm{k r c q:Int}{N W:Nat}{y:Int}(h:Par k r c q N W y){len:Int}{s d x n:Nat}{e:Int}(h':Made k r c q len W s d x n e)(w:T):
  A I 309 #[Pz k r c q,J O len] w fun e' w'=>e'=U (J O e)/\b7 w w':=by
 have HM:=fun w=>eP k r c q w;obtain⟨w0,bi⟩:=jM w k r c q
 have b0:=jt bi
 cases hm:may k r c q
 ·have he:e=2:=by
   rcases h' with ⟨h1,_⟩ | ⟨_,_,_,_,_,h2⟩ | ⟨h1,_⟩
   ·rw [h1] at hm;cases hm
   ·exact h2
   ·rw [h1] at hm;cases hm
  subst he;rw [hm] at HM;clear h h' hm;go_enter Tryz.func309,Tryz.ntmps309
  go_wp2_with fail
  rw [<- bi];refine(HM _).mono ?_;rintro e wa ⟨rfl,ha⟩;clear bi;go_wp2_with fail
  go_ret;exact⟨rfl,ap b0 ha⟩
 ·obtain⟨g1,g2,g3,_,_⟩:=h.good hm;have zE:=fun w=>ei k r c q w W g1 g2 g3;have he:(len<0/\e=2)\/(0<=len/\(mst W:Int)<len/\e=3)\/(0<=len/\len<=(mst W:Int)/\e=0):=by
   rcases h' with ⟨_,h1,h2,_,_,_,_,h3⟩ | ⟨h1,_,_,_,_,h2⟩ | ⟨_,h1,h2,_,_,_,_,h3⟩
   ·exact .inr (.inr ⟨h1,h2,h3⟩)
   ·rcases h1 with h1 | h1
    ·rw [h1] at hm;cases hm
    ·exact .inl ⟨h1,h2⟩
   ·exact .inr (.inl ⟨h1,h2,h3⟩)
  rw [hm] at HM;clear h h' hm g1;have gm:=cq W;generalize mst W=m at *
  rcases he with ⟨e1,rfl⟩ | ⟨e1,e2,rfl⟩ | ⟨e1,e2,rfl⟩
  ·go_enter Tryz.func309,Tryz.ntmps309
   go_wp2_with fail
   rw [<- bi];refine(HM _).mono ?_;rintro e wa ⟨rfl,ha⟩;clear bi;go_wp2_with fail
   go_ret;exact⟨rfl,ap b0 ha⟩
  all_goals (
   go_enter Tryz.func309,Tryz.ntmps309
   go_wp2_with fail
   rw [<- bi];refine(HM _).mono ?_;rintro e wa ⟨rfl,ha⟩;obtain⟨s0,s1,s2,s3⟩:=ak bi ha;clear bi;go_wp2_with fail
   refine(zE _).mono ?_;rintro e wb ⟨rfl,hb⟩;go_wp2_with fail
   go_ret;exact⟨rfl,ap (ap b0 ha) hb⟩)
theorem el(k r c q:Int)(W:Nat)(g1:wrap64 (k*c)=(W:Int))(g2:32<=W)(g3:W<=768)(len:Nat)(yx:len<=32768)(s x:Nat)(hs:s=up len W)(hx:x=lvs W s)(w:World):
  Calls Tryz.prog 188 #[.agg #[.int .i64 k,.int .i64 r,.int .i64 c,.int .i64 q],.int .i64 (len:Int)] w fun e' w'=>e'=.returned (.tuple #[.int .i64 (s:Int),.int .i64 (x:Int)])/\Below w.heap.size w w':=by
 have HW:=fun w=>ij k r c q w;rw [g1] at HW;have HD:=fun w=>pO k r c q w W g1 g2 g3;have HL:=fun w=>vJ k r c q w W g1 g2 g3;have HR:=fun w=>sP len W w za za za;have xW:s<=32768:=by have:=dT len W za;omega
 rw [<- hs] at HR;have UY:=iA g2;have FK:=nw g3;have HU:=fun w=>sP s (lea W) w za za za;have HX:Hid (x=if s<=dir W then 0 else up s (lea W)):=hx;clear hx hs g1;generalize dir W=dr at *
 generalize up s (lea W)=ux at *
 generalize lea W=l at *
 obtain⟨w0,bi⟩:∃ w0,w0=w.alloc (.cells #[.int .i64 k,.int .i64 r,.int .i64 c,.int .i64 q] 23):=⟨_,rfl⟩
 have b0:Below w.heap.size w w0:=by rw [bi];exact bal _ _
 by_cases hlt:s<=dr
 ·have HE:Hid (x=0):=by have e1:=HX.out;rw [zk hlt] at e1;exact e1
  go_enter Tryz.func188,Tryz.ntmps188
  go_wp2_with fail
  rw [<- bi];refine(HW _).mono ?_;rintro e v1 ⟨rfl,g1⟩;have k1:=g1;obtain⟨s0,s1,s2,s3⟩:=ak bi k1;go_wp2_with fail
  refine(HR _).mono ?_;rintro e w' ⟨rfl,g8⟩;obtain rfl:=g8.symm;go_wp2_with fail
  refine(HD _).mono ?_;rintro e v2 ⟨rfl,j2⟩;have k2:=ap k1 j2;obtain⟨s0,s1,s2,s3⟩:=ak bi k2;go_wp2_with fail
  go_ret2;exact⟨by rw [HE.out];rfl,ap b0 k2⟩
 ·have HE:Hid (x=ux):=by have e1:=HX.out;rw [zl hlt] at e1;exact e1
  go_enter Tryz.func188,Tryz.ntmps188
  go_wp2_with fail
  rw [<- bi];refine(HW _).mono ?_;rintro e v1 ⟨rfl,g1⟩;have k1:=g1;obtain⟨s0,s1,s2,s3⟩:=ak bi k1;go_wp2_with fail
  refine(HR _).mono ?_;rintro e w' ⟨rfl,g8⟩;obtain rfl:=g8.symm;go_wp2_with fail
  refine(HD _).mono ?_;rintro e v2 ⟨rfl,j2⟩;have k2:=ap k1 j2;obtain⟨s0,s1,s2,s3⟩:=ak bi k2;go_wp2_with fail
  refine(HL _).mono ?_;rintro e v3 ⟨rfl,j3⟩;have k3:=ap k2 j3;obtain⟨s0,s1,s2,s3⟩:=ak bi k3;go_wp2_with fail
  refine(HU _).mono ?_;rintro e w' ⟨rfl,g8⟩;obtain rfl:=g8.symm;go_wp2_with fail
  go_ret2;exact⟨by rw [HE.out];rfl,ap b0 k3⟩
theorem bC{k r c q:Int}{N W:Nat}{y:Int}(h:Par k r c q N W y){len:Int}{s d x n:Nat}{e:Int}(h':Made k r c q len W s d x n e)(w:T):
  A I 253 #[Pz k r c q,J O len] w fun e' w'=>e'=U (.tuple #[J O (s:Int),J O e])/\b7 w w':=by
 have HC:=fun w=>fm h h' w;obtain⟨w0,bi⟩:=jM w k r c q
 have b0:=jt bi
 have h2:=h';rcases h2 with ⟨h1,h2,h3,h4,h5,h6,h7,rfl⟩ | h2
 ·obtain⟨l,rfl⟩:=Int.eq_ofNat_of_zero_le h2;obtain⟨g1,g2,g3,_,_⟩:=h.good h1;have gm:=cq W;rw [C] at h4;have HO:=fun w=>el k r c q W g1 g2 g3 l za s x h4 h5 w;have xW:s<=32768:=by have:=dT l W za;omega
  have nl:x<=s:=by rw [h5];exact mz g2
  have HD:=am h6;have HN:=am h7;clear h h' h1 h2 h3 h4 h5 h6 h7 g1;by_cases hx0:1<x;all_goals (
   have HV:Y (d=if 1<x then 1 else x):=by have:=HD.out;show _=_;split <;> omega
   go_enter Tryz.func253,Tryz.ntmps253
   go_wp2_with fail
   rw [<- bi];refine(HC _).mono ?_;rintro e wa ⟨rfl,ha⟩;obtain⟨s0,s1,s2,s3⟩:=ak bi ha;clear bi;go_wp2_with fail
   refine(HO _).mono ?_;rintro e wb ⟨rfl,hb⟩;go_wp2_with fail
   go_ret2;exact⟨zg,ap (ap b0 ha) hb⟩)
 ·have hz:s=0/\d=0/\x=0/\n=0/\(e=2\/e=3):=by
   rcases h2 with ⟨_,h3,h4,h5,h6,h7⟩ | ⟨_,_,_,h3,h4,h5,h6,h7⟩
   ·exact⟨h3,h4,h5,h6,.inl h7⟩
   ·exact⟨h3,h4,h5,h6,.inr h7⟩
  obtain⟨rfl,rfl,rfl,rfl,he⟩:=hz;clear h h' h2;rcases he with rfl | rfl
  all_goals (
   go_enter Tryz.func253,Tryz.ntmps253
   go_wp2_with fail
   rw [<- bi];refine(HC _).mono ?_;rintro e wa ⟨rfl,ha⟩;clear bi;go_wp2_with fail
   go_ret2;exact⟨rfl,ap b0 ha⟩)
theorem cB{k r c q:Int}{N W:Nat}{y:Int}(h:Par k r c q N W y){len:Int}{s d x n:Nat}{e:Int}(h':Made k r c q len W s d x n e)(w:T):
  A I 254 #[Pz k r c q,J O len] w fun e' w'=>e'=U (.tuple #[J O (d:Int),J O e])/\b7 w w':=by
 have HC:=fun w=>fm h h' w;obtain⟨w0,bi⟩:=jM w k r c q
 have b0:=jt bi
 have h2:=h';rcases h2 with ⟨h1,h2,h3,h4,h5,h6,h7,rfl⟩ | h2
 ·obtain⟨l,rfl⟩:=Int.eq_ofNat_of_zero_le h2;obtain⟨g1,g2,g3,_,_⟩:=h.good h1;have gm:=cq W;rw [C] at h4;have HO:=fun w=>el k r c q W g1 g2 g3 l za s x h4 h5 w;have xW:s<=32768:=by have:=dT l W za;omega
  have nl:x<=s:=by rw [h5];exact mz g2
  have HD:=am h6;have HN:=am h7;clear h h' h1 h2 h3 h4 h5 h6 h7 g1;by_cases hx0:1<x;all_goals (
   have HV:Y (d=if 1<x then 1 else x):=by have:=HD.out;show _=_;split <;> omega
   go_enter Tryz.func254,Tryz.ntmps254
   go_wp2_with fail
   rw [<- bi];refine(HC _).mono ?_;rintro e wa ⟨rfl,ha⟩;obtain⟨s0,s1,s2,s3⟩:=ak bi ha;clear bi;go_wp2_with fail
   refine(HO _).mono ?_;rintro e wb ⟨rfl,hb⟩;go_wp2_with fail
   go_ret2;exact⟨by rw [HV.out];first | (rw [zk hx0];rfl) | (rw [zl hx0];rfl),ap (ap b0 ha) hb⟩)
 ·have hz:s=0/\d=0/\x=0/\n=0/\(e=2\/e=3):=by
   rcases h2 with ⟨_,h3,h4,h5,h6,h7⟩ | ⟨_,_,_,h3,h4,h5,h6,h7⟩
   ·exact⟨h3,h4,h5,h6,.inl h7⟩
   ·exact⟨h3,h4,h5,h6,.inr h7⟩
  obtain⟨rfl,rfl,rfl,rfl,he⟩:=hz;clear h h' h2;rcases he with rfl | rfl
  all_goals (
   go_enter Tryz.func254,Tryz.ntmps254
   go_wp2_with fail
   rw [<- bi];refine(HC _).mono ?_;rintro e wa ⟨rfl,ha⟩;clear bi;go_wp2_with fail
   go_ret2;exact⟨rfl,ap b0 ha⟩)
theorem bO{k r c q:Int}{N W:Nat}{y:Int}(h:Par k r c q N W y){len:Int}{s d x n:Nat}{e:Int}(h':Made k r c q len W s d x n e)(w:T):
  A I 255 #[Pz k r c q,J O len] w fun e' w'=>e'=U (.tuple #[J O (x:Int),J O e])/\b7 w w':=by
 have HC:=fun w=>fm h h' w;obtain⟨w0,bi⟩:=jM w k r c q
 have b0:=jt bi
 have h2:=h';rcases h2 with ⟨h1,h2,h3,h4,h5,h6,h7,rfl⟩ | h2
 ·obtain⟨l,rfl⟩:=Int.eq_ofNat_of_zero_le h2;obtain⟨g1,g2,g3,_,_⟩:=h.good h1;have gm:=cq W;rw [C] at h4;have HO:=fun w=>el k r c q W g1 g2 g3 l za s x h4 h5 w;have xW:s<=32768:=by have:=dT l W za;omega
  have nl:x<=s:=by rw [h5];exact mz g2
  have HD:=am h6;have HN:=am h7;clear h h' h1 h2 h3 h4 h5 h6 h7 g1;by_cases hx0:1<x;all_goals (
   have HV:Y (d=if 1<x then 1 else x):=by have:=HD.out;show _=_;split <;> omega
   go_enter Tryz.func255,Tryz.ntmps255
   go_wp2_with fail
   rw [<- bi];refine(HC _).mono ?_;rintro e wa ⟨rfl,ha⟩;obtain⟨s0,s1,s2,s3⟩:=ak bi ha;clear bi;go_wp2_with fail
   refine(HO _).mono ?_;rintro e wb ⟨rfl,hb⟩;go_wp2_with fail
   go_ret2;exact⟨zg,ap (ap b0 ha) hb⟩)
 ·have hz:s=0/\d=0/\x=0/\n=0/\(e=2\/e=3):=by
   rcases h2 with ⟨_,h3,h4,h5,h6,h7⟩ | ⟨_,_,_,h3,h4,h5,h6,h7⟩
   ·exact⟨h3,h4,h5,h6,.inl h7⟩
   ·exact⟨h3,h4,h5,h6,.inr h7⟩
  obtain⟨rfl,rfl,rfl,rfl,he⟩:=hz;clear h h' h2;rcases he with rfl | rfl
  all_goals (
   go_enter Tryz.func255,Tryz.ntmps255
   go_wp2_with fail
   rw [<- bi];refine(HC _).mono ?_;rintro e wa ⟨rfl,ha⟩;clear bi;go_wp2_with fail
   go_ret2;exact⟨rfl,ap b0 ha⟩)
end Go.Proofs.YtemlojjkokooeaaGreat.De
