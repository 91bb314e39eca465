import Derived.Test.YtemlojjkokooeaaGreatTz
import Derived.WalkKit
import GoSem.Claim
import Derived.JoinedTies
import Derived.KernelRfl
import Derived.WalkSpells
import Derived.WalkLawsBesides
import Derived.Below
import Derived.Deep.RegionHeld3
import Derived.Test.YtemlojjkokooeaaGreatProg
open Go.Value renaming int->J,tuple->V,agg->P
open Go.IntKind renaming i64->O
open Nat renaming le_succ->I,le_refl->R
open Go.RowKit renaming Below->Q,Hid->H
open Go.Ending renaming returned->Y
open Go.Proofs.Tryz renaming prog->Z
open Go renaming World->U,Calls->L,Value->T
open Option renaming none->X,some->G
open Go.Obj renaming cells->D
open Bool renaming false->S,true->C
set_option maxHeartbeats 16000000
set_option maxRecDepth 100000
namespace Go.Proofs.YtemlojjkokooeaaGreat
def may (k r c q:Int):Bool:=decide (1<=k/\k<=12/\0<=r/\r<=4/\8<=c/\c<=64/\32<=k*c/\8<=q/\q<=256)
theorem aB{k r c q:Int}(h:may k r c q=C):1<=k/\k<=12/\0<=r/\r<=4/\8<=c/\c<=64/\32<=k*c/\8<=q/\q<=256:=of_decide_eq_true h
theorem oe{k c:Int}(h1:1<=k)(h2:k<=12)(h3:8<=c)(h4:c<=64):8<=k*c/\k*c<=768:=by
 have a:=Int.mul_le_mul h2 h4 za za;have b:=Int.mul_le_mul h1 h3 za za;omega
def dir (w:Nat):Nat:=(w-7) / 6
def lea (w:Nat):Nat:=w / 6
def mst (w:Nat):Nat:=min 32768 (dir w*lea w*w)
theorem dP{w:Nat}(h:w<=768):dir w<=126:=by unfold dir;omega
theorem nw{w:Nat}(h:w<=768):lea w<=128:=by unfold lea;omega
theorem iA{w:Nat}(h:32<=w):5<=lea w:=by unfold lea;omega
theorem vF{w:Nat}(h:w<=768):dir w*lea w<=16128:=Nat.mul_le_mul (dP h) (nw h)
theorem wW{w:Nat}(h:w<=768):dir w*lea w*w<=12386304:=Nat.mul_le_mul (vF h) h
theorem cq(w:Nat):mst w<=32768:=Nat.min_le_left _ _
theorem BS(w:Nat):mst w<=dir w*lea w*w:=Nat.min_le_right _ _
def up (a b:Nat):Nat:=(a+b-1) / b
theorem sD{a a' b:Nat}(h:a<=a'):up a b<=up a' b:=Nat.div_le_div_right za
theorem Aa{a b m:Nat}(h:a<=m*b)(hb:0<b):up a b<=m:=by
 unfold up;have:(a+b-1) / b<m+1:=(Nat.div_lt_iff_lt_mul hb).2 (by rw [Nat.succ_mul];omega);omega
theorem Al{a b:Nat}(ha:0<a)(hb:0<b):0<up a b:=Nat.div_pos za hb
theorem dT(a b:Nat)(hb:0<b):up a b<=a:=Aa (Nat.le_mul_of_pos_right a hb) hb
def lvs (w s:Nat):Nat:=if s<=dir w then 0 else up s (lea w)
theorem wj{w s t:Nat}(h:s<=t):lvs w s<=lvs w t:=by
 unfold lvs;split
 ·omega
 ·rw [zl za];exact sD h
theorem Cg{w:Nat}(h:32<=w):lvs w (up (mst w) w)<=dir w:=by
 unfold lvs;split
 ·omega
 ·exact Aa (Aa (by rw [Nat.mul_assoc];exact(by rw [<- Nat.mul_assoc];exact BS w)) za) (by have:=iA h;omega)
theorem BX{w s:Nat}(h:32<=w):0<lvs w s ↔ dir w<s:=by
 unfold lvs;have:=iA h;split
 ·omega
 ·exact⟨fun _=>by omega,fun _=>Al za za⟩
theorem mz{w s:Nat}(h:32<=w):lvs w s<=s:=by
 unfold lvs;split
 ·omega
 ·exact dT _ _ (by have:=iA h;omega)
open Go.RowKit
theorem ag{B:Nat}{a b c:U}(h:Q B a b)(k:b7 b c)(hB:B<=b.heap.size):Q B a c:=h.trans (k.mono hB)
theorem ap{a b c:U}(h:b7 a b)(k:b7 b c):b7 a c:=ag h k h.size
theorem bal(w:U)(o:Obj):b7 w (w.alloc o):=(Below.refl _ w).alloc (R _) o
theorem bdw(B:Nat)(w:U):Q B w w.drew:=⟨rfl,rfl,rfl,R _,fun _ _=>rfl⟩
theorem held{w w':U}{a:Addr}{v:T}(h:w.cell? a=G v)(hb:b7 w w'):w'.cell? a=G v:=(hb.cell (World.block_lt_of_cell? w _ h)).trans h
theorem aN{k:IntKind}{a b:Int}(h:a=b):Ending.returned (J k a)=Y (J k b):=by rw [h]
theorem ay{a b:Bool}(h:a=b):Ending.returned (.bool a)=Y (.bool b):=by rw [h]
theorem ae{w w0 w1:U}{cs:Array T}{t:TypeId}(h0:w0=w.alloc (D cs t))(hb:b7 w0 w1)(i:Nat){v:T}(hi:cs[i]? = G v):w1.cell? ⟨w.heap.size,i,X⟩=G v:=by
 subst h0;rw [World.cell?_of_block (hb.block w.heap.size zi),cell_of_row _ _ _ _ _ _ (heap_alloc_new w _)];exact hi
theorem aI{w w0 w1:U}{cs:Array T}{t:TypeId}(h0:w0=w.alloc (D cs t))(hb:b7 w0 w1)(i:Nat):w1.frozen? ⟨w.heap.size,i,X⟩=S:=by
 subst h0;rw [World.frozen?_of_block (hb.block w.heap.size zi)];unfold World.frozen?;rw [heap_alloc_new w _];simp
theorem ak{w w0 w1:U}{x0 x1 x2 x3:T}{t:TypeId}(h0:w0=w.alloc (D #[x0,x1,x2,x3] t))(hb:b7 w0 w1):
  w1.cell? ⟨w.heap.size,0,X⟩=G x0/\w1.cell? ⟨w.heap.size,1,X⟩=G x1/\w1.cell? ⟨w.heap.size,2,X⟩=G x2/\w1.cell? ⟨w.heap.size,3,X⟩=G x3 :=
 ⟨ae h0 hb 0 rfl,ae h0 hb 1 rfl,ae h0 hb 2 rfl,ae h0 hb 3 rfl⟩
theorem cI{w w0 w1:U}{x0 x1 x2 x3 x4:T}{t:TypeId}(h0:w0=w.alloc (D #[x0,x1,x2,x3,x4] t))(hb:b7 w0 w1):
  w1.cell? ⟨w.heap.size,0,X⟩=G x0/\w1.cell? ⟨w.heap.size,1,X⟩=G x1/\w1.cell? ⟨w.heap.size,2,X⟩=G x2/\w1.cell? ⟨w.heap.size,3,X⟩=G x3/\w1.cell? ⟨w.heap.size,4,X⟩=G x4 :=
 ⟨ae h0 hb 0 rfl,ae h0 hb 1 rfl,ae h0 hb 2 rfl,ae h0 hb 3 rfl,ae h0 hb 4 rfl⟩
theorem w64(n:Int)(h:-9223372036854775808<=n/\n<=9223372036854775807):wrap64 n=n:=by unfold wrap64;omega
theorem eS{k c:Int}(h1:1<=k)(h2:k<=12)(h3:8<=c)(h4:c<=64):wrap64 (k*c)=k*c:=by
 have:=oe h1 h2 h3 h4;unfold wrap64;omega
theorem bk(n a b:Int)(w:U):
  L Z 179 #[J O n,J O a,J O b] w fun e w'=>e=Y (.bool (decide (a<=n/\n<=b)))/\w'=w:=by
 rw [Bool.decide_and];go_enter Tryz.func179,Tryz.ntmps179
 go_wp2
 ·go_ret;exact⟨ay (by rw [zm (show a<=n by omega)];rfl),rfl⟩
 ·go_ret;exact⟨ay (by rw [zp (show ¬ a<=n by omega)];rfl),rfl⟩
theorem iJ(k r c q:Int):may k r c q=decide (1<=k/\k<=12/\0<=r/\r<=4/\8<=c/\c<=64/\32<=k*c/\8<=q/\q<=256):=rfl
def erP (k r c q:Int):Int:=if may k r c q=C then 0 else 2
theorem eQ(k r c q:Int)(w:World):
  Calls Tryz.prog 109 #[.agg #[.int .i64 k,.int .i64 r,.int .i64 c,.int .i64 q]] w fun e w'=>e=.returned (.int .i64 (erP k r c q))/\Below w.heap.size w w':=by
 have HW:Hid (1<=k->k<=12->8<=c->c<=64->wrap64 (k*c)=k*c):=eS;go_enter Tryz.func109,Tryz.ntmps109
 go_wp2_with (go_at_call 179;refine(bk _ _ _ _).mono ?_;rintro e w' ⟨rfl,g8⟩;obtain rfl:=g8.symm)
 all_goals (go_ret;have:=HW.out;refine⟨aN ?_,bal _ _⟩;unfold erP;rw [iJ];first | (rw [zk (zm za)];done) | (rw [zl (by rw [decide_eq_true_eq];omega)];done))
def Par (k r c q:Int) (N W:Nat) (e:Int):Prop:=(may k r c q=C/\(W:Int)=k*c/\(N:Int)=k+r/\e=0)\/(may k r c q=S/\W=0/\N=0/\e=2)
theorem par_any(k r c q:Int):∃ N W e,Par k r c q N W e:=by
 cases h:may k r c q
 ·exact⟨0,0,2,.inr ⟨h,rfl,rfl,rfl⟩⟩
 ·obtain⟨h1,h2,h3,h4,h5,h6,h7,h8,h9⟩:=aB h;exact⟨(k+r).toNat,(k*c).toNat,0,.inl ⟨h,za,za,rfl⟩⟩
theorem Par.wide{k r c q:Int}{N W:Nat}{e:Int}(h:Par k r c q N W e):W<=768:=by
 rcases h with ⟨h,h0,_⟩ | ⟨_,h0,_⟩
 ·obtain⟨h1,h2,h3,h4,h5,h6,h7,h8,h9⟩:=aB h;have:=oe h1 h2 h5 h6;omega
 ·omega
theorem mP(k r c q:Int)(w:U)(W N:Nat)(h:wrap64 (k*c)=(W:Int))(h1:32<=W)(h2:W<=768)(he:erP k r c q=0)(hN:(N:Int)=k+r)(hk:N<=16):
  L Z 142 #[Pz k r c q] w fun e w'=>e=Y (V #[P #[J O (N:Int),J O (W:Int),J O ((dir W:Nat):Int),J O ((lea W:Nat):Int),J O ((mst W:Nat):Int)],J O 0])/\b7 w w':=by
 have HC:=fun w=>eQ k r c q w;rw [he] at HC;have HE:H (mst W=min 32768 (dir W*lea W*W)):=rfl;have hd:((W:Int)-7) / 6=((dir W:Nat):Int):=by unfold dir;omega
 have hl:(W:Int) / 6=((lea W:Nat):Int):=by unfold lea;omega
 have HD:=am hd;have HL:=am hl;have HN:=am (hN.symm);have p1:=vF h2;have p2:=wW h2;obtain⟨p,hp,Ho,Yb⟩:∃ p:Nat,wrap64 (wrap64 (((W:Int)-7) / 6*((W:Int) / 6))*(W:Int))=(p:Int)/\mst W=min 32768 p/\p<=12386304:=by
  refine⟨dir W*lea W*W,?_,rfl,p2⟩;rw [hd,hl,<- Int.natCast_mul,w64 ((dir W*lea W:Nat):Int) za,<- Int.natCast_mul,w64 _ za]
 have RH:=am Ho;clear Ho hd hl p1 p2 HE;obtain⟨w0,bi⟩:=jM w k r c q
 obtain⟨w1,ci⟩:=fd (w0.alloc (D #[J O 0,J O 0,J O 0,J O 0,J O 0] 177))
 have b0:=jt bi
 have b1:=jt ci
 have z0:=ks bi
 go_enter Tryz.func142,Tryz.ntmps142
 go_wp2_with fail
 rw [<- bi,<- ci];refine(HC _).mono ?_;rintro e wa ⟨rfl,ha⟩;obtain⟨s0,s1,s2,s3⟩:=ak bi (ap b1 ha);obtain⟨m0,m1,m2,m3,m4⟩:=cI ci ha;have f:=aI ci ha;rw [z0] at m0 m1 m2 m3 m4 f;have n0:∀ o,(wa.alloc o).cell? ⟨w.heap.size+1,0,X⟩=G (J O 0):=fun o=>held m0 (bal _ _);have n1:∀ o,(wa.alloc o).cell? ⟨w.heap.size+1,1,X⟩=G (J O 0):=fun o=>held m1 (bal _ _);have n2:∀ o,(wa.alloc o).cell? ⟨w.heap.size+1,2,X⟩=G (J O 0):=fun o=>held m2 (bal _ _);have n3:∀ o,(wa.alloc o).cell? ⟨w.heap.size+1,3,X⟩=G (J O 0):=fun o=>held m3 (bal _ _);have n4:∀ o,(wa.alloc o).cell? ⟨w.heap.size+1,4,X⟩=G (J O 0):=fun o=>held m4 (bal _ _);have f':∀ o i,(wa.alloc o).frozen? ⟨w.heap.size+1,i,X⟩=S:=fun o i=>(World.frozen?_of_block (a:=⟨w.heap.size+1,i,X⟩) (Below.heap_alloc _ _ _ (World.block_lt_of_cell? wa ⟨w.heap.size+1,0,X⟩ m0))).trans (f i);clear bi ci f m0 m1 m2 m3 m4;by_cases hlt:(p:Int)<32768
 ·go_wp2_with fail
  refine bodyPost_ret (v:=V #[P #[J O (k+r),J O (W:Int),J O (((W:Int)-7) / 6),J O ((W:Int) / 6),J O (p:Int)],J O 0]) (by simp [results,Tryz.results142,go_sem,n0,n1,n2,n3,n4]) rfl ⟨?_,?_⟩
  ·rw [HN.out,HD.out,HL.out,RH.out];rw [show min 32768 p=p by omega]
  ·have hB:=ap (ap b0 b1) ha;exact(((((hB.alloc hB.size _).setCell (I _) _).setCell (I _) _).setCell (I _) _).setCell (I _) _).setCell (I _) _
 ·go_wp2_with fail
  refine bodyPost_ret (v:=V #[P #[J O (k+r),J O (W:Int),J O (((W:Int)-7) / 6),J O ((W:Int) / 6),J O 32768],J O 0]) (by simp [results,Tryz.results142,go_sem,n0,n1,n2,n3,n4]) rfl ⟨?_,?_⟩
  ·rw [HN.out,HD.out,HL.out,RH.out];rw [show min 32768 p=32768 by omega];rfl
  ·have hB:=ap (ap b0 b1) ha;exact(((((hB.alloc hB.size _).setCell (I _) _).setCell (I _) _).setCell (I _) _).setCell (I _) _).setCell (I _) _
theorem oR(k r c q:Int)(w:U)(he:erP k r c q=2):
  L Z 142 #[Pz k r c q] w fun e w'=>e=Y (V #[P #[J O 0,J O 0,J O 0,J O 0,J O 0],J O 2])/\b7 w w':=by
 have HC:=fun w=>eQ k r c q w;rw [he] at HC;obtain⟨w0,bi⟩:=jM w k r c q
 have b0:=jt bi
 have z0:=ks bi
 obtain⟨w1,ci⟩:=fd (w0.alloc (D #[J O 0,J O 0,J O 0,J O 0,J O 0] 177))
 have b1:=jt ci
 go_enter Tryz.func142,Tryz.ntmps142
 go_wp2_with fail
 rw [<- bi,<- ci];refine(HC _).mono ?_;rintro e wa ⟨rfl,ha⟩;obtain⟨m0,m1,m2,m3,m4⟩:=cI ci ha;have f:=aI ci ha;rw [z0] at m0 m1 m2 m3 m4 f;clear bi ci;go_wp2_with fail
 refine bodyPost_ret (v:=V #[P #[J O 0,J O 0,J O 0,J O 0,J O 0],J O 2]) (by simp [results,Tryz.results142,go_sem,m0,m1,m2,m3,m4]) rfl ⟨rfl,?_⟩;have hB:=ap (ap b0 b1) ha;exact((((hB.setCell (I _) _).setCell (I _) _).setCell (I _) _).setCell (I _) _).setCell (I _) _
theorem df{k r c q:Int}{N W:Nat}{x:Int}(h:Par k r c q N W x)(w:U):
  L Z 142 #[Pz k r c q] w fun e w'=>e=Y (V #[P #[J O (N:Int),J O (W:Int),J O ((dir W:Nat):Int),J O ((lea W:Nat):Int),J O ((mst W:Nat):Int)],J O x])/\b7 w w':=by
 have hw:=h.wide;rcases h with ⟨h0,h1,h2,rfl⟩ | ⟨h0,rfl,rfl,rfl⟩
 ·obtain⟨p1,p2,p3,p4,p5,p6,p7,p8,p9⟩:=aB h0;exact mP k r c q w W N (by rw [h1];exact eS p1 p2 p5 p6) za hw (by unfold erP;rw [zk h0]) h2 za
 ·exact oR k r c q w (by unfold erP;rw [zl (by rw [h0];decide)])
theorem cW{k r c q:Int}{N W:Nat}{x:Int}(h:Par k r c q N W x)(w:U):
  L Z 146 #[Pz k r c q] w fun e w'=>e=Y (V #[J O (N:Int),J O x])/\b7 w w':=by
 have HC:=fun w=>df h w;clear h;generalize dir W=d at *
 generalize lea W=l at *
 generalize mst W=m at *
 obtain⟨w0,bi⟩:=jM w k r c q
 have b0:=jt bi
 go_enter Tryz.func146,Tryz.ntmps146
 go_wp2_with fail
 rw [<- bi];refine(HC _).mono ?_;rintro e wa ⟨rfl,ha⟩;go_wp2_with fail
 go_ret2;exact⟨rfl,have hB:=ap b0 ha;hB.alloc hB.size _⟩
theorem fT{k r c q:Int}{N W:Nat}{x:Int}(h:Par k r c q N W x)(w:U):
  L Z 79 #[Pz k r c q] w fun e w'=>e=Y (V #[J O (W:Int),J O x])/\b7 w w':=by
 have HC:=fun w=>df h w;clear h;generalize dir W=d at *
 generalize lea W=l at *
 generalize mst W=m at *
 obtain⟨w0,bi⟩:=jM w k r c q
 have b0:=jt bi
 go_enter Tryz.func79,Tryz.ntmps79
 go_wp2_with fail
 rw [<- bi];refine(HC _).mono ?_;rintro e wa ⟨rfl,ha⟩;go_wp2_with fail
 go_ret2;exact⟨rfl,have hB:=ap b0 ha;hB.alloc hB.size _⟩
end Go.Proofs.YtemlojjkokooeaaGreat
namespace Go.Proofs.YtemlojjkokooeaaGreat.De
open Go.RowKit
theorem An(a b:Nat)(hb:1<=b):((a:Int)+(b:Int)-1) / (b:Int)=((up a b:Nat):Int):=by
 rw [show ((a:Int)+(b:Int)-1)=((a+b-1:Nat):Int) by omega];rfl
theorem gu(a b:Nat)(w:U)(ha:a<=100000)(hb:1<=b)(j8:b<=100000):
  L Z 261 #[J O (a:Int),J O (b:Int)] w fun e w'=>e=Y (J O ((up a b:Nat):Int))/\w'=w:=by
 have HU:=am (An a b hb);go_enter Tryz.func261,Tryz.ntmps261
 go_wp2;go_ret;exact⟨aN HU.out,rfl⟩
theorem sP(a b:Nat)(w:U)(ha:a<=100000)(hb:1<=b)(j8:b<=100000):
  L Z 264 #[J O (a:Int),J O (b:Int)] w fun e w'=>e=Y (J O ((up a b:Nat):Int))/\w'=w:=by
 have HU:=am (An a b hb);go_enter Tryz.func264,Tryz.ntmps264
 go_wp2;go_ret;exact⟨aN HU.out,rfl⟩
def Made (k r c q len:Int) (W s d x n:Nat) (e:Int):Prop :=
  (may k r c q=C/\0<=len/\len<=(mst W:Int)/\s=up len.toNat W/\x=lvs W s/\d=min x 1/\n=1+x+s/\e=0) \/
  ((may k r c q=S\/len<0)/\s=0/\d=0/\x=0/\n=0/\e=2) \/
  (may k r c q=C/\0<=len/\(mst W:Int)<len/\s=0/\d=0/\x=0/\n=0/\e=3)
theorem cN(k r c q len:Int)(W:Nat):∃ s d x n e,Made k r c q len W s d x n e:=by
 cases h:may k r c q
 ·exact⟨0,0,0,0,2,.inr (.inl ⟨.inl h,rfl,rfl,rfl,rfl,rfl⟩)⟩
 ·by_cases h1:len<0
  ·exact⟨0,0,0,0,2,.inr (.inl ⟨.inr h1,rfl,rfl,rfl,rfl,rfl⟩)⟩
  ·by_cases h2:(mst W:Int)<len
   ·exact⟨0,0,0,0,3,.inr (.inr ⟨h,za,h2,rfl,rfl,rfl,rfl,rfl⟩)⟩
   ·exact⟨_,_,_,_,0,.inl ⟨h,za,za,rfl,rfl,rfl,rfl,rfl⟩⟩
theorem wY{w w0 w1:U}{x0 x1 x2 x3:T}{t:TypeId}(h0:w0=w.alloc (D #[x0,x1,x2,x3] t))(hb:b7 w0 w1):∀ i o,(w1.alloc o).frozen? ⟨w.heap.size,i,X⟩=S:=fun i o=>aI h0 (hb.trans ((bal w1 o).mono hb.size)) i
theorem mi{k r c q:Int}{N W:Nat}{y:Int}(h:Par k r c q N W y)(len:Int)(w:U)(e:Int)(he:(y=2/\e=2)\/(y=0/\len<0/\e=2)\/(y=0/\0<=len/\(mst W:Int)<len/\e=3)):
  L Z 184 #[Pz k r c q,J O len] w fun e' w'=>e'=Y (V #[P #[J O 0,J O 0,J O 0,J O 0],J O e])/\b7 w w':=by
 have HC:=fun w=>df h w;clear h;generalize dir W=d at *
 generalize lea W=l at *
 generalize mst W=m at *
 obtain⟨w0,bi⟩:=jM w k r c q
 have b0:=jt bi
 have z0:=ks bi
 obtain⟨w1,ci⟩:=fd (w0.alloc (D #[J O 0,J O 0,J O 0,J O 0] 231))
 have b1:=jt ci
 rcases he with ⟨rfl,rfl⟩ | ⟨rfl,h1,rfl⟩ | ⟨rfl,h1,h2,rfl⟩
 all_goals (
  go_enter Tryz.func184,Tryz.ntmps184
  go_wp2_with fail
  rw [<- bi,<- ci];refine(HC _).mono ?_;rintro e wa ⟨rfl,ha⟩;have m0:∀ o,(wa.alloc o).cell? ⟨w0.heap.size,0,X⟩=G (J O 0):=fun o=>held (ak ci ha).1 (bal wa o);have m1:∀ o,(wa.alloc o).cell? ⟨w0.heap.size,1,X⟩=G (J O 0):=fun o=>held (ak ci ha).2.1 (bal wa o);have m2:∀ o,(wa.alloc o).cell? ⟨w0.heap.size,2,X⟩=G (J O 0):=fun o=>held (ak ci ha).2.2.1 (bal wa o);have m3:∀ o,(wa.alloc o).cell? ⟨w0.heap.size,3,X⟩=G (J O 0):=fun o=>held (ak ci ha).2.2.2 (bal wa o);have f:=wY ci ha;rw [z0] at m0 m1 m2 m3 f;clear bi ci;go_wp2_with fail
  refine bodyPost_ret (v:=V #[P #[J O 0,J O 0,J O 0,J O 0],J O _]) (by simp [results,Tryz.results184,go_sem,m0,m1,m2,m3]) rfl ⟨rfl,?_⟩;have hB:=ap (ap b0 b1) ha;exact((((hB.alloc hB.size _).setCell (I _) _).setCell (I _) _).setCell (I _) _).setCell (I _) _)
theorem rJ{k r c q:Int}{N W:Nat}(h:Par k r c q N W 0)(len:Nat)(w:World)(yx:len<=mst W)(s x:Nat)(hs:s=up len W)(hx:x=lvs W s)(d:Nat)(hd:d=min x 1)(n:Nat)(hn:n=1+x+s)(hW:32<=W):
  Calls Tryz.prog 184 #[.agg #[.int .i64 k,.int .i64 r,.int .i64 c,.int .i64 q],.int .i64 (len:Int)] w fun e' w'=>e'=.returned (.tuple #[.agg #[.int .i64 (s:Int),.int .i64 (d:Int),.int .i64 (x:Int),.int .i64 (n:Int)],.int .i64 0])/\Below w.heap.size w w':=by
 have HC:=fun w=>df h w;have yY:=h.wide;have hm:=cq W;have xW:s<=32768:=by have:=dT len W za;omega
 have nl:x<=s:=by rw [hx];exact mz hW
 have HR:=fun w=>gu len W w za za za;rw [<- hs] at HR;have UY:=iA hW;have FK:=nw yY;have HL:=fun w=>gu s (lea W) w za za za;have HX:Hid (x=if s<=dir W then 0 else up s (lea W)):=hx;clear h hx hs;generalize dir W=dr at *
 obtain⟨ux,NO⟩:∃ u,u=up s (lea W):=⟨_,rfl⟩
 have UZ:ux<=s:=by rw [NO];exact dT _ _ za
 have Ln:0<s->0<ux:=fun h=>by rw [NO];exact Al h za
 rw [<- NO] at HL HX;clear NO;generalize lea W=l at *
 generalize mst W=m at *
 have HD:Hid (d=min x 1):=hd;have HN:Hid (n=1+x+s):=hn;clear hd hn;obtain⟨w0,bi⟩:∃ w0,w0=w.alloc (.cells #[.int .i64 k,.int .i64 r,.int .i64 c,.int .i64 q] 23):=⟨_,rfl⟩
 have b0:Below w.heap.size w w0:=by rw [bi];exact bal _ _
 have z0:w0.heap.size=w.heap.size+1:=by rw [bi];simp
 obtain⟨w1,ci⟩:∃ w1,w1=w0.alloc (.cells #[.int .i64 0,.int .i64 0,.int .i64 0,.int .i64 0] 231):=⟨_,rfl⟩
 have b1:Below w0.heap.size w0 w1:=by rw [ci];exact bal _ _
 go_enter Tryz.func184,Tryz.ntmps184
 go_wp2_with fail
 rw [<- bi,<- ci];refine(HC _).mono ?_;rintro e wa ⟨rfl,ha⟩;obtain⟨wb,jD⟩:∃ wb,wb=wa.alloc (.cells #[.int .i64 (N:Int),.int .i64 (W:Int),.int .i64 (dr:Int),.int .i64 (l:Int),.int .i64 (m:Int)] 177):=⟨_,rfl⟩
 have b2:Below wa.heap.size wa wb:=by rw [jD];exact bal _ _
 have z2:wb.heap.size=wa.heap.size+1:=by rw [jD];simp
 have m0:∀ o,(wb.alloc o).cell? ⟨w0.heap.size,0,none⟩=some (.int .i64 0):=fun o=>(ak ci (ap (ap ha b2) (bal wb o))).1;have m1:∀ o,(wb.alloc o).cell? ⟨w0.heap.size,1,none⟩=some (.int .i64 0):=fun o=>(ak ci (ap (ap ha b2) (bal wb o))).2.1;have m2:∀ o,(wb.alloc o).cell? ⟨w0.heap.size,2,none⟩=some (.int .i64 0):=fun o=>(ak ci (ap (ap ha b2) (bal wb o))).2.2.1;have m3:∀ o,(wb.alloc o).cell? ⟨w0.heap.size,3,none⟩=some (.int .i64 0):=fun o=>(ak ci (ap (ap ha b2) (bal wb o))).2.2.2;have f:∀ o i,(wb.alloc o).frozen? ⟨w0.heap.size,i,none⟩=false:=fun o i=>aI ci (ap (ap ha b2) (bal wb o)) i;rw [z0] at m0 m1 m2 m3 f;have p1:∀ o,(wb.alloc o).cell? ⟨wa.heap.size,1,none⟩=some (.int .i64 (W:Int)):=fun o=>(cI jD (bal wb o)).2.1;have p2:∀ o,(wb.alloc o).cell? ⟨wa.heap.size,2,none⟩=some (.int .i64 (dr:Int)):=fun o=>(cI jD (bal wb o)).2.2.1;have p3:∀ o,(wb.alloc o).cell? ⟨wa.heap.size,3,none⟩=some (.int .i64 (l:Int)):=fun o=>(cI jD (bal wb o)).2.2.2.1;have hB:=ap (ap (ap b0 b1) ha) b2;clear bi ci ha b0 b1 b2;by_cases hlt:s<=dr
 ·have HE:Hid (x=0/\d=0/\n=1+s):=by
   have e1:=HX.out;rw [zk hlt] at e1;exact⟨e1,by rw [HD.out,e1];rfl,by rw [HN.out,e1]⟩
  go_wp2_with fail
  rw [<- jD];clear jD;refine(HR _).mono ?_;rintro e w' ⟨rfl,g8⟩;obtain rfl:=g8.symm;go_wp2_with fail
  refine bodyPost_ret (v:=.tuple #[.agg #[.int .i64 (s:Int),.int .i64 0,.int .i64 0,.int .i64 (1+(s:Int))],.int .i64 0]) (by simp [results,Tryz.results184,go_sem,m0,m1,m2,m3]) rfl ⟨?_,?_⟩
  ·rw [HE.out.1,HE.out.2.1,HE.out.2.2];rfl
  ·exact((((hB.alloc hB.size _).setCell (Nat.le_succ _) _).setCell (Nat.le_succ _) _).setCell (Nat.le_succ _) _).setCell (Nat.le_succ _) _
 ·have HE:Hid (x=ux/\d=1/\n=1+ux+s):=by
   have e1:=HX.out;rw [zl hlt] at e1;have e2:=Ln za;exact⟨e1,by rw [HD.out,e1];omega,by rw [HN.out,e1]⟩
  clear Ln;go_wp2_with fail
  rw [<- jD];clear jD;refine(HR _).mono ?_;rintro e w' ⟨rfl,g8⟩;obtain rfl:=g8.symm;go_wp2_with fail
  refine(HL _).mono ?_;rintro e w' ⟨rfl,g8⟩;obtain rfl:=g8.symm;go_wp2_with fail
  refine bodyPost_ret (v:=.tuple #[.agg #[.int .i64 (s:Int),.int .i64 1,.int .i64 (ux:Int),.int .i64 (1+(ux:Int)+(s:Int))],.int .i64 0]) (by simp [results,Tryz.results184,go_sem,m0,m1,m2,m3]) rfl ⟨?_,?_⟩
  ·rw [HE.out.1,HE.out.2.1,HE.out.2.2];rfl
  ·exact((((hB.alloc hB.size _).setCell (Nat.le_succ _) _).setCell (Nat.le_succ _) _).setCell (Nat.le_succ _) _).setCell (Nat.le_succ _) _
theorem fV{k r c q:Int}{N W:Nat}{y:Int}(h:Par k r c q N W y){len:Int}{s d x n:Nat}{e:Int}(h':Made k r c q len W s d x n e)(w:U):
  L Z 184 #[Pz k r c q,J O len] w fun e' w'=>e'=Y (V #[P #[J O (s:Int),J O (d:Int),J O (x:Int),J O (n:Int)],J O e])/\b7 w w':=by
 have hp:=h;rcases h' with ⟨h1,h2,h3,h4,h5,h6,h7,rfl⟩ | ⟨h1,rfl,rfl,rfl,rfl,rfl⟩ | ⟨h1,h2,h3,rfl,rfl,rfl,rfl,rfl⟩
 ·rcases h with ⟨p0,p1,p2,rfl⟩ | ⟨p0,_⟩
  ·obtain⟨l,rfl⟩:=Int.eq_ofNat_of_zero_le h2;rw [Int.toNat_natCast] at h4;have:=aB p0;exact rJ hp l w za s x h4 h5 d h6 n h7 za
  ·rw [p0] at h1;cases h1
 ·refine mi hp len w 2 ?_;rcases h with ⟨p0,p1,p2,rfl⟩ | ⟨p0,p1,p2,rfl⟩
  ·rcases h1 with h1 | h1
   ·rw [p0] at h1;cases h1
   ·exact .inr (.inl ⟨rfl,h1,rfl⟩)
  ·exact .inl ⟨rfl,rfl⟩
 ·rcases h with ⟨p0,p1,p2,rfl⟩ | ⟨p0,_⟩
  ·exact mi hp len w 3 (.inr (.inr ⟨rfl,h2,h3,rfl⟩))
  ·rw [p0] at h1;cases h1
theorem nB{k r c q:Int}{N W:Nat}{y:Int}(h:Par k r c q N W y){len:Int}{s d x n:Nat}{e:Int}(h':Made k r c q len W s d x n e)(w:U):
  L Z 116 #[Pz k r c q,J O len] w fun e' w'=>e'=Y (V #[J O (s:Int),J O e])/\b7 w w':=by
 have HC:=fun w=>fV h h' w;clear h h';obtain⟨w0,bi⟩:=jM w k r c q
 have b0:=jt bi
 go_enter Tryz.func116,Tryz.ntmps116
 go_wp2_with fail
 rw [<- bi];refine(HC _).mono ?_;rintro e wa ⟨rfl,ha⟩;go_wp2_with fail
 go_ret2;exact⟨rfl,have hB:=ap b0 ha;hB.alloc hB.size _⟩
theorem uS{k r c q:Int}{N W:Nat}{y:Int}(h:Par k r c q N W y){len:Int}{s d x n:Nat}{e:Int}(h':Made k r c q len W s d x n e)(w:U):
  L Z 305 #[Pz k r c q,J O len] w fun e' w'=>e'=Y (V #[J O (d:Int),J O e])/\b7 w w':=by
 have HC:=fun w=>fV h h' w;clear h h';obtain⟨w0,bi⟩:=jM w k r c q
 have b0:=jt bi
 go_enter Tryz.func305,Tryz.ntmps305
 go_wp2_with fail
 rw [<- bi];refine(HC _).mono ?_;rintro e wa ⟨rfl,ha⟩;go_wp2_with fail
 go_ret2;exact⟨rfl,have hB:=ap b0 ha;hB.alloc hB.size _⟩
theorem rN{k r c q:Int}{N W:Nat}{y:Int}(h:Par k r c q N W y){len:Int}{s d x n:Nat}{e:Int}(h':Made k r c q len W s d x n e)(w:U):
  L Z 306 #[Pz k r c q,J O len] w fun e' w'=>e'=Y (V #[J O (x:Int),J O e])/\b7 w w':=by
 have HC:=fun w=>fV h h' w;clear h h';obtain⟨w0,bi⟩:=jM w k r c q
 have b0:=jt bi
 go_enter Tryz.func306,Tryz.ntmps306
 go_wp2_with fail
 rw [<- bi];refine(HC _).mono ?_;rintro e wa ⟨rfl,ha⟩;go_wp2_with fail
 go_ret2;exact⟨rfl,have hB:=ap b0 ha;hB.alloc hB.size _⟩
end Go.Proofs.YtemlojjkokooeaaGreat.De
