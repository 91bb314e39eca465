import Derived.Maps.AppendAt
import Derived.Test.YtemlojjkokooeaaGreatTm36
open Go renaming Addr->J,World->I
open Option renaming some->O,none->Y
open Go.Value renaming slice->Q,int->V
open Go.Proofs.Tryz renaming prog->Z
open Go.IntKind renaming i64->P
open Bool renaming false->L
set_option maxHeartbeats 16000000
set_option maxRecDepth 100000
namespace Go.Proofs.YtemlojjkokooeaaGreat
open Go.RowKit Go.Maps
theorem fH(Lc os:Nat->Nat)(nu:Int)(n:Nat)(T:Nat->Option J)(U:Nat->Nat):∀ d t,t<Cod.cnt Lc d ->
  (ptl Lc os nu n T U d)[t*4]? = O (V P ((Cod.sel Lc d t:Nat):Int))/\(ptl Lc os nu n T U d)[t*4+1]? = O (V P nu)/\(ptl Lc os nu n T U d)[t*4+2]? = O (V P ((os (Cod.sel Lc d t):Nat):Int))/\(ptl Lc os nu n T U d)[t*4+3]? = O (Q (T (Cod.sel Lc d t)) n (U (Cod.sel Lc d t)))
 | 0,t,h=>absurd h (Nat.not_lt_zero t)
 | d+1,t,h=>by
  by_cases hz:Lc d=0
  ·rw [Cod.cnt_skip hz] at h;rw [ptl,zk hz,Cod.sel_skip hz];exact fH Lc os nu n T U d t h
  ·rw [Cod.cnt_take hz] at h;rw [ptl,zl hz];have hl:=mI Lc os nu n T U d;by_cases e:t=Cod.cnt Lc d
   ·have e1:Cod.sel Lc (d+1) t=d:=by rw [Cod.sel_take hz,e,Cod.put_at]
    rw [e1,List.getElem?_append_right za,List.getElem?_append_right za,List.getElem?_append_right za,List.getElem?_append_right za];rw [show t*4-(ptl Lc os nu n T U d).length=0 by omega,show t*4+1-(ptl Lc os nu n T U d).length=1 by omega,show t*4+2-(ptl Lc os nu n T U d).length=2 by omega,show t*4+3-(ptl Lc os nu n T U d).length=3 by omega];exact⟨rfl,rfl,rfl,rfl⟩
   ·have e1:Cod.sel Lc (d+1) t=Cod.sel Lc d t:=by rw [Cod.sel_take hz,Cod.put_ne _ _ e]
    rw [e1,List.getElem?_append_left za,List.getElem?_append_left za,List.getElem?_append_left za,List.getElem?_append_left za];exact fH Lc os nu n T U d t za
structure Rpu (w:World) (ao:Option Addr) (m:Nat) (D S:Nat->Int) (nu:Int) (n:Nat) (T:Nat->Option Addr) (U:Nat->Nat) (G:Nat->Nat->UInt8):Prop where
  at_:0<m->∃ b off,ao=some ⟨b,off,none⟩/\∀ j,j<m->w.cell? ⟨b,off+j*4,none⟩=some (.int .i64 (D j))/\w.cell? ⟨b,off+j*4+1,none⟩=some (.int .i64 nu)/\w.cell? ⟨b,off+j*4+2,none⟩=some (.int .i64 (S j))/\w.cell? ⟨b,off+j*4+3,none⟩=some (.slice (T j) n (U j))
  bec:∀ j,j<m->Bec w (T j) n (U j) (G j)
theorem Rpu.below{w w':I}{ao:Option J}{m:Nat}{D S:Nat->Int}{nu:Int}{n:Nat}{T:Nat->Option J}{U:Nat->Nat}{G:Nat->Nat->UInt8}(h:Rpu w ao m D S nu n T U G)(hb:b7 w w'):Rpu w' ao m D S nu n T U G:=by
 refine⟨fun hp=>?_,fun j hj=>(h.bec j hj).below hb⟩;obtain⟨b,off,rfl,hc⟩:=h.at_ hp;exact⟨b,off,rfl,fun j hj=>⟨held (hc j hj).1 hb,held (hc j hj).2.1 hb,held (hc j hj).2.2.1 hb,held (hc j hj).2.2.2 hb⟩⟩
theorem DF{B:Nat}{w:I}{ao:Option J}{b8 N:Nat}{Lc os:Nat->Nat}{nu:Int}{n:Nat}{T:Nat->Option J}{U:Nat->Nat}{G:Nat->Nat->UInt8}(h:PL B w ao (Cod.cnt Lc N) b8 N Lc os nu n T U G):Rpu w ao (Cod.cnt Lc N) (fun j=>((Cod.sel Lc N j:Nat):Int)) (fun j=>((os (Cod.sel Lc N j):Nat):Int)) nu n (fun j=>T (Cod.sel Lc N j)) (fun j=>U (Cod.sel Lc N j)) (fun j=>G (Cod.sel Lc N j)):=by
 have hs:=Cod.sel_is Lc N;refine⟨fun hp=>?_,fun j hj=>(h.row _ (hs.lt j hj) (hs.there j hj)).bec⟩;rcases h.out.2 with ⟨_,h1⟩ | ⟨g,jy,jw,h1,_⟩
 ·omega
 ·cases h1
  refine⟨g,0,rfl,fun j hj=>?_⟩;obtain⟨p0,p1,p2,p3⟩:=fH Lc os nu n T U N j hj;have q0:=h.out.cells (g:=g) rfl _ _ p0;have q1:=h.out.cells (g:=g) rfl _ _ p1;have q2:=h.out.cells (g:=g) rfl _ _ p2;have q3:=h.out.cells (g:=g) rfl _ _ p3;rw [Addr.add_lit] at q0 q1 q2 q3;exact⟨q0,q1,q2,q3⟩
theorem mw(w:I)(ao bo:Option J)(m ca cb:Nat)(D S:Nat->Int)(nu:Int)(n:Nat)(T T':Nat->Option J)(U U':Nat->Nat)(G:Nat->Nat->UInt8)(ha:Rpu w ao m D S nu n T U G)(hb:Rpu w bo m D S nu n T' U' G)(hn:m<=1000):
  Calls Z 26 #[Q ao m ca,Q bo m cb] w fun e w'=>e=.returned (.bool true)/\b7 w w':=by
 have HA:=am ha;have HB:=am hb;clear ha hb;have Ha:((m:Int) != (m:Int))=L:=zi;have YF:(nu != nu)=L:=zi;go_enter Tryz.func26,Tryz.ntmps26
 go_wp2;go_loopw [5] (fun x wr=>∃ i:Nat,i<=m/\x=V P i/\Hid (b7 w wr)) (fun x _=>m-(intOf x).toNat)
 case atStart=>exact⟨0,Nat.zero_le _,rfl,Below.refl _ _⟩
 case round =>
  obtain⟨i,hi,rfl,jB⟩:=hrel;by_cases hlt:i<m
  ·obtain⟨b,off,rfl,hc⟩:=(HA.out.below jB.out).at_ za;obtain⟨b',qg,rfl,hc'⟩:=(HB.out.below jB.out).at_ za;obtain⟨c0,c1,c2,c3⟩:=hc i hlt;obtain⟨d0,d1,d2,d3⟩:=hc' i hlt;have v1:∀ z,(convert 36 9 (Q (T i) n (U i))).run Z (wr.drewN z)=.ok (.string (sOf (lsF n (G i)))) (wr.drewN z):=fun z=>bm (((HA.out.below jB.out).bec i hlt).below (below_drewN _ _ _));have v2:∀ z,(convert 36 9 (Q (T' i) n (U' i))).run Z (wr.drewN z)=.ok (.string (sOf (lsF n (G i)))) (wr.drewN z):=fun z=>bm (((HB.out.below jB.out).bec i hlt).below (below_drewN _ _ _));have e1:=na (lsF n (G i));have e2:(D i != D i)=L:=zi
   have e3:(S i != S i)=L:=zi;clear hc hc';have i1:(0:Int)<=(i:Int):=za;have i2:(i:Int)<(m:Int):=za;go_wp2;go_quiet (fail)
   go_wp2;go_roundw
   case rel=>exact⟨i+1,za,by go_num,jB.out.trans (below_drewN _ _ _)⟩
   case measure=>simp [intOf];omega
  ·go_wp2;go_ret;exact⟨rfl,jB.out⟩
theorem oX{w:I}{B B' n m:Nat}{u v:Value}{xs ys:List Value}(h:w.ownsRow B 56 4 u n xs)(g:w.ownsRow B' 5 1 v m ys):v.ownBlock=Y\/v.ownBlock ≠ u.ownBlock:=by
 rcases g.2 with ⟨e,_⟩ | ⟨g1,c1,k1,e,_,h1,_⟩
 ·left;rw [e];rfl
 ·right
  rcases h.2 with ⟨e2,_⟩ | ⟨g2,c2,k2,e2,_,h2,_⟩
  ·rw [e,e2];simp [Value.ownBlock]
  ·rw [e,e2];simp only [Value.ownBlock,ne_eq,Option.some.injEq];intro e3;rw [e3] at h1;rw [h1] at h2;simp only [Option.some.injEq,Obj.cells.injEq] at h2;exact absurd h2.2.1 zb
open Go.ChangeShapes
theorem Av{E:Int}{m:Nat}(h:0<aK E m):E=0/\aK E m=m:=by
 unfold aK at h ⊢;by_cases e:E=0
 ·rw [zk e];exact⟨e,rfl⟩
 ·rw [zl e] at h;omega
theorem Ay(w:I)(ao:Option J)(D S:Nat->Int)(nu:Int)(n:Nat)(T:Nat->Option J)(U:Nat->Nat)(G:Nat->Nat->UInt8):Rpu w ao 0 D S nu n T U G:=⟨fun h=>absurd h za,fun j h=>absurd h za⟩
def Rpx (w:I) (ao:Option J) (E:Int) (N:Nat) (Lc os:Nat->Nat) (nu:Int) (n:Nat) (G:Nat->Nat->UInt8):Prop:=∃ T U,Rpu w ao (aK E (Cod.cnt Lc N)) (fun j=>((Cod.sel Lc N j:Nat):Int)) (fun j=>((os (Cod.sel Lc N j):Nat):Int)) nu n T U (fun j=>G (Cod.sel Lc N j))
theorem Rpx.below{w w':I}{ao:Option J}{E:Int}{N:Nat}{Lc os:Nat->Nat}{nu:Int}{n:Nat}{G:Nat->Nat->UInt8}(h:Rpx w ao E N Lc os nu n G)(hb:b7 w w'):Rpx w' ao E N Lc os nu n G:=by
 obtain⟨T,U,h1⟩:=h;exact⟨T,U,h1.below hb⟩
theorem mJ{B:Nat}{w:I}{ao:Option J}{b8 N:Nat}{E:Int}{Lc os:Nat->Nat}{nu:Int}{n:Nat}{T:Nat->Option J}{U:Nat->Nat}{G:Nat->Nat->UInt8}(h:E=0->PL B w ao (Cod.cnt Lc N) b8 N Lc os nu n T U G):Rpx w ao E N Lc os nu n G:=by
 by_cases e:E=0
 ·have:=DF (h e);refine⟨fun j=>T (Cod.sel Lc N j),fun j=>U (Cod.sel Lc N j),?_⟩;unfold aK;rw [zk e];exact this
 ·refine⟨T,U,?_⟩;unfold aK;rw [zl e];exact Ay _ _ _ _ _ _ _ _ _
theorem lQ(w:I)(ao bo:Option J)(ca cb:Nat)(E:Int)(N:Nat)(Lc os:Nat->Nat)(nu:Int)(n:Nat)(G:Nat->Nat->UInt8)(ha:Rpx w ao E N Lc os nu n G)(hb:Rpx w bo E N Lc os nu n G)(hm:aK E (Cod.cnt Lc N)<=1000):
  Calls Z 26 #[Q ao (aK E (Cod.cnt Lc N)) ca,Q bo (aK E (Cod.cnt Lc N)) cb] w fun e w'=>e=.returned (.bool true)/\b7 w w':=by
 obtain⟨T,U,h1⟩:=ha;obtain⟨T',U',h2⟩:=hb;exact mw w ao bo _ ca cb _ _ nu n T T' U U' _ h1 h2 hm
structure Spl (B T m n:Nat) (w wr:World) (g b8:Nat) (A:Nat->Option Addr) (U:Nat->Nat):Prop where
  row:∃ vs,wr.ownsRow B 56 4 (.slice (some ⟨g,0,none⟩) m b8) m vs/\∀ j,j<m->vs[j*4+3]? = some (.slice (A j) n (U j))
  cel:∀ j,j<m->(∃ ys,wr.ownsRow B 5 1 (.slice (A j) n (U j)) n ys)/\∀ b,(Value.slice (A j) n (U j)).ownBlock=some b->b<T
  onl:Only (fun b=>B<=b/\b<T) w wr
theorem DX{B:Nat}{w1 w:I}{ao:Option J}{b8 N:Nat}{E:Int}{Lc os:Nat->Nat}{nu:Int}{n:Nat}{T:Nat->Option J}{U:Nat->Nat}{G:Nat->Nat->UInt8}(h:E=0->PL B w1 ao (Cod.cnt Lc N) b8 N Lc os nu n T U G)(hb:b7 w1 w):∃ A U,0<aK E (Cod.cnt Lc N)->∃ g,ao=O ⟨g,0,Y⟩/\Spl B w1.heap.size (aK E (Cod.cnt Lc N)) n w w g b8 A U:=by
 refine⟨fun j=>T (Cod.sel Lc N j),fun j=>U (Cod.sel Lc N j),fun hp=>?_⟩;obtain⟨e,e2⟩:=Av hp;rw [e2] at hp ⊢;have h0:=h e;have hs:=Cod.sel_is Lc N;rcases h0.out.2 with ⟨_,h1⟩ | ⟨g,jy,jw,h1,_⟩
 ·omega
 ·cases h1
  have h2:=h0.below hb;exact⟨g,rfl,⟨⟨_,h2.out,fun j hj=>(fH Lc os nu n T U N j hj).2.2.2⟩,fun j hj=>⟨⟨_,h2.row _ (hs.lt j hj) (hs.there j hj)⟩,fun b hb=>((h0.row _ (hs.lt j hj) (hs.there j hj)).lt b hb).2⟩,Only.refl _ _⟩⟩
theorem Spl.c1{B T m n:Nat}{w wr:I}{g b8:Nat}{A:Nat->Option J}{U:Nat->Nat}(h:Spl B T m n w wr g b8 A U){i:Nat}(hi:i<m):wr.cell? ⟨g,i*4+3,Y⟩=O (Q (A i) n (U i)):=by
 obtain⟨vs,r1,r2⟩:=h.row;rw [World.ownsRow.cellAt r1 (i*4+3) za,r2 i hi]
theorem Spl.inner{B T m n:Nat}{w wr:I}{g b8:Nat}{A:Nat->Option J}{U:Nat->Nat}(h:Spl B T m n w wr g b8 A U){i:Nat}(hi:i<m)(hm:0<n):∃ gi,A i=O ⟨gi,0,Y⟩:=by
 obtain⟨⟨ys,q1⟩,_⟩:=h.cel i hi;rcases q1.2 with ⟨_,h2⟩ | ⟨g1,c1,k1,e,_⟩
 ·omega
 ·simp only [Value.slice.injEq] at e;exact⟨g1,e.1⟩
theorem Spl.rd{B T m n:Nat}{w wr:I}{g b8:Nat}{A:Nat->Option J}{U:Nat->Nat}(h:Spl B T m n w wr g b8 A U){i:Nat}(hi:i<m){gi u:Nat}(hg:A i=O ⟨gi,0,Y⟩)(hu:u<n):(∃ x,wr.cell? ⟨gi,u,Y⟩=O x)/\wr.frozen? ⟨gi,u,Y⟩=L:=by
 obtain⟨⟨ys,q1⟩,_⟩:=h.cel i hi;rw [hg] at q1;have hl:=q1.1;refine⟨⟨ys[u]'za,?_⟩,World.ownsRow.frozenAt q1 u⟩;rw [World.ownsRow.cellAt q1 u za,List.getElem?_eq_getElem za]
theorem Spl.put{B T m n:Nat}{w wr:I}{g b8:Nat}{A:Nat->Option J}{U:Nat->Nat}(h:Spl B T m n w wr g b8 A U){i:Nat}(hi:i<m){gi u:Nat}(hg:A i=O ⟨gi,0,Y⟩)(v:Value):Spl B T m n w (wr.setCell ⟨gi,u,Y⟩ v) g b8 A U:=by
 obtain⟨vs,r1,r2⟩:=h.row;obtain⟨⟨ys,q1⟩,q2⟩:=h.cel i hi;have yU:(Value.slice (A i) n (U i)).ownBlock=O gi:=by rw [hg];rfl
 have q3:=q1;rw [hg] at q3;obtain⟨s1,s2⟩:=World.ownsRow.stored q3 u v;have hlt:=q1.lt gi yU;refine⟨⟨vs,r1.kept s2 ?_,r2⟩,fun j hj=>?_,h.onl.setCell ⟨hlt.1,q2 gi yU⟩ _⟩
 ·right
  rcases oX r1 q1 with e | e
  ·rw [yU] at e;cases e
  ·rw [yU] at e;exact fun e2=>e e2.symm
 ·obtain⟨⟨Xh,p1⟩,p2⟩:=h.cel j hj;by_cases e:(Value.slice (A j) n (U j)).ownBlock=O gi
  ·rcases p1.2 with ⟨e1,_⟩ | ⟨g1,c1,k1,e1,_⟩
   ·rw [e1] at e;cases e
   ·rw [e1] at e;have e3:g1=gi:=by simpa [Value.ownBlock] using e
    subst e3;have e4:A j=O ⟨g1,0,Y⟩:=by simp only [Value.slice.injEq] at e1;exact e1.1
    rw [e4] at p1 p2 ⊢;exact⟨⟨_,(World.ownsRow.stored p1 u v).1⟩,p2⟩
  ·exact⟨⟨Xh,p1.kept s2 (.inr e)⟩,p2⟩
end Go.Proofs.YtemlojjkokooeaaGreat
