import Derived.Maps.AppendAt
import Derived.ScopeJumps
import Derived.Test.YtemlojjkokooeaaGreatTj38
set_option maxHeartbeats 4000000
set_option maxRecDepth 100000
namespace Go.Proofs.YtemlojjkokooeaaGreat
open Go.RowKit Go.Maps
theorem ptl_full(Lc os:Nat->Nat)(nu:Int)(n:Nat)(T:Nat->Option Addr)(U:Nat->Nat):∀ d t,t<Cod.cnt Lc d ->
  (ptl Lc os nu n T U d)[t*4]? = some (.int .i64 ((Cod.sel Lc d t:Nat):Int))/\(ptl Lc os nu n T U d)[t*4+1]? = some (.int .i64 nu)/\(ptl Lc os nu n T U d)[t*4+2]? = some (.int .i64 ((os (Cod.sel Lc d t):Nat):Int))/\(ptl Lc os nu n T U d)[t*4+3]? = some (.slice (T (Cod.sel Lc d t)) n (U (Cod.sel Lc d t)))
 | 0,t,h=>absurd h (Nat.not_lt_zero t)
 | d+1,t,h=>by
  by_cases hz:Lc d=0
  ·rw [Cod.cnt_skip hz] at h;rw [ptl,if_pos hz,Cod.sel_skip hz]; exact ptl_full Lc os nu n T U d t h
  ·rw [Cod.cnt_take hz] at h;rw [ptl,if_neg hz];have hl:=ptl_len Lc os nu n T U d;by_cases e:t=Cod.cnt Lc d
   ·have e1:Cod.sel Lc (d+1) t=d:=by rw [Cod.sel_take hz,e,Cod.put_at]
    rw [e1,List.getElem?_append_right (by omega),List.getElem?_append_right (by omega),List.getElem?_append_right (by omega),List.getElem?_append_right (by omega)];rw [show t*4-(ptl Lc os nu n T U d).length=0 by omega,show t*4+1-(ptl Lc os nu n T U d).length=1 by omega,show t*4+2-(ptl Lc os nu n T U d).length=2 by omega,show t*4+3-(ptl Lc os nu n T U d).length=3 by omega];exact⟨rfl,rfl,rfl,rfl⟩
   ·have e1:Cod.sel Lc (d+1) t=Cod.sel Lc d t:=by rw [Cod.sel_take hz,Cod.put_ne _ _ e]
    rw [e1,List.getElem?_append_left (by omega),List.getElem?_append_left (by omega),List.getElem?_append_left (by omega),List.getElem?_append_left (by omega)];exact ptl_full Lc os nu n T U d t (by omega)
structure Rpu (w:World) (ao:Option Addr) (m:Nat) (D S:Nat->Int) (nu:Int) (n:Nat) (T:Nat->Option Addr) (U:Nat->Nat) (G:Nat->Nat->UInt8):Prop where
  at_:0<m->∃ b off,ao=some ⟨b,off,none⟩/\∀ j,j<m->w.cell? ⟨b,off+j*4,none⟩=some (.int .i64 (D j))/\w.cell? ⟨b,off+j*4+1,none⟩=some (.int .i64 nu)/\w.cell? ⟨b,off+j*4+2,none⟩=some (.int .i64 (S j))/\w.cell? ⟨b,off+j*4+3,none⟩=some (.slice (T j) n (U j))
  bec:∀ j,j<m->Bec w (T j) n (U j) (G j)
theorem Rpu.below{w w':World}{ao:Option Addr}{m:Nat}{D S:Nat->Int}{nu:Int}{n:Nat}{T:Nat->Option Addr}{U:Nat->Nat}{G:Nat->Nat->UInt8}(h:Rpu w ao m D S nu n T U G)(hb:Below w.heap.size w w'):Rpu w' ao m D S nu n T U G:=by
 refine⟨fun hp=>?_,fun j hj=>(h.bec j hj).below hb⟩;obtain⟨b,off,rfl,hc⟩:=h.at_ hp;exact⟨b,off,rfl,fun j hj=>⟨held (hc j hj).1 hb,held (hc j hj).2.1 hb,held (hc j hj).2.2.1 hb,held (hc j hj).2.2.2 hb⟩⟩
theorem pl_rpu{B:Nat}{w:World}{ao:Option Addr}{cap N:Nat}{Lc os:Nat->Nat}{nu:Int}{n:Nat}{T:Nat->Option Addr}{U:Nat->Nat}{G:Nat->Nat->UInt8}(h:PL B w ao (Cod.cnt Lc N) cap N Lc os nu n T U G):Rpu w ao (Cod.cnt Lc N) (fun j=>((Cod.sel Lc N j:Nat):Int)) (fun j=>((os (Cod.sel Lc N j):Nat):Int)) nu n (fun j=>T (Cod.sel Lc N j)) (fun j=>U (Cod.sel Lc N j)) (fun j=>G (Cod.sel Lc N j)):=by
 have hs:=Cod.sel_is Lc N;refine⟨fun hp=>?_,fun j hj=>(h.row _ (hs.lt j hj) (hs.there j hj)).bec⟩;rcases h.out.2 with ⟨_,h1⟩ | ⟨g,cap',cur,h1,_⟩
 ·omega
 ·cases h1
  refine⟨g,0,rfl,fun j hj=>?_⟩;obtain⟨p0,p1,p2,p3⟩:=ptl_full Lc os nu n T U N j hj;have q0:=h.out.cells (g:=g) rfl _ _ p0;have q1:=h.out.cells (g:=g) rfl _ _ p1;have q2:=h.out.cells (g:=g) rfl _ _ p2;have q3:=h.out.cells (g:=g) rfl _ _ p3;rw [Addr.add_lit] at q0 q1 q2 q3;exact⟨q0,q1,q2,q3⟩
theorem SamePuts_any(w:World)(ao bo:Option Addr)(m ca cb:Nat)(D S:Nat->Int)(nu:Int)(n:Nat)(T T':Nat->Option Addr)(U U':Nat->Nat)(G:Nat->Nat->UInt8)(ha:Rpu w ao m D S nu n T U G)(hb:Rpu w bo m D S nu n T' U' G)(hn:m<=1000):
  Calls Tryz.prog 26 #[.slice ao m ca,.slice bo m cb] w fun e w'=>e=.returned (.bool true)/\Below w.heap.size w w':=by
 have HA:Hid (Rpu w ao m D S nu n T U G):=ha;have HB:Hid (Rpu w bo m D S nu n T' U' G):=hb;clear ha hb;have hnn:((m:Int) != (m:Int))=false:=by simp
 have hnu:(nu != nu)=false:=by simp
 go_enter Tryz.func26,Tryz.ntmps26
 go_wp2;go_loopw [5] (fun x wr=>∃ i:Nat,i<=m/\x=.int .i64 i/\Hid (Below w.heap.size w wr)) (fun x _=>m-(intOf x).toNat)
 case atStart=>exact⟨0,Nat.zero_le _,rfl,Below.refl _ _⟩
 case round =>
  obtain⟨i,hi,rfl,hbw⟩:=hrel;by_cases hlt:i<m
  ·obtain⟨b,off,rfl,hc⟩:=(HA.out.below hbw.out).at_ (by omega);obtain⟨b',off',rfl,hc'⟩:=(HB.out.below hbw.out).at_ (by omega);obtain⟨c0,c1,c2,c3⟩:=hc i hlt;obtain⟨d0,d1,d2,d3⟩:=hc' i hlt;have v1:∀ z,(convert 36 9 (.slice (T i) n (U i))).run Tryz.prog (wr.drewN z)=.ok (.string (sOf (lsF n (G i)))) (wr.drewN z):=fun z=>conv_any (((HA.out.below hbw.out).bec i hlt).below (below_drewN _ _ _));have v2:∀ z,(convert 36 9 (.slice (T' i) n (U' i))).run Tryz.prog (wr.drewN z)=.ok (.string (sOf (lsF n (G i)))) (wr.drewN z):=fun z=>conv_any (((HB.out.below hbw.out).bec i hlt).below (below_drewN _ _ _));have e1:=str_ne' (lsF n (G i));have e2:(D i != D i)=false:=by simp
   have e3:(S i != S i)=false:=by simp
   clear hc hc';have i1:(0:Int)<=(i:Int):=by omega
   have i2:(i:Int)<(m:Int):=by omega
   go_wp2;go_quiet (fail)
   go_wp2;go_roundw
   case rel=>exact⟨i+1,by omega,by go_num,hbw.out.trans (below_drewN _ _ _)⟩
   case measure=>simp [intOf]; omega
  ·go_wp2;go_ret;exact⟨rfl,hbw.out⟩
theorem rows_apart5{w:World}{B B' n m:Nat}{u v:Value}{xs ys:List Value}(h:w.ownsRow B 56 4 u n xs)(g:w.ownsRow B' 5 1 v m ys):v.ownBlock=none\/v.ownBlock ≠ u.ownBlock:=by
 rcases g.2 with ⟨e,_⟩ | ⟨g1,c1,k1,e,_,h1,_⟩
 ·left; rw [e]; rfl
 ·right
  rcases h.2 with ⟨e2,_⟩ | ⟨g2,c2,k2,e2,_,h2,_⟩
  ·rw [e,e2]; simp [Value.ownBlock]
  ·rw [e,e2];simp only [Value.ownBlock,ne_eq,Option.some.injEq];intro e3;rw [e3] at h1;rw [h1] at h2;simp only [Option.some.injEq,Obj.cells.injEq] at h2;exact absurd h2.2.1 (by decide)
end Go.Proofs.YtemlojjkokooeaaGreat
namespace Go.Proofs.YtemlojjkokooeaaGreat
open Go.RowKit Go.Maps Go.ChangeShapes
theorem lenE_pos{E:Int}{m:Nat}(h:0<lenE E m):E=0/\lenE E m=m:=by
 unfold lenE at h ⊢;by_cases e:E=0
 ·rw [if_pos e]; exact⟨e,rfl⟩
 ·rw [if_neg e] at h; omega
theorem rpu_none(w:World)(ao:Option Addr)(D S:Nat->Int)(nu:Int)(n:Nat)(T:Nat->Option Addr)(U:Nat->Nat)(G:Nat->Nat->UInt8):Rpu w ao 0 D S nu n T U G:=⟨fun h=>absurd h (by omega),fun j h=>absurd h (by omega)⟩
def Rpx (w:World) (ao:Option Addr) (E:Int) (N:Nat) (Lc os:Nat->Nat) (nu:Int) (n:Nat) (G:Nat->Nat->UInt8):Prop:=∃ T U,Rpu w ao (lenE E (Cod.cnt Lc N)) (fun j=>((Cod.sel Lc N j:Nat):Int)) (fun j=>((os (Cod.sel Lc N j):Nat):Int)) nu n T U (fun j=>G (Cod.sel Lc N j))
theorem Rpx.below{w w':World}{ao:Option Addr}{E:Int}{N:Nat}{Lc os:Nat->Nat}{nu:Int}{n:Nat}{G:Nat->Nat->UInt8}(h:Rpx w ao E N Lc os nu n G)(hb:Below w.heap.size w w'):Rpx w' ao E N Lc os nu n G:=by
 obtain⟨T,U,h1⟩:=h;exact⟨T,U,h1.below hb⟩
theorem rpx_of{B:Nat}{w:World}{ao:Option Addr}{cap N:Nat}{E:Int}{Lc os:Nat->Nat}{nu:Int}{n:Nat}{T:Nat->Option Addr}{U:Nat->Nat}{G:Nat->Nat->UInt8}(h:E=0->PL B w ao (Cod.cnt Lc N) cap N Lc os nu n T U G):Rpx w ao E N Lc os nu n G:=by
 by_cases e:E=0
 ·have:=pl_rpu (h e);refine⟨fun j=>T (Cod.sel Lc N j),fun j=>U (Cod.sel Lc N j),?_⟩;unfold lenE;rw [if_pos e];exact this
 ·refine⟨T,U,?_⟩;unfold lenE;rw [if_neg e];exact rpu_none _ _ _ _ _ _ _ _ _
theorem same_puts(w:World)(ao bo:Option Addr)(ca cb:Nat)(E:Int)(N:Nat)(Lc os:Nat->Nat)(nu:Int)(n:Nat)(G:Nat->Nat->UInt8)(ha:Rpx w ao E N Lc os nu n G)(hb:Rpx w bo E N Lc os nu n G)(hm:lenE E (Cod.cnt Lc N)<=1000):
  Calls Tryz.prog 26 #[.slice ao (lenE E (Cod.cnt Lc N)) ca,.slice bo (lenE E (Cod.cnt Lc N)) cb] w fun e w'=>e=.returned (.bool true)/\Below w.heap.size w w':=by
 obtain⟨T,U,h1⟩:=ha;obtain⟨T',U',h2⟩:=hb;exact SamePuts_any w ao bo _ ca cb _ _ nu n T T' U U' _ h1 h2 hm
theorem PL.stay'{B:Nat}{w w':World}{ao:Option Addr}{m cap N:Nat}{Lc os:Nat->Nat}{nu:Int}{n:Nat}{T:Nat->Option Addr}{U:Nat->Nat}{G:Nat->Nat->UInt8}(h:PL B w ao m cap N Lc os nu n T U G)(M:Nat)(hM:(∀ a,ao=some a->a.block<M)/\∀ i,i<N->Lc i ≠ 0->∀ a,T i=some a->a.block<M)(hb:∀ g,B<=g->g<M->w'.heap[g]? = w.heap[g]?):PL B w' ao m cap N Lc os nu n T U G :=
 ⟨owns_blocks h.out fun a ha=>hb _ (owns_at h.out ha).1 (hM.1 a ha),fun i hi hn=>owns_blocks (h.row i hi hn) fun a ha=>hb _ (owns_at (h.row i hi hn) ha).1 (hM.2 i hi hn a ha)⟩
end Go.Proofs.YtemlojjkokooeaaGreat
namespace Go.Proofs.YtemlojjkokooeaaGreat
open Go.RowKit
structure Spl (B T m n:Nat) (w wr:World) (g cap:Nat) (A:Nat->Option Addr) (U:Nat->Nat):Prop where
  row:∃ vs,wr.ownsRow B 56 4 (.slice (some ⟨g,0,none⟩) m cap) m vs/\∀ j,j<m->vs[j*4+3]? = some (.slice (A j) n (U j))
  cel:∀ j,j<m->(∃ ys,wr.ownsRow B 5 1 (.slice (A j) n (U j)) n ys)/\∀ b,(Value.slice (A j) n (U j)).ownBlock=some b->b<T
  onl:Only (fun b=>B<=b/\b<T) w wr
theorem spl_of{B:Nat}{w1 w:World}{ao:Option Addr}{cap N:Nat}{E:Int}{Lc os:Nat->Nat}{nu:Int}{n:Nat}{T:Nat->Option Addr}{U:Nat->Nat}{G:Nat->Nat->UInt8}(h:E=0->PL B w1 ao (Cod.cnt Lc N) cap N Lc os nu n T U G)(hb:Below w1.heap.size w1 w):∃ A U,0<lenE E (Cod.cnt Lc N)->∃ g,ao=some ⟨g,0,none⟩/\Spl B w1.heap.size (lenE E (Cod.cnt Lc N)) n w w g cap A U:=by
 refine⟨fun j=>T (Cod.sel Lc N j),fun j=>U (Cod.sel Lc N j),fun hp=>?_⟩;obtain⟨e,e2⟩:=lenE_pos hp;rw [e2] at hp ⊢;have h0:=h e;have hs:=Cod.sel_is Lc N;rcases h0.out.2 with ⟨_,h1⟩ | ⟨g,cap',cur,h1,_⟩
 ·omega
 ·cases h1
  have h2:=h0.below hb;exact⟨g,rfl,⟨⟨_,h2.out,fun j hj=>(ptl_full Lc os nu n T U N j hj).2.2.2⟩,fun j hj=>⟨⟨_,h2.row _ (hs.lt j hj) (hs.there j hj)⟩,fun b hb=>((h0.row _ (hs.lt j hj) (hs.there j hj)).lt b hb).2⟩,Only.refl _ _⟩⟩
theorem Spl.c1{B T m n:Nat}{w wr:World}{g cap:Nat}{A:Nat->Option Addr}{U:Nat->Nat}(h:Spl B T m n w wr g cap A U){i:Nat}(hi:i<m):wr.cell? ⟨g,i*4+3,none⟩=some (.slice (A i) n (U i)):=by
 obtain⟨vs,r1,r2⟩:=h.row;rw [World.ownsRow.cellAt r1 (i*4+3) (by omega),r2 i hi]
theorem Spl.inner{B T m n:Nat}{w wr:World}{g cap:Nat}{A:Nat->Option Addr}{U:Nat->Nat}(h:Spl B T m n w wr g cap A U){i:Nat}(hi:i<m)(hm:0<n):∃ gi,A i=some ⟨gi,0,none⟩:=by
 obtain⟨⟨ys,q1⟩,_⟩:=h.cel i hi;rcases q1.2 with ⟨_,h2⟩ | ⟨g1,c1,k1,e,_⟩
 ·omega
 ·simp only [Value.slice.injEq] at e;exact⟨g1,e.1⟩
theorem Spl.rd{B T m n:Nat}{w wr:World}{g cap:Nat}{A:Nat->Option Addr}{U:Nat->Nat}(h:Spl B T m n w wr g cap A U){i:Nat}(hi:i<m){gi u:Nat}(hg:A i=some ⟨gi,0,none⟩)(hu:u<n):(∃ x,wr.cell? ⟨gi,u,none⟩=some x)/\wr.frozen? ⟨gi,u,none⟩=false:=by
 obtain⟨⟨ys,q1⟩,_⟩:=h.cel i hi;rw [hg] at q1;have hl:=q1.1;refine⟨⟨ys[u]'(by omega),?_⟩,World.ownsRow.frozenAt q1 u⟩;rw [World.ownsRow.cellAt q1 u (by omega),List.getElem?_eq_getElem (by omega)]
theorem Spl.put{B T m n:Nat}{w wr:World}{g cap:Nat}{A:Nat->Option Addr}{U:Nat->Nat}(h:Spl B T m n w wr g cap A U){i:Nat}(hi:i<m){gi u:Nat}(hg:A i=some ⟨gi,0,none⟩)(v:Value):Spl B T m n w (wr.setCell ⟨gi,u,none⟩ v) g cap A U:=by
 obtain⟨vs,r1,r2⟩:=h.row;obtain⟨⟨ys,q1⟩,q2⟩:=h.cel i hi;have hob:(Value.slice (A i) n (U i)).ownBlock=some gi:=by rw [hg]; rfl
 have q3:=q1;rw [hg] at q3;obtain⟨s1,s2⟩:=World.ownsRow.stored q3 u v;have hlt:=q1.lt gi hob;refine⟨⟨vs,r1.kept s2 ?_,r2⟩,fun j hj=>?_,h.onl.setCell ⟨hlt.1,q2 gi hob⟩ _⟩
 ·right
  rcases rows_apart5 r1 q1 with e | e
  ·rw [hob] at e; cases e
  ·rw [hob] at e; exact fun e2=>e e2.symm
 ·obtain⟨⟨ys',p1⟩,p2⟩:=h.cel j hj;by_cases e:(Value.slice (A j) n (U j)).ownBlock=some gi
  ·rcases p1.2 with ⟨e1,_⟩ | ⟨g1,c1,k1,e1,_⟩
   ·rw [e1] at e; cases e
   ·rw [e1] at e;have e3:g1=gi:=by simpa [Value.ownBlock] using e
    subst e3;have e4:A j=some ⟨g1,0,none⟩:=by simp only [Value.slice.injEq] at e1; exact e1.1
    rw [e4] at p1 p2 ⊢;exact⟨⟨_,(World.ownsRow.stored p1 u v).1⟩,p2⟩
  ·exact⟨⟨ys',p1.kept s2 (.inr e)⟩,p2⟩
theorem erK_ok{N:Nat}{c:Int}{L:Nat->Nat}{kd:UInt8}{v:Int}(hL:∀ j,j<2*N->L j=0\/L j=sz N c)(hk:kd=1\/kd=2)(hv:1<=v/\v<=1073741824):erK 0 N c N L kd v=0:=by
 have h1:erR 0 N c N L=0:=by unfold erR; rw [if_pos rfl,if_pos ⟨rfl,hL⟩]
 unfold erK; rw [if_pos h1,if_pos ⟨hk,hv⟩]
def chOf (D:Nat->Int) (T:Nat->Option Addr) (L U:Nat->Nat):Nat->List Value
  | 0=>[]
  | n+1=>chOf D T L U n ++ [.int .i64 (D n),.slice (T n) (L n) (U n)]
theorem chOf_length(D:Nat->Int)(T:Nat->Option Addr)(L U:Nat->Nat):∀ n,(chOf D T L U n).length=n*2
 | 0=>rfl
 | n+1=>by rw [chOf,List.length_append,chOf_length D T L U n]; simp; omega
theorem chOf_get(D:Nat->Int)(T:Nat->Option Addr)(L U:Nat->Nat):∀ n i,i<n->(chOf D T L U n)[i*2]? = some (.int .i64 (D i))/\(chOf D T L U n)[i*2+1]? = some (.slice (T i) (L i) (U i))
 | 0,i,h=>absurd h (Nat.not_lt_zero i)
 | n+1,i,h=>by
  have hl:=chOf_length D T L U n;rw [chOf];by_cases e:i<n
  ·rw [List.getElem?_append_left (by omega),List.getElem?_append_left (by omega)];exact chOf_get D T L U n i e
  ·obtain rfl:i=n:=by omega
   rw [List.getElem?_append_right (by omega),List.getElem?_append_right (by omega),hl,Nat.sub_self,show i*2+1-i*2=1 by omega];exact⟨rfl,rfl⟩
theorem chOf_congr{D D':Nat->Int}{T T':Nat->Option Addr}{L L' U U':Nat->Nat}:∀ {n:Nat},(∀ i,i<n->D i=D' i/\T i=T' i/\L i=L' i/\U i=U' i)->chOf D T L U n=chOf D' T' L' U' n
 | 0,_=>rfl
 | n+1,h=>by
  obtain⟨a,b,c,d⟩:=h n (by omega);rw [chOf,chOf,chOf_congr (n:=n) fun i hi=>h i (by omega),a,b,c,d]
structure Chs (B:Nat) (w:World) (ao:Option Addr) (n cap:Nat) (D:Nat->Int) (T:Nat->Option Addr) (L U:Nat->Nat) (H:Nat->Nat->UInt8):Prop where
  out:w.ownsRow B 124 2 (.slice ao n cap) n (chOf D T L U n)
  row:∀ i,i<n->OwU B w (T i) (L i) (U i) (H i)
  apart:∀ i j,i<j->j<n->∀ a b,T i=some a->T j=some b->a.block ≠ b.block
theorem chs_nil(B:Nat)(w:World)(D:Nat->Int)(T:Nat->Option Addr)(L U:Nat->Nat)(H:Nat->Nat->UInt8):Chs B w none 0 0 D T L U H:=⟨World.ownsRow_nil _ _ _ _,fun i hi=>absurd hi (by omega),fun _ j _ hj=>absurd hj (by omega)⟩
theorem Chs.below{B:Nat}{w w':World}{ao:Option Addr}{n cap:Nat}{D:Nat->Int}{T:Nat->Option Addr}{L U:Nat->Nat}{H:Nat->Nat->UInt8}(h:Chs B w ao n cap D T L U H)(hb:Below w.heap.size w w'):Chs B w' ao n cap D T L U H :=
 ⟨owns_below h.out hb,fun i hi=>(h.row i hi).below hb,h.apart⟩
theorem Chs.mono{B B':Nat}{w:World}{ao:Option Addr}{n cap:Nat}{D:Nat->Int}{T:Nat->Option Addr}{L U:Nat->Nat}{H:Nat->Nat->UInt8}(h:Chs B w ao n cap D T L U H)(hb:B'<=B):Chs B' w ao n cap D T L U H :=
 ⟨owns_mono h.out hb,fun i hi=>(h.row i hi).mono hb,h.apart⟩
theorem Chs.congr{B:Nat}{w:World}{ao:Option Addr}{n cap:Nat}{D D':Nat->Int}{T:Nat->Option Addr}{L U:Nat->Nat}{H H':Nat->Nat->UInt8}(h:Chs B w ao n cap D T L U H)(hd:∀ i,i<n->D i=D' i)(hh:∀ i,i<n->∀ j,j<L i->H i j=H' i j):Chs B w ao n cap D' T L U H' :=
 ⟨by rw [<- chOf_congr (D:=D) fun i hi=>⟨hd i hi,rfl,rfl,rfl⟩]; exact h.out,fun i hi=>(h.row i hi).congr (hh i hi),h.apart⟩
theorem Chs.cells{B:Nat}{w:World}{ao:Option Addr}{n cap:Nat}{D:Nat->Int}{T:Nat->Option Addr}{L U:Nat->Nat}{H:Nat->Nat->UInt8}(h:Chs B w ao n cap D T L U H)(hn:0<n):∃ g,ao=some ⟨g,0,none⟩/\B<=g/\g<w.heap.size/\n<=cap/\∀ i,i<n->w.cell? ⟨g,i*2,none⟩=some (.int .i64 (D i))/\w.cell? ⟨g,i*2+1,none⟩=some (.slice (T i) (L i) (U i)):=by
 rcases h.out.2 with ⟨_,e⟩ | ⟨g,c',cur,e,h1,h2,h3,_⟩
 ·omega
 ·cases e
  refine⟨g,rfl,h1,(Array.getElem?_eq_some_iff.1 h2).1,h3,fun i hi=>?_⟩;obtain⟨a,b⟩:=chOf_get D T L U n i hi;have c0:=h.out.cells (g:=g) rfl _ _ a;have c1:=h.out.cells (g:=g) rfl _ _ b;rw [Addr.add_lit,Nat.zero_add] at c0 c1;exact⟨c0,c1⟩
theorem info33:(Tryz.prog.info? 124).map (fun i=>(i.zero,i.size,i.bytes))=some (some (.agg #[.int .i64 0,.slice none 0 0]),2,32):=by kernel_rfl
theorem owns_empty5(w:World):(w.alloc (.cells #[] 5)).ownsRow w.heap.size 5 1 (.slice (some ⟨w.heap.size,0,none⟩) 0 0) 0 [] :=
 ⟨rfl,.inr ⟨w.heap.size,0,#[],rfl,Nat.le_refl _,heap_alloc_new w _,Nat.le_refl _,Nat.zero_le _,rfl,rfl⟩⟩
theorem eqn_no(w:World)(a:Addr)(l c:Nat):(binOp .eql 36 (.slice (some a) l c) (.slice none 0 0)).run Tryz.prog w=.ok (.bool false) w:=Lib.run_eql_slice_nil w 36 5 (some a) l c 0 0 Tryz.underlying36
theorem bclone_any(w:World)(b off n ca:Nat)(F:Nat->UInt8)(hF:Bec w (some ⟨b,off,none⟩) n ca F)(hn1:1<=n)(hn:n<=1000):
  Calls Tryz.prog 156 #[.slice (some ⟨b,off,none⟩) n ca] w fun e w'=>∃ g u,e=.returned (.slice (some ⟨g,0,none⟩) n u)/\OwU w.heap.size w' (some ⟨g,0,none⟩) n u F/\Below w.heap.size w w':=by
 have hnil:=fun w=>eqn_no w ⟨b,off,none⟩ n ca;have HB:Hid (Bec (w.alloc (.cells #[] 5)) (some ⟨b,off,none⟩) n ca F):=hF.below (bal _ _);clear hF;go_enter Tryz.func156,Tryz.ntmps156
 go_wp2_with (at_builtin; refine wpList_append_bytes (by rfl) (.tmp 5) (.tmp 6) (by rfl) w.heap.size 0 n 0 ca (some ⟨w.heap.size,0,none⟩) (some ⟨b,off,none⟩) [] F (by rfl) (by rfl) (owns_empty5 w) HB.out (by omega) (by omega) (by simp) ?_; intro ao' c' w' hown hgrow)
 go_ret;rw [List.nil_append,Nat.zero_add] at hown;obtain⟨g,rfl,_,_⟩:=OwU.at_ (F:=F) hown (by omega);exact⟨g,c',rfl,hown,(bal _ _).grown hgrow (by simp) (fun q hq=>by cases hq; exact Nat.le_refl _)⟩
structure Chl (w:World) (lo:Option Addr) (n lc:Nat) (D:Nat->Int) (A:Nat->Option Addr) (L C:Nat->Nat) (F:Nat->Nat->UInt8):Prop where
  at_:0<n->∃ b off,lo=some ⟨b,off,none⟩/\∀ i,i<n->w.cell? ⟨b,off+i*2,none⟩=some (.int .i64 (D i))/\w.cell? ⟨b,off+i*2+1,none⟩=some (.slice (A i) (L i) (C i))
  bec:∀ i,i<n->Bec w (A i) (L i) (C i) (F i)
  nil:lo=none->n=0/\lc=0
  room:n<=lc
theorem Chl.below{w w':World}{lo:Option Addr}{n lc:Nat}{D:Nat->Int}{A:Nat->Option Addr}{L C:Nat->Nat}{F:Nat->Nat->UInt8}(h:Chl w lo n lc D A L C F)(hb:Below w.heap.size w w'):Chl w' lo n lc D A L C F :=
 ⟨fun hn=>by obtain⟨b,off,e,hc⟩:=h.at_ hn; exact⟨b,off,e,fun i hi=>⟨held (hc i hi).1 hb,held (hc i hi).2 hb⟩⟩,fun i hi=>(h.bec i hi).below hb,h.nil,h.room⟩
theorem Chs.chl{B:Nat}{w:World}{ao:Option Addr}{n cap:Nat}{D:Nat->Int}{T:Nat->Option Addr}{L U:Nat->Nat}{H:Nat->Nat->UInt8}(h:Chs B w ao n cap D T L U H):Chl w ao n cap D T L U H:=by
 refine⟨fun hn=>?_,fun i hi=>(h.row i hi).bec,fun e=>?_,?_⟩
 ·obtain⟨g,e,_,_,_,hc⟩:=h.cells hn;exact⟨g,0,e,fun i hi=>by rw [Nat.zero_add]; exact hc i hi⟩
 ·rcases h.out.2 with ⟨h0,h1⟩ | ⟨g,c',cur,e',_⟩
  ·cases h0; exact⟨rfl,rfl⟩
  ·rw [e] at e'; cases e'
 ·rcases h.out.2 with ⟨h0,h1⟩ | ⟨g,c',cur,e',_,_,h3,_⟩
  ·omega
  ·cases e'; exact h3
def lst (D:Nat->Int) (i:Nat):Int:=if i=0 then -1 else D (i-1)
abbrev gdB (D:Nat->Int) (K:Int) (i:Nat):Prop:=∀ j,j<i->lst D j<D j/\D j<K
def erG (D:Nat->Int) (L:Nat->Nat) (K:Int) (m n:Nat):Int:=if 0<n/\gdB D K n then (if ∀ i,i<n->L i=m then 0 else 20) else 2
theorem lst_succ(D:Nat->Int)(i:Nat):lst D (i+1)=D i:=by unfold lst; rw [if_neg (by omega),Nat.add_sub_cancel]
theorem gd_lt{D:Nat->Int}{K:Int}{n:Nat}(h:gdB D K n):∀ j i,i<j->j<n->D i<D j
 | 0,i,h1,_=>absurd h1 (Nat.not_lt_zero i)
 | j+1,i,h1,h2=>by
  have h3:=(h (j+1) h2).1;rw [lst_succ] at h3;by_cases e:i=j
  ·subst e; exact h3
  ·have:=gd_lt h j i (by omega) (by omega); omega
theorem gd_ge{D:Nat->Int}{K:Int}{n:Nat}(h:gdB D K n){i:Nat}(hi:i<n):0<=D i/\D i<K:=by
 refine⟨?_,(h i hi).2⟩;have h0:=(h 0 (by omega)).1;rw [show lst D 0=-1 from if_pos rfl] at h0;by_cases e:i=0
 ·subst e; omega
 ·have:=gd_lt h i 0 (by omega) hi; omega
theorem wrong_any(k r q:Int)(m:Nat)(w:World)(lo:Option Addr)(n lc:Nat)(D:Nat->Int)(A:Nat->Option Addr)(L C:Nat->Nat)(F:Nat->Nat->UInt8)(hl:Chl w lo n lc D A L C F)(hn:n<=100)(E:Int)(hE:erG D L k m n=E):
  Calls Tryz.prog 91 #[.agg #[.int .i64 k,.int .i64 r,.int .i64 (m:Int),.int .i64 q],.slice lo n lc] w fun e w'=>e=.returned (.int .i64 E)/\Below w.heap.size w w':=by
 obtain⟨w0,hw0⟩:∃ w0,w0=w.alloc (.cells #[.int .i64 k,.int .i64 r,.int .i64 (m:Int),.int .i64 q] 23):=⟨_,rfl⟩
 have B0:Hid (Below w.heap.size w w0):=by show Below _ _ _; rw [hw0]; exact bal _ _
 have HPAR:Hid (∀ v,Below w0.heap.size w0 v->v.cell? ⟨w.heap.size,0,none⟩=some (.int .i64 k)/\v.cell? ⟨w.heap.size,1,none⟩=some (.int .i64 r)/\v.cell? ⟨w.heap.size,2,none⟩=some (.int .i64 (m:Int))/\v.cell? ⟨w.heap.size,3,none⟩=some (.int .i64 q)):=fun v hv=>par_held hw0 hv;have HL:Hid (Chl w lo n lc D A L C F):=hl;have HE:Hid (erG D L k m n=E):=hE;clear hl hE;go_enter Tryz.func91,Tryz.ntmps91
 go_wp2_with fail
 rw [<- hw0];clear hw0;refine wp_scope_jumps 0 (fun a' w'=>Hid (E=2/\Below w.heap.size w w')/\∃ u0 u1 u2 u3 u4 u5 u6 u7 u8 u9 u10 u11 u12 u13 u14 u15 u16 u17 u18 u19 u20 u21 u22 u23 u24 u25 u26 u27 u28 u29 u30 u31 u32 u33 u34 u35 u36 u37 u38:Value,a'={tmps:=#[u0,u1,u2,u3,u4,u5,u6,u7,u8,u9,u10,u11,u12,u13,u14,u15,u16,u17,u18,u19,u20,u21,u22,u23,u24,u25,u26,u27,u28,u29,u30,u31,u32,u33,u34,u35,u36,u37,u38],defers:=[]}) (fun _ _=>0) (by rfl) ?_ ?_;rotate_left
 ·rintro a' w' ⟨hJ,u0,u1,u2,u3,u4,u5,u6,u7,u8,u9,u10,u11,u12,u13,u14,u15,u16,u17,u18,u19,u20,u21,u22,u23,u24,u25,u26,u27,u28,u29,u30,u31,u32,u33,u34,u35,u36,u37,u38,rfl⟩;have HJ:Hid (E=2/\Below w.heap.size w w'):=hJ;clear hJ;go_wp2_with fail
  try go_step3
  try go_wp2_with fail
  try simp only [Exit.jump]
  go_ret;exact⟨ret_int HJ.out.1.symm,HJ.out.2⟩
 go_wp2_with fail
 go_loopw [5,6,11] (fun s l y wr=>∃ i:Nat,i<=n/\y=.int .i64 (i:Int)/\l=.int .i64 (lst D i)/\(∃ z:Int,s=.int .i64 z/\Hid ((z=0/\∀ j,j<i->L j=m)\/(z=20/\¬ ∀ j,j<i->L j=m)))/\Hid (gdB D k i)/\Hid (Below w0.heap.size w0 wr)) (fun _ _ y _=>n-(intOf y).toNat)
 case atStart=>exact⟨0,Nat.zero_le _,rfl,rfl,⟨0,rfl,.inl ⟨rfl,fun j hj=>absurd hj (by omega)⟩⟩,fun j hj=>absurd hj (by omega),Below.refl _ _⟩
 case round =>
  obtain⟨i,hi,rfl,rfl,⟨z,rfl,hz⟩,hg,hb⟩:=hrel;by_cases hlt:i<n
  ·obtain⟨b,off,rfl,hc⟩:=HL.out.at_ (by omega);have c0:=held (hc i hlt).1 (bth B0.out hb.out);have c1:=held (hc i hlt).2 (bth B0.out hb.out);have pp:=HPAR.out wr hb.out;have a0:=fun o=>held pp.1 (bal wr o);have a2:=fun o=>held pp.2.2.1 (bal wr o);have HB2:Hid (∀ o,Below w0.heap.size w0 (wr.alloc o)):=fun o=>bth hb.out (bal _ _);have i1:(0:Int)<=(i:Int):=by omega
   have i2:(i:Int)<(n:Int):=by omega
   obtain⟨dd,hdd⟩:∃ dd,dd=D i:=⟨_,rfl⟩
   obtain⟨ll,hll⟩:∃ ll,ll=lst D i:=⟨_,rfl⟩
   rw [<- hdd] at c0;rw [<- hll];have HDD:Hid (dd=D i/\ll=lst D i):=⟨hdd,hll⟩
   clear hc pp hdd hll;by_cases t1:dd<=ll
   ·have HR:Hid (E=2):=by
     show _=_;rw [<- HE.out]; unfold erG;exact if_neg fun h=>by have:=(h.2 i hlt).1; have:=HDD.out; omega
    go_wp2_with fail
    go_step3
    exact⟨rfl,⟨HR.out,bth B0.out (HB2.out _)⟩,_,_,_,_,_,_,_,_,_,_,_,_,_,_,_,_,_,_,_,_,_,_,_,_,_,_,_,_,_,_,_,_,_,_,_,_,_,_,_,rfl⟩
   ·by_cases t2:k<=dd
    ·have HR:Hid (E=2):=by
      show _=_;rw [<- HE.out]; unfold erG;exact if_neg fun h=>by have:=(h.2 i hlt).2; have:=HDD.out; omega
     go_wp2_with fail
     go_step3
     exact⟨rfl,⟨HR.out,bth B0.out (HB2.out _)⟩,_,_,_,_,_,_,_,_,_,_,_,_,_,_,_,_,_,_,_,_,_,_,_,_,_,_,_,_,_,_,_,_,_,_,_,_,_,_,_,rfl⟩
    ·have HG:Hid (gdB D k (i+1)):=fun j hj=>by
      by_cases e:j=i
      ·subst e; have:=HDD.out; omega
      ·exact hg.out j (by omega)
     have HLS:Hid (lst D (i+1)=dd):=by show _=_; rw [lst_succ]; exact HDD.out.1.symm
     obtain⟨li,hli⟩:∃ li,li=L i:=⟨_,rfl⟩
     rw [<- hli] at c1;have HLI:Hid (li=L i):=hli;clear hli;by_cases t3:li=m
     ·have q1:((li:Int) != (m:Int))=false:=by rw [t3]; simp
      have HZ:Hid ((z=0/\∀ j,j<i+1->L j=m)\/(z=20/\¬ ∀ j,j<i+1->L j=m)):=by
       rcases hz.out with ⟨e,h⟩ | ⟨e,h⟩
       ·exact .inl ⟨e,fun j hj=>by
         by_cases e2:j=i
         ·subst e2; rw [<- HLI.out]; exact t3
         ·exact h j (by omega)⟩
       ·exact .inr ⟨e,fun g=>h fun j hj=>g j (by omega)⟩
      clear hz hg t3;go_wp2_with fail
      go_roundw
      case rel=>exact⟨i+1,by omega,by go_num,by rw [HLS.out],⟨z,rfl,HZ.out⟩,HG.out,HB2.out _⟩
      case measure=>simp [intOf]; omega
     ·have q1:((li:Int) != (m:Int))=true:=by simp; omega
      have HZ:Hid (¬ ∀ j,j<i+1->L j=m):=fun g=>t3 (HLI.out.trans (g i (by omega)));clear hz hg t3;go_wp2_with fail
      go_roundw
      case rel=>exact⟨i+1,by omega,by go_num,by rw [HLS.out],⟨20,rfl,.inr ⟨rfl,HZ.out⟩⟩,HG.out,HB2.out _⟩
      case measure=>simp [intOf]; omega
  ·obtain rfl:i=n:=by omega
   by_cases h0:i=0
   ·have HR:Hid (E=2):=by show _=_; rw [<- HE.out]; unfold erG; exact if_neg (by omega)
    have t1:¬ (0:Int)<(i:Int):=by omega
    clear h0;go_wp2_with fail
    go_step3
    go_wp2_with fail
    try simp only [Exit.jump]
    go_ret;exact⟨ret_int HR.out.symm,bth B0.out hb.out⟩
   ·have t1:(0:Int)<(i:Int):=by omega
    have HR:Hid (E=z):=by
     show _=_;rw [<- HE.out]; unfold erG;rw [if_pos ⟨by omega,hg.out⟩];rcases hz.out with ⟨e,h⟩ | ⟨e,h⟩
     ·rw [if_pos h]; exact e.symm
     ·rw [if_neg h]; exact e.symm
    clear h0;go_wp2_with fail
    try simp only [Exit.jump]
    go_ret;exact⟨ret_int HR.out.symm,bth B0.out hb.out⟩
end Go.Proofs.YtemlojjkokooeaaGreat
