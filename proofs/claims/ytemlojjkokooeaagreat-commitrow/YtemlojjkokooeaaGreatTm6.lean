import Derived.Test.YtemlojjkokooeaaGreatTm5
open Go.Value renaming int->J,slice->I
open Go.IntKind renaming i64->O,u8->d
open Option renaming some->Y,none->U
open Go.RowKit renaming Hid->X,Below->L
open Go.Obj renaming cells->T
open Go.Proofs.Tryz renaming prog->S
open Go.Operand renaming tmp->C
open Go renaming World->z
open Int renaming toNat_natCast->p
open Go.Ending renaming returned->f
open Go.RowKit.Below renaming refl->l
set_option maxHeartbeats 16000000
set_option maxRecDepth 100000
namespace Go.Proofs.YtemlojjkokooeaaGreat.De
open Go.RowKit
theorem cQ(w:z){x:Int}{u:UInt8}(hx:x=((u.toNat:Nat):Int)):Bec (w.alloc (T #[J d x] 5)) (Y ⟨w.heap.size,0,U⟩) 1 1 (fun _=>u):=by
 subst hx;refine⟨fun _=>⟨_,_,rfl,fun j hj=>?_⟩,(fun e=>by cases e),Nat.le_refl _⟩;obtain rfl:j=0:=za;rw [cell_of_row _ _ _ _ _ _ (heap_alloc_new w _)];rfl
theorem cK{F H:Nat->UInt8}{n i:Nat}{u:UInt8}(h:H i=u):upR (upR F n i H) (n+i) 1 (fun _=>u)=upR F n (i+1) H:=by
 funext j
 by_cases e:j=n+i
 ·subst e;rw [aE za,aE za,show n+i-n=i by omega,h]
 ·rw [aw za];by_cases e2:n<=j/\j<n+i
  ·rw [aE e2,aE za]
  ·rw [aw e2,aw za]
theorem Bh{W n m:Nat}(G H:Nat->UInt8)(h:n+m<=W):(byF W G).take n ++ byF m H ++ (byF W G).drop (n+m)=byF W (upR G n m H):=by
 apply List.ext_getElem?
 intro i;have hl:((byF W G).take n ++ byF m H).length=n+m:=by rw [List.length_append,List.length_take,ai,ai];omega
 by_cases h1:i<n+m
 ·rw [List.getElem?_append_left za,aL W _ _ za];by_cases h2:i<n
  ·rw [List.getElem?_append_left (by rw [List.length_take,ai];omega),List.getElem?_take_of_lt h2,aL W _ _ za,aw za]
  ·rw [List.getElem?_append_right (by rw [List.length_take,ai];omega),List.length_take,ai,show i-min n W=i-n by omega,aL m _ _ za,aE za]
 ·rw [List.getElem?_append_right za,hl,List.getElem?_drop,show n+m+(i-(n+m))=i by omega];by_cases h3:i<W
  ·rw [aL W _ _ h3,aL W _ _ h3,aw za]
  ·rw [List.getElem?_eq_none (by rw [ai];omega),List.getElem?_eq_none (by rw [ai];omega)]
theorem aV{w:z}{pm:Array Oper}{kg:List Oper}{o:Oper}{a:Act}{Q:Exit->Act->z->Prop}(qN:o.guard=U)(s x:Operand)
  (ho:o.op=.call { callee:=.builtin .append,args:=#[s,x],argTypes:=#[36,36]}) (g n m W cb:Nat) (bo:Option Addr) (G H:Nat->UInt8)
  (hs:a.eval s=I (Y ⟨g,0,U⟩) n W) (hx:a.eval x=I bo m cb) (h:Bk w g W G) (hv:Bec w bo m cb H) (l8:n+m<=W) (hW:W<=1000)
  (kP:∀ w',Bk w' g W (upR G n m H)->Only (· = g) w w'->wpList S pm Q kg (a.put o.dst (I (Y ⟨g,0,U⟩) (n+m) W)) w'):wpList S pm Q (o :: kg) a w:=by
 obtain⟨j0,hj,kE,kB,kt⟩:=info_parts bU;cases bo with
 | none =>
  obtain⟨rfl,rfl⟩:=hv.nil rfl;have:=kP w (h.congr fun i _=>(aw za).symm) (Only.refl _ _);have em:w.ownsRow 0 5 1 (I (Y ⟨g,0,U⟩) n W) n (byF n G):=by
   refine⟨by rw [ai,Nat.mul_one],.inr ⟨g,W,_,rfl,Nat.zero_le _,h,za,by unfold maxLen;omega,by simp [ai],?_⟩⟩;rw [List.toList_toArray,Nat.mul_one];apply List.ext_getElem?
   intro i;by_cases hi:i<n
   ·rw [List.getElem?_take_of_lt hi,aL W _ _ za,aL n _ _ hi]
   ·rw [List.getElem?_eq_none (by rw [List.length_take,ai];omega),List.getElem?_eq_none (by rw [ai];omega)]
  exact wpList_append_own_none qN s x 36 ho 0 5 j0 1 Tryz.underlying36 hj (I (Y ⟨g,0,U⟩) n W) n (byF n G) hs em hx this
 | some ad =>
  refine wpList_plain qN fun K hK=>?_;have hr:=run_append_room (P:=S) w 36 o.type 5 j0 Tryz.underlying36 hj g n W (byF W G).toArray h ad m cb (byF m H) (by rw [ai,kB,Nat.mul_one]) (dF hv) (dU _ _) l8 (by rw [kB,ai];simp [ai];omega);unfold Oper.wp execOp;simp only [ho,resolve,invoke,builtin,Sem.run_bind,Sem.run_pure,Result.andThen_ok,List.map_toArray,List.map_cons,List.map_nil,hs,hx,hr];refine hK _ _ (kP _ ?_ ?_)
  ·unfold Bk;rw [setRow_heap w g _ _ 5 _ h,kB,ai,Nat.mul_one,Bh G H l8]
  ·exact⟨rfl,rfl,rfl,zi,fun k _ hk=>setRow_other w g k _ hk⟩
theorem bZ(w:z)(B:Nat)(ao:Option Addr)(n b8 m k:Nat)(F:Nat->UInt8)(h:OwU B w ao n b8 F)(hB:B<=w.heap.size)(hk:k<=4)(hn:n<=1000)(hm:m<4294967296):
  Calls S 239 #[I ao n b8,J O (m:Int),J O (k:Int)] w fun e w'=>∃ uo uc,e=f (I uo (n+k) uc)/\OwU B w' uo (n+k) uc (upR F n k (fun i=>dg m (k-1-i)))/\L B w w':=by
 have HX:=am h;clear h;go_enter Tryz.func239,Tryz.ntmps239
 go_wp2_with fail
 go_loopw [0,2] (fun y x wr=>∃ i t:Nat,i+t=k/\x=J O (t:Int)/\(∃ uo uc,y=I uo (n+i) uc/\X (OwU B wr uo (n+i) uc (upR F n i (fun j=>dg m (k-1-j)))))/\X (L B w wr)) (fun _ x _=>(intOf x).toNat)
 case atStart=>exact⟨0,k,za,rfl,⟨ao,b8,rfl,HX.out.congr fun i hi=>(aw za).symm⟩,l _ _⟩
 case round =>
  obtain⟨i,t,Jm,rfl,⟨uo,uc,rfl,em⟩,d8⟩:=hrel;by_cases hlt:0<t
  ·have hs:B<=wr.heap.size:=Nat.le_trans hB d8.out.size;rcases (show t=1\/t=2\/t=3\/t=4 by omega) with rfl | rfl | rfl | rfl
   ·have hv:=cQ wr (x:=(m:Int) % 256) (u:=dg m 0) (by rw [aP];simp <;> omega);have ho:=em.out.below (bal wr (T #[J d ((m:Int) % 256)] 5));have HU:X (upR (upR F n i (fun j=>dg m (k-1-j))) (n+i) 1 (fun _=>dg m 0)=upR F n (i+1) (fun j=>dg m (k-1-j))):=cK (by rw [show k-1-i=0 by omega]);have HG:=am (cZ em.out);go_wp2_with (at_builtin;refine au zg (C 11) (C 17) zg B (n+i) 1 uc 1 uo (Y ⟨wr.heap.size,0,U⟩) _ _ zg zg ho hv za zj ?_;intro Hr F5 w2 kS kx;have kH:X (OwU B w2 Hr (n+i+1) F5 (upR F n (i+1) (fun j=>dg m (k-1-j)))):=(by show OwU _ _ _ _ _ _;rw [<- HU.out];exact kS);have jv:X (L B w w2):=(d8.out.alloc hs _).grown kx zj HG.out;clear kS kx hv ho)
    exact⟨⟨i+1,0,za,rfl,⟨_,_,rfl,kH⟩,jv⟩,by simp [intOf]⟩
   ·have hv:=cQ wr (x:=(m:Int) / 256 % 256) (u:=dg m 1) (by rw [aP];simp <;> omega);have ho:=em.out.below (bal wr (T #[J d ((m:Int) / 256 % 256)] 5));have HU:X (upR (upR F n i (fun j=>dg m (k-1-j))) (n+i) 1 (fun _=>dg m 1)=upR F n (i+1) (fun j=>dg m (k-1-j))):=cK (by rw [show k-1-i=1 by omega]);have HG:=am (cZ em.out);go_wp2_with (at_builtin;refine au zg (C 11) (C 17) zg B (n+i) 1 uc 1 uo (Y ⟨wr.heap.size,0,U⟩) _ _ zg zg ho hv za zj ?_;intro Hr F5 w2 kS kx;have kH:X (OwU B w2 Hr (n+i+1) F5 (upR F n (i+1) (fun j=>dg m (k-1-j)))):=(by show OwU _ _ _ _ _ _;rw [<- HU.out];exact kS);have jv:X (L B w w2):=(d8.out.alloc hs _).grown kx zj HG.out;clear kS kx hv ho)
    exact⟨⟨i+1,1,za,rfl,⟨_,_,rfl,kH⟩,jv⟩,by simp [intOf]⟩
   ·have hv:=cQ wr (x:=(m:Int) / 65536 % 256) (u:=dg m 2) (by rw [aP];simp <;> omega);have ho:=em.out.below (bal wr (T #[J d ((m:Int) / 65536 % 256)] 5));have HU:X (upR (upR F n i (fun j=>dg m (k-1-j))) (n+i) 1 (fun _=>dg m 2)=upR F n (i+1) (fun j=>dg m (k-1-j))):=cK (by rw [show k-1-i=2 by omega]);have HG:=am (cZ em.out);go_wp2_with (at_builtin;refine au zg (C 11) (C 17) zg B (n+i) 1 uc 1 uo (Y ⟨wr.heap.size,0,U⟩) _ _ zg zg ho hv za zj ?_;intro Hr F5 w2 kS kx;have kH:X (OwU B w2 Hr (n+i+1) F5 (upR F n (i+1) (fun j=>dg m (k-1-j)))):=(by show OwU _ _ _ _ _ _;rw [<- HU.out];exact kS);have jv:X (L B w w2):=(d8.out.alloc hs _).grown kx zj HG.out;clear kS kx hv ho)
    exact⟨⟨i+1,2,za,rfl,⟨_,_,rfl,kH⟩,jv⟩,by simp [intOf]⟩
   ·have hv:=cQ wr (x:=(m:Int) / 16777216) (u:=dg m 3) (by rw [aP];simp <;> omega);have ho:=em.out.below (bal wr (T #[J d ((m:Int) / 16777216)] 5));have HU:X (upR (upR F n i (fun j=>dg m (k-1-j))) (n+i) 1 (fun _=>dg m 3)=upR F n (i+1) (fun j=>dg m (k-1-j))):=cK (by rw [show k-1-i=3 by omega]);have HG:=am (cZ em.out);go_wp2_with (at_builtin;refine au zg (C 11) (C 17) zg B (n+i) 1 uc 1 uo (Y ⟨wr.heap.size,0,U⟩) _ _ zg zg ho hv za zj ?_;intro Hr F5 w2 kS kx;have kH:X (OwU B w2 Hr (n+i+1) F5 (upR F n (i+1) (fun j=>dg m (k-1-j)))):=(by show OwU _ _ _ _ _ _;rw [<- HU.out];exact kS);have jv:X (L B w w2):=(d8.out.alloc hs _).grown kx zj HG.out;clear kS kx hv ho)
    exact⟨⟨i+1,3,za,rfl,⟨_,_,rfl,kH⟩,jv⟩,by simp [intOf]⟩
  ·obtain rfl:t=0:=za;obtain rfl:i=k:=za;go_wp2;go_ret;exact⟨uo,uc,rfl,em.out,d8.out⟩
theorem dj(w:z)(g n W m k:Nat)(G:Nat->UInt8)(h:Bk w g W G)(hk:k<=4)(hn:n+k<=W)(hW:W<=1000)(hm:m<4294967296):
  Calls S 239 #[I (Y ⟨g,0,U⟩) n W,J O (m:Int),J O (k:Int)] w fun e w'=>e=f (I (Y ⟨g,0,U⟩) (n+k) W)/\Bk w' g W (upR G n k (fun i=>dg m (k-1-i)))/\Only (· = g) w w':=by
 have HX:=am h;clear h;go_enter Tryz.func239,Tryz.ntmps239
 go_wp2_with fail
 go_loopw [0,2] (fun y x wr=>∃ i t:Nat,i+t=k/\x=J O (t:Int)/\y=I (Y ⟨g,0,U⟩) (n+i) W/\X (Bk wr g W (upR G n i (fun j=>dg m (k-1-j))))/\X (Only (· = g) w wr)) (fun _ x _=>(intOf x).toNat)
 case atStart=>exact⟨0,k,za,rfl,rfl,HX.out.congr fun i hi=>(aw za).symm,Only.refl _ _⟩
 case round =>
  obtain⟨i,t,Jm,rfl,rfl,em,d8⟩:=hrel;by_cases hlt:0<t
  ·rcases (show t=1\/t=2\/t=3\/t=4 by omega) with rfl | rfl | rfl | rfl
   ·have hv:=cQ wr (x:=(m:Int) % 256) (u:=dg m 0) (by rw [aP];simp <;> omega);have ho:=em.out.below (bal wr (T #[J d ((m:Int) % 256)] 5));have HU:X (upR (upR G n i (fun j=>dg m (k-1-j))) (n+i) 1 (fun _=>dg m 0)=upR G n (i+1) (fun j=>dg m (k-1-j))):=cK (by rw [show k-1-i=0 by omega]);go_wp2_with (at_builtin;refine aV zg (C 11) (C 17) zg g (n+i) 1 W 1 (Y ⟨wr.heap.size,0,U⟩) _ _ zg zg ho hv za hW ?_;intro w2 kS kx;have kH:X (Bk w2 g W (upR G n (i+1) (fun j=>dg m (k-1-j)))):=(by show Bk _ _ _ _;rw [<- HU.out];exact kS);have jv:X (Only (· = g) w w2):=(d8.out.alloc _).trans kx;clear kS kx hv ho)
    exact⟨⟨i+1,0,za,rfl,rfl,kH,jv⟩,by simp [intOf]⟩
   ·have hv:=cQ wr (x:=(m:Int) / 256 % 256) (u:=dg m 1) (by rw [aP];simp <;> omega);have ho:=em.out.below (bal wr (T #[J d ((m:Int) / 256 % 256)] 5));have HU:X (upR (upR G n i (fun j=>dg m (k-1-j))) (n+i) 1 (fun _=>dg m 1)=upR G n (i+1) (fun j=>dg m (k-1-j))):=cK (by rw [show k-1-i=1 by omega]);go_wp2_with (at_builtin;refine aV zg (C 11) (C 17) zg g (n+i) 1 W 1 (Y ⟨wr.heap.size,0,U⟩) _ _ zg zg ho hv za hW ?_;intro w2 kS kx;have kH:X (Bk w2 g W (upR G n (i+1) (fun j=>dg m (k-1-j)))):=(by show Bk _ _ _ _;rw [<- HU.out];exact kS);have jv:X (Only (· = g) w w2):=(d8.out.alloc _).trans kx;clear kS kx hv ho)
    exact⟨⟨i+1,1,za,rfl,rfl,kH,jv⟩,by simp [intOf]⟩
   ·have hv:=cQ wr (x:=(m:Int) / 65536 % 256) (u:=dg m 2) (by rw [aP];simp <;> omega);have ho:=em.out.below (bal wr (T #[J d ((m:Int) / 65536 % 256)] 5));have HU:X (upR (upR G n i (fun j=>dg m (k-1-j))) (n+i) 1 (fun _=>dg m 2)=upR G n (i+1) (fun j=>dg m (k-1-j))):=cK (by rw [show k-1-i=2 by omega]);go_wp2_with (at_builtin;refine aV zg (C 11) (C 17) zg g (n+i) 1 W 1 (Y ⟨wr.heap.size,0,U⟩) _ _ zg zg ho hv za hW ?_;intro w2 kS kx;have kH:X (Bk w2 g W (upR G n (i+1) (fun j=>dg m (k-1-j)))):=(by show Bk _ _ _ _;rw [<- HU.out];exact kS);have jv:X (Only (· = g) w w2):=(d8.out.alloc _).trans kx;clear kS kx hv ho)
    exact⟨⟨i+1,2,za,rfl,rfl,kH,jv⟩,by simp [intOf]⟩
   ·have hv:=cQ wr (x:=(m:Int) / 16777216) (u:=dg m 3) (by rw [aP];simp <;> omega);have ho:=em.out.below (bal wr (T #[J d ((m:Int) / 16777216)] 5));have HU:X (upR (upR G n i (fun j=>dg m (k-1-j))) (n+i) 1 (fun _=>dg m 3)=upR G n (i+1) (fun j=>dg m (k-1-j))):=cK (by rw [show k-1-i=3 by omega]);go_wp2_with (at_builtin;refine aV zg (C 11) (C 17) zg g (n+i) 1 W 1 (Y ⟨wr.heap.size,0,U⟩) _ _ zg zg ho hv za hW ?_;intro w2 kS kx;have kH:X (Bk w2 g W (upR G n (i+1) (fun j=>dg m (k-1-j)))):=(by show Bk _ _ _ _;rw [<- HU.out];exact kS);have jv:X (Only (· = g) w w2):=(d8.out.alloc _).trans kx;clear kS kx hv ho)
    exact⟨⟨i+1,3,za,rfl,rfl,kH,jv⟩,by simp [intOf]⟩
  ·obtain rfl:t=0:=za;obtain rfl:i=k:=za;go_wp2;go_ret;exact⟨rfl,em.out,d8.out⟩
def hdB (A D n:Nat) (j:Nat):UInt8:=if j<4 then dg A (3-j) else if j<5 then dg D 0 else dg n (6-j)
theorem DS(F:Nat->UInt8)(A D n j:Nat)(hj:j<7):upR (upR (upR F 0 4 (fun i=>dg A (4-1-i))) (0+4) 1 (fun i=>dg D (1-1-i))) (0+4+1) 2 (fun i=>dg n (2-1-i)) j=hdB A D n j:=by
 unfold hdB;by_cases h4:j<4
 ·rw [aw za,aw za,aE za,zk h4,show 4-1-(j-0)=3-j by omega]
 ·by_cases h5:j<5
  ·obtain rfl:j=4:=za;rw [aw za,aE za,zl h4,zk h5]
  ·rw [aE za,zl h4,zl h5,show 2-1-(j-(0+4+1))=6-j by omega]
theorem lj(w:z)(A D n rc:Nat)(ro:Option Addr)(hA:A<4294967296)(hD:D<4294967296)(hn:n<4294967296):
  Calls S 166 #[I U 0 0,.agg #[J O (A:Int),J O (D:Int),I ro n rc]] w fun e w'=>∃ uo uc,e=f (I uo 7 uc)/\OwU w.heap.size w' uo 7 uc (hdB A D n)/\b7 w w':=by
 obtain⟨w0,bi⟩:=fd (w.alloc (T #[J O (A:Int),J O (D:Int),I ro n rc] 60))
 have b0:=jt bi
 have x0:=ae bi (l _ _) 0 rfl;go_enter Tryz.func166,Tryz.ntmps166
 go_wp2_with fail
 rw [<- bi];refine(bZ w0 w0.heap.size U 0 0 A 4 (fun _=>0) (cE _ _ _) (Nat.le_refl _) za za hA).mono ?_;rintro e wa ⟨u1,c1,rfl,h1,ha⟩;have x1:=ae bi ha 1 rfl;go_wp2_with fail
 refine(bZ wa w0.heap.size u1 4 c1 D 1 _ h1 ha.size za za hD).mono ?_;rintro e wb ⟨u2,c2,rfl,h2,hb⟩;have k2:=ha.trans hb;have x2:=ae bi k2 2 rfl;go_wp2_with fail
 refine(bZ wb w0.heap.size u2 5 c2 n 2 _ h2 k2.size za za hn).mono ?_;rintro e wc ⟨u3,c3,rfl,h3,hc⟩;go_wp2_with fail
 go_ret;exact⟨u3,c3,rfl,(h3.congr fun j hj=>DS _ _ _ _ _ hj).mono b0.size,ag b0 (k2.trans hc) b0.size⟩
def stg (hn:Nat) (H:Nat->UInt8) (i:Nat) (R V:Nat->Int) (j:Nat):UInt8:=if j<hn then H j else lfB i R V (j-hn)
theorem wS(hn:Nat)(H:Nat->UInt8)(i:Nat)(R V:Nat->Int):upR (upR (stg hn H i R V) (hn+6*i) 2 (fun t=>dg (R i).toNat (2-1-t))) (hn+6*i+2) 4 (fun t=>dg (V i).toNat (4-1-t))=stg hn H (i+1) R V:=by
 funext j
 unfold stg lfB;by_cases h1:hn+6*i<=j/\j<hn+6*i+2
 ·rw [aw za,aE h1,zl za,zk za];have:=tp (R:=R) (V:=V) (i:=i) (t:=j-(hn+6*i)) za;rw [show 6*i+(j-(hn+6*i))=j-hn by omega] at this;exact this.symm
 ·by_cases h2:hn+6*i+2<=j/\j<hn+6*i+2+4
  ·rw [aE h2,zl za,zk za];have:=sO (R:=R) (V:=V) (i:=i) (t:=j-(hn+6*i+2)) za;rw [show 6*i+2+(j-(hn+6*i+2))=j-hn by omega] at this;exact this.symm
  ·rw [aw h2,aw h1];by_cases h3:j<hn
   ·rw [zk h3,zk h3]
   ·rw [zl h3,zl h3];by_cases h4:j-hn<6*i
    ·rw [zk h4,zk za]
    ·rw [zl h4,zl za]
theorem pT(W:Nat)(hW:W<=5000)(w:z):(Instr.makeSlice 36 (J O 0) (J O (W:Int))).run S w=.ok (I (Y ⟨w.heap.size,0,U⟩) 0 W) (w.alloc (T (byF W (fun _=>0)).toArray 5)):=by
 obtain⟨j0,hj,kE,kB,kt⟩:=info_parts bU;have:=run_make (P:=S) w 36 5 j0 _ Tryz.underlying36 hj kE O O 0 (W:Int) za za (by rw [kt];omega) za;rw [p,kB,Nat.mul_one] at this;rw [this,<- im];rfl
theorem mQ{k r c q:Int}{N W:Nat}{y:Int}(h:Par k r c q N W y)(w:z)(ho:Option Addr)(hn hc:Nat)(H:Nat->UInt8)(hH:Bec w ho hn hc H)(ro:Option Addr)(n rc:Nat)(R V:Nat->Int)(hR:Rec w ro n rc R V)(xB:hn+6*n<=W)(hok:∀ i,i<n->(0<=R i/\R i<4294967296)/\0<=V i/\V i<4294967296):
  Calls S 165 #[Pz k r c q,I ho hn hc,I ro n rc] w fun e w'=>∃ g,e=f (I (Y ⟨g,0,U⟩) W W)/\Bk w' g W (stg hn H n R V)/\w.heap.size<=g/\b7 w w':=by
 have HW:=fun w=>fT h w;have hW:=h.wide;have HH:=am hH;have HR:=am hR;have HK:X (∀ i,i<n->∃ ri vi:Nat,R i=(ri:Int)/\V i=(vi:Int)/\ri<4294967296/\vi<4294967296):=fun i hi=>⟨(R i).toNat,(V i).toNat,by have:=hok i hi;omega,by have:=hok i hi;omega,by have:=hok i hi;omega,by have:=hok i hi;omega⟩
 have HS:X (∀ i,upR (upR (stg hn H i R V) (hn+6*i) 2 (fun t=>dg (R i).toNat (2-1-t))) (hn+6*i+2) 4 (fun t=>dg (V i).toNat (4-1-t))=stg hn H (i+1) R V):=fun i=>wS hn H i R V;have Ix:X (∀ j,j<W->upR (fun _=>0) 0 hn H j=stg hn H 0 R V j):=fun j hj=>by
  unfold stg lfB;by_cases hl:j<hn
  ·rw [aE za,zk hl];rfl
  ·rw [aw za,zl hl,zl za]
 obtain⟨Z,hZ⟩:=fd ((byF W (fun _=>0)).toArray)
 have hmk:=pT W za;rw [<- hZ] at hmk;have HZ:X (∀ w:z,Bk (w.alloc (T Z 5)) w.heap.size W (fun _=>0)):=fun w=>by unfold Bk;rw [hZ];exact heap_alloc_new w _
 clear h hH hR hok hZ;obtain⟨w0,bi⟩:=jM w k r c q
 have b0:=jt bi
 go_enter Tryz.func165,Tryz.ntmps165
 go_wp2_with fail
 rw [<- bi];refine(HW _).mono ?_;rintro e wa ⟨rfl,ha⟩;have k1:=ap b0 ha;have EN:=HZ.out wa;have k2:b7 w (wa.alloc (T Z 5)):=k1.alloc k1.size _;have Lt:=HH.out.below k2;have NR:w.heap.size<=wa.heap.size:=k1.size;clear bi b0 ha;go_wp2_with (at_builtin;refine aV zg (C 18) (C 19) zg wa.heap.size 0 hn W hc ho (fun _=>0) H zg zg EN Lt za za ?_;intro wb ko jP;have jZ:=am (ko.congr Ix.out);have jv:X (b7 w wb):=(k2.trans (jP.below (B:=w.heap.size) (fun i e=>by rw [e];exact NR) k2.size));clear ko jP EN Lt k2)
 generalize hgg:wa.heap.size=g at *
 have HG:=am NR;clear NR hgg k1 hmk HZ Ix;go_loopw [9,23] (fun y x wr=>∃ i:Nat,i<=n/\x=J O (i:Int)/\y=I (Y ⟨g,0,U⟩) (hn+6*i) W/\X (Bk wr g W (stg hn H i R V))/\X (b7 w wr)) (fun _ x _=>n-(intOf x).toNat)
 case atStart=>exact⟨0,Nat.zero_le _,rfl,rfl,jZ,jv⟩
 case round =>
  obtain⟨i,hi,rfl,rfl,EN,d8⟩:=hrel;by_cases hlt:i<n
  ·obtain⟨b,off,rfl,jI⟩:=(HR.out.below d8.out).rd za;obtain⟨q0,q1⟩:=jI i hlt;obtain⟨ri,vi,e1,e2,l1,l2⟩:=HK.out i hlt;rw [e1] at q0;rw [e2] at q1;have hst:=HS.out i;rw [e1,e2,p,p] at hst;have D1:=am hst;obtain⟨v,hv⟩:=fd (wr.alloc (T #[J O (ri:Int),J O (vi:Int)] 71))
   have bv:=jt hv
   have Jo:=am (ae hv (l _ _) 1 rfl);have F6:=EN.out.lt;have i1:(0:Int)<=(i:Int):=za;have i2:(i:Int)<(n:Int):=za;clear jI hst e1 e2;go_wp2_with fail
   rw [<- hv];clear hv;refine(dj v g (hn+6*i) W ri 2 _ (EN.out.below bv) za za za l1).mono ?_;rintro e wc ⟨rfl,h1,o1⟩;have x1:=o1.cell Jo.out (fun e=>by have:wr.heap.size=g:=e;omega);go_wp2_with fail
   refine(dj wc g (hn+6*i+2) W vi 4 _ h1 za za za l2).mono ?_;rintro e wd ⟨rfl,h2,o2⟩;have m9:X (Bk wd g W (stg hn H (i+1) R V)):=by show Bk _ _ _ _;rw [<- D1.out];exact h2
   have qj:X (b7 w wd):=by
    have s1:=ag d8.out bv d8.out.size;have s2:=HG.out;exact s1.trans ((o1.trans o2).below (fun t e=>by rw [e];exact s2) s1.size)
   clear h1 h2 o1 o2 x1;go_wp2_with fail
   exact⟨⟨i+1,za,by go_num,by rw [show hn+6*(i+1)=hn+6*i+2+4 by omega],m9,qj⟩,by simp [intOf];omega⟩
  ·obtain rfl:i=n:=za;go_wp2;go_ret;exact⟨g,rfl,EN.out,HG.out,d8.out⟩
theorem ed{E:Int}(h:E ≠ 0)(n:Nat):aK E n=0:=zl h
def AnsB (w:z) (E:Int) (W:Nat) (G:Nat->UInt8) (e:Ending) (w':z):Prop :=
  ∃ ao cp,e=.returned (.tuple #[.slice ao (aK E W) cp,.int .i64 E])/\OwU w.heap.size w' ao (aK E W) cp G/\b7 w w'
theorem vC{len gt:Int}{n:Nat}{R V:Nat->Int}(j:Nat):stg 7 (hdB len.toNat gt.toNat n) n R V j=deB len gt n R V j:=by
 unfold stg hdB deB;by_cases h4:j<4
 ·rw [zk za,zk h4,zk h4]
 ·by_cases h5:j<5
  ·rw [zk za,zl h4,zl h4,zk h5,zk h5]
  ·by_cases h7:j<7
   ·rw [zk h7,zl h4,zl h4,zl h5,zl h5,zk h7]
   ·rw [zl h7,zl h4,zl h5,zl h7]
theorem nQ{q:Int}{n:Nat}{R V:Nat->Int}(hq:q<=256)(h:okL q n R V=true):∀ i,i<n->(0<=R i/\R i<4294967296)/\0<=V i/\V i<4294967296:=fun i hi=>by
 have:=vW (ie h i hi);omega
theorem Bytes_any{k r c q:Int}{N W:Nat}{y:Int}(h:Par k r c q N W y)(w:z)(len gt:Int)(ro:Option Addr)(n rc:Nat)(R V:Nat->Int)(hR:Rec w ro n rc R V)(E:Int)(hE:erD y W q len gt n R V=E):
  Calls S 100 #[Pz k r c q,.agg #[J O len,J O gt,I ro n rc]] w (AnsB w E W (deB len gt n R V)):=by
 have HC:=fun v hv=>pQ h v len gt ro n rc R V hv;rw [hE] at HC;have HR:=am hR;clear hR;unfold AnsB;obtain⟨w0,bi⟩:=jM w k r c q
 obtain⟨w1,ci⟩:=fd (w0.alloc (T #[J O len,J O gt,I ro n rc] 60))
 have b0:=jt bi
 have b1:=jt ci
 have z0:=ks bi
 have io:=am (ap b0 b1);have HP:X (∀ u,b7 w1 u->(u.cell? ⟨w.heap.size,0,U⟩=Y (J O k)/\u.cell? ⟨w.heap.size,1,U⟩=Y (J O r)/\u.cell? ⟨w.heap.size,2,U⟩=Y (J O c)/\u.cell? ⟨w.heap.size,3,U⟩=Y (J O q))/\u.cell? ⟨w.heap.size+1,0,U⟩=Y (J O len)/\u.cell? ⟨w.heap.size+1,1,U⟩=Y (J O gt)/\u.cell? ⟨w.heap.size+1,2,U⟩=Y (I ro n rc)):=fun u hu=>⟨ak bi (ap b1 hu),by rw [<- z0];exact⟨ae ci hu 0 rfl,ae ci hu 1 rfl,ae ci hu 2 rfl⟩⟩
 by_cases hz:E=0
 ·subst hz;obtain⟨rfl,hok⟩:=AO hE;obtain⟨qC,hW,yY,hq⟩:=h.fine;obtain⟨g1,g2,g3,g4,g5⟩:=okD_few hW hok;have EO:=dX hW;have Lu:=dP yY;have HS:=fun v ho hc hv=>mQ h v ho 7 hc (hdB len.toNat gt.toNat n) hv ro n rc R V;have HN:=am (nQ hq g5);have HH:=fun v=>lj v len.toNat gt.toNat n rc ro za za za;rw [show ((len.toNat:Nat):Int)=len by omega,show ((gt.toNat:Nat):Int)=gt by omega] at HH;rw [aQ];have HG:X (∀ j,stg 7 (hdB len.toNat gt.toNat n) n R V j=deB len gt n R V j):=fun j=>vC j;have xB:7+6*n<=W:=za
  clear h hE hok g1 g2 g3 g4 g5 EO Lu qC;generalize hdB len.toNat gt.toNat n=HD at *
  go_enter Tryz.func100,Tryz.ntmps100
  go_wp2_with fail
  rw [<- bi,<- ci];refine(HC _ (HR.out.rd.below io.out)).mono ?_;rintro e wa ⟨rfl,ha⟩;obtain⟨⟨p0,p1,p2,p3⟩,d0,d1,d2⟩:=HP.out _ ha;have jZ:=am ha;clear bi ci z0 b0 b1 ha;go_wp2_with fail
  have HT:=am fun v (hv:L wa.drew.heap.size wa.drew v)=>ap jZ.out (aG hv);go_region_held3 (fun u=>(u.cell? ⟨w.heap.size,0,U⟩=Y (J O k)/\u.cell? ⟨w.heap.size,1,U⟩=Y (J O r)/\u.cell? ⟨w.heap.size,2,U⟩=Y (J O c)/\u.cell? ⟨w.heap.size,3,U⟩=Y (J O q))/\u.cell? ⟨w.heap.size+1,0,U⟩=Y (J O len)/\u.cell? ⟨w.heap.size+1,1,U⟩=Y (J O gt)/\u.cell? ⟨w.heap.size+1,2,U⟩=Y (I ro n rc)) (go_keep)
   ((first
    | (go_at_call 166;refine(HH _).mono ?_;rintro e wb ⟨uo,uc,rfl,hu,hb⟩;obtain⟨⟨q0,q1,q2,q3⟩,e0,e1,e2⟩:=HP.out _ (HT.out _ hb))
    | (go_at_call 165;refine(HS _ _ _ (hu.bec) (HR.out.below (ap io.out (HT.out _ hb))) xB HN.out).mono ?_;rintro e wc ⟨g,rfl,hg,F6,hc⟩;obtain⟨⟨t0,t1,t2,t3⟩,f0,f1,f2⟩:=HP.out _ (ap (HT.out _ hb) hc))))
  all_goals (
   go_wp2;go_ret2;have hB:=ap io.out (ap (HT.out _ hb) hc);exact⟨Y ⟨g,0,U⟩,W,rfl,(hg.congr fun j _=>HG.out j).own (Nat.le_trans (ap io.out (HT.out _ hb)).size F6) za,hB⟩)
 ·have yP:(E != 0)=true:=by simpa using hz
  rw [ed hz];clear h hE hz;go_enter Tryz.func100,Tryz.ntmps100
  go_wp2_with fail
  rw [<- bi,<- ci];refine(HC _ (HR.out.rd.below io.out)).mono ?_;rintro e wa ⟨rfl,ha⟩;clear bi ci z0 b0 b1;go_wp2_with fail
  go_ret2;exact⟨U,0,rfl,cE _ _ _,ap io.out ha⟩
end Go.Proofs.YtemlojjkokooeaaGreat.De
