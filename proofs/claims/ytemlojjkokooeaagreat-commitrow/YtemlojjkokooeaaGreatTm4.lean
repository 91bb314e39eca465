import Derived.Test.YtemlojjkokooeaaGreatTm3
open Go.Value renaming slice->J,int->O,agg->d
open Go.IntKind renaming i64->I
open Nat renaming le_refl->Y,zero_le->C
open Option renaming none->Z,some->X
open Go renaming World->U,Addr->L
open Go.RowKit renaming Below->D,Hid->P
open Go.Proofs.Tryz renaming prog->H
open Int renaming toNat_natCast->T
open Bool renaming true->S
open Go.Ending renaming returned->A
set_option maxHeartbeats 16000000
set_option maxRecDepth 100000
namespace Go.Proofs.YtemlojjkokooeaaGreat
open Go.RowKit
theorem aG{w v:U}(h:D w.drew.heap.size w.drew v):b7 w v:=ap (bdw _ _) h
theorem Par.sum{k r c q:Int}{N W:Nat}(h:Par k r c q N W 0):(N:Int)=k+r:=by
 rcases h with ⟨_,_,h0,_⟩ | ⟨_,_,_,h1⟩
 ·exact h0
 ·cases h1
theorem Par.may{k r c q:Int}{N W:Nat}{e:Int}(h:Par k r c q N W e):may k r c q=decide (e=0):=by
 rcases h with ⟨h,_,_,rfl⟩ | ⟨h,_,_,rfl⟩
 ·rw [h];rfl
 ·rw [h];rfl
theorem dg4(m:Nat):((dg m 3).toNat=m / 16777216 % 256/\(dg m 2).toNat=m / 65536 % 256)/\(dg m 1).toNat=m / 256 % 256/\(dg m 0).toNat=m % 256:=by
 rw [aP,aP,aP,aP];simp
end Go.Proofs.YtemlojjkokooeaaGreat
namespace Go.Proofs.YtemlojjkokooeaaGreat.De
theorem bY(F:Nat->UInt8)(a o k:Nat):nm (fun j=>F (a+j)) o k=nm F (a+o) k:=fK fun i _=>by rw [Nat.add_assoc]
theorem vY(F:Nat->UInt8)(o:Nat)(t:Nat):∀ k,nm F o (t+k) / 256 ^ k=nm F o t
 | 0=>by simp
 | k+1=>by
  have h2:(F (o+(t+k))).toNat<256:=(F (o+(t+k))).toNat_lt;rw [<- vY F o t k,show t+(k+1)=(t+k)+1 by omega,nm,Nat.pow_succ,Nat.mul_comm (256 ^ k),<- Nat.div_div_eq_div_mul,show (nm F o (t+k)*256+(F (o+(t+k))).toNat) / 256=nm F o (t+k) by omega]
theorem nz(F:Nat->UInt8)(o k i:Nat)(hi:i<k):dg (nm F o k) (k-1-i)=F (o+i):=by
 apply UInt8.toNat_inj.1
 have h:=vY F o (i+1) (k-1-i);rw [show i+1+(k-1-i)=k by omega] at h;have h2:(F (o+i)).toNat<256:=(F (o+i)).toNat_lt;rw [aP,h,nm];omega
def okR (q a v:Int):Bool:=decide (0<=a/\a<q/\1<=v/\v<=1073741824)
theorem vW{q a v:Int}(h:okR q a v=S):0<=a/\a<q/\1<=v/\v<=1073741824:=of_decide_eq_true h
def okL (q:Int) (n:Nat) (R V:Nat->Int):Bool:=decide (∀ i,i<n->okR q (R i) (V i)=S)
theorem ie{q:Int}{n:Nat}{R V:Nat->Int}(h:okL q n R V=S):∀ i,i<n->okR q (R i) (V i)=S:=of_decide_eq_true h
theorem CZ(q:Int)(n:Nat)(R V:Nat->Int):bp n (fun i=>!okR q (R i) (V i))=!okL q n R V:=by
 unfold bp okL;congr 1
 apply decide_eq_decide.2
 constructor
 ·intro h i hi;have h2:(!okR q (R i) (V i))=false:=h i hi
  simpa using h2
 ·intro h i hi;show (!okR q (R i) (V i))=false;rw [h i hi];rfl
def rL (W s:Nat):Nat:=if lvs W s=0 then s else lvs W s
def dpt (W s:Nat):Nat:=min (lvs W s) 1
def okD (W:Nat) (q len gt:Int) (n:Nat) (R V:Nat->Int):Bool :=
  decide (0<=len/\len<=(mst W:Int)/\gt=((dpt W (up len.toNat W):Nat):Int)/\n=rL W (up len.toNat W)/\okL q n R V=S)
theorem wM{W:Nat}{q len gt:Int}{n:Nat}{R V:Nat->Int}(h:okD W q len gt n R V=S):0<=len/\len<=(mst W:Int)/\gt=((dpt W (up len.toNat W):Nat):Int)/\n=rL W (up len.toNat W)/\okL q n R V=S:=of_decide_eq_true h
theorem nC{W len:Nat}(h:32<=W)(hl:len<=mst W):rL W (up len W)<=dir W:=by
 unfold rL;split
 ·rename_i h0
  have:=(BX (s:=up len W) h)
  omega
 ·exact Nat.le_trans (wj (sD hl)) (Cg h)
theorem dX{W:Nat}(h:32<=W):7+6*dir W<=W:=by unfold dir;omega
theorem okD_few{W:Nat}{q len gt:Int}{n:Nat}{R V:Nat->Int}(hW:32<=W)(h:okD W q len gt n R V=S):n<=dir W/\len.toNat<=32768/\0<=len/\(gt=0\/gt=1)/\okL q n R V=S:=by
 obtain⟨h1,h2,h3,h4,h5⟩:=wM h;have hm:=cq W;refine⟨by rw [h4];exact nC hW za,za,h1,?_,h5⟩;rw [h3];unfold dpt;omega
def rfB (R V:Nat->Int) (j:Nat):UInt8:=if j % 6<2 then dg (R (j / 6)).toNat (1-j % 6) else dg (V (j / 6)).toNat (5-j % 6)
def lfB (n:Nat) (R V:Nat->Int) (j:Nat):UInt8:=if j<6*n then rfB R V j else 0
def deB (len gt:Int) (n:Nat) (R V:Nat->Int) (j:Nat):UInt8:=if j<4 then dg len.toNat (3-j) else if j<5 then dg gt.toNat 0 else if j<7 then dg n (6-j) else lfB n R V (j-7)
theorem tp{R V:Nat->Int}{i t:Nat}(ht:t<2):rfB R V (6*i+t)=dg (R i).toNat (2-1-t):=by
 unfold rfB;rw [zk za,show (6*i+t) / 6=i by omega,show (6*i+t) % 6=t by omega]
theorem sO{R V:Nat->Int}{i t:Nat}(ht:t<4):rfB R V (6*i+2+t)=dg (V i).toNat (4-1-t):=by
 unfold rfB;rw [zl za,show (6*i+2+t) / 6=i by omega,show (6*i+2+t) % 6=2+t by omega,show 5-(2+t)=4-1-t by omega]
def rdR (F:Nat->UInt8) (o i:Nat):Int:=((nm F (o+6*i) 2:Nat):Int)
def rdV (F:Nat->UInt8) (o i:Nat):Int:=((nm F (o+6*i+2) 4:Nat):Int)
theorem Em(F:Nat->UInt8)(o j:Nat):rfB (rdR F o) (rdV F o) j=F (o+j):=by
 unfold rfB rdR rdV;by_cases h:j % 6<2
 ·rw [zk h,T,show 1-j % 6=2-1-j % 6 by omega,nz F _ 2 (j % 6) h,show o+6*(j / 6)+j % 6=o+j by omega]
 ·rw [zl h,T,show 5-j % 6=4-1-(j % 6-2) by omega,nz F _ 4 (j % 6-2) za,show o+6*(j / 6)+2+(j % 6-2)=o+j by omega]
def isD (W:Nat) (q:Int) (F:Nat->UInt8):Bool:=decide (okD W q ((nm F 0 4:Nat):Int) ((nm F 4 1:Nat):Int) (nm F 5 2) (rdR F 7) (rdV F 7)=S/\∀ j,j<W->7+6*nm F 5 2<=j->F j=0)
theorem isD_true{W:Nat}{q:Int}{F:Nat->UInt8}(h:isD W q F=S):okD W q ((nm F 0 4:Nat):Int) ((nm F 4 1:Nat):Int) (nm F 5 2) (rdR F 7) (rdV F 7)=S/\∀ j,j<W->7+6*nm F 5 2<=j->F j=0:=of_decide_eq_true h
theorem Er(F:Nat->UInt8)(j:Nat):deB ((nm F 0 4:Nat):Int) ((nm F 4 1:Nat):Int) (nm F 5 2) (rdR F 7) (rdV F 7) j=if j<7+6*nm F 5 2 then F j else 0:=by
 unfold deB;rw [T,T];by_cases h4:j<4
 ·rw [zk h4,zk za,show 3-j=4-1-j by omega,nz F 0 4 j h4,Nat.zero_add]
 rw [zl h4];by_cases h5:j<5
 ·obtain rfl:j=4:=za;rw [zk h5,zk za];exact nz F 4 1 0 za
 rw [zl h5];by_cases h7:j<7
 ·rw [zk h7,zk za,show 6-j=2-1-(j-5) by omega,nz F 5 2 (j-5) za,show 5+(j-5)=j by omega]
 rw [zl h7];unfold lfB;by_cases h:j<7+6*nm F 5 2
 ·rw [zk h,zk za,Em,show 7+(j-7)=j by omega]
 ·rw [zl h,zl za]
def erD (y:Int) (W:Nat) (q len gt:Int) (n:Nat) (R V:Nat->Int):Int:=if y=0 then (if okD W q len gt n R V=S then 0 else 150) else y
def erB (y:Int) (W:Nat) (q:Int) (m:Nat) (F:Nat->UInt8):Int:=if y=0 then (if m=W then (if isD W q F=S then 0 else 150) else 20) else y
theorem AO{y:Int}{W:Nat}{q len gt:Int}{n:Nat}{R V:Nat->Int}(h:erD y W q len gt n R V=0):y=0/\okD W q len gt n R V=S:=by
 unfold erD at h;by_cases hy:y=0
 ·rw [zk hy] at h;by_cases ho:okD W q len gt n R V=S
  ·exact⟨hy,ho⟩
  ·rw [zl ho] at h;cases h
 ·rw [zl hy] at h;exact absurd h hy
open Go.RowKit
theorem au{w:U}{pm:Array Oper}{kg:List Oper}{o:Oper}{a:Act}{Q:Exit->Act->U->Prop}(qN:o.guard=Z)(s x:Operand)
  (ho:o.op=.call { callee:=.builtin .append,args:=#[s,x],argTypes:=#[36,36]}) (B k n ca cb:Nat) (ao bo:Option L) (F G:Nat->UInt8)
  (hs:a.eval s=J ao k ca) (hx:a.eval x=J bo n cb) (h:OwU B w ao k ca F) (hv:Bec w bo n cb G) (hk:k+n<=140737488355328) (hB:B<=w.heap.size)
  (kP:∀ g6 c' w',OwU B w' g6 (k+n) c' (upR F k n G)->w.grownBy w' (Value.slice ao k ca).ownBlock->wpList H pm Q kg (a.put o.dst (J g6 (k+n) c')) w'):wpList H pm Q (o :: kg) a w:=by
 obtain⟨j0,hj,kE,kB,kt⟩:=info_parts bU;have hl:byF k F ++ byF n G=byF (k+n) (upR F k n G):=by
  rw [gR,bB (F:=upR F k n G) (G:=F) (fun i hi=>aw za),bB (F:=fun i=>upR F k n G (k+i)) (G:=G) (fun i hi=>by rw [aE za,show k+i-k=i by omega])]
 cases bo with
 | none =>
  obtain⟨rfl,rfl⟩:=hv.nil rfl;have:=kP ao ca w (by refine OwU.congr h fun i hi=>(aw za).symm) ⟨rfl,rfl,rfl,Y _,fun _ _ _=>rfl⟩;exact wpList_append_own_none qN s x 36 ho B 5 j0 1 Tryz.underlying36 hj (J ao k ca) k (byF k F) hs h hx this
 | some ad =>
  refine wpList_append_own w qN s x 36 ho B 5 j0 (O .u8 0) 1 1 Tryz.underlying36 hj kE kB kt rfl zb (J ao k ca) k (byF k F) hs h ad n cb (byF n G) hx (by rw [ai,Nat.mul_one]) (dF hv) (dU _ _) (by unfold maxLen;omega) za hB ?_;intro v' w' h1 h2 _;obtain⟨g6,c',rfl⟩:∃ g6 c',v'=J g6 (k+n) c':=by
   rcases h1.2 with ⟨rfl,e⟩ | ⟨g,b8,jw,rfl,_⟩
   ·rw [e];exact⟨Z,0,rfl⟩
   ·exact⟨_,b8,rfl⟩
  rw [hl] at h1;exact kP g6 c' w' h1 h2
theorem cZ{B:Nat}{w:U}{ao:Option L}{n b8:Nat}{F:Nat->UInt8}(h:OwU B w ao n b8 F):∀ g,(Value.slice ao n b8).ownBlock=X g->B<=g:=fun g hg=>(World.ownsRow.lt h g hg).1
def RdR (w:U) (ao:Option L) (n:Nat) (R V:Nat->Int):Prop :=
  0<n->∃ b off,ao=X ⟨b,off,Z⟩/\∀ i,i<n->w.cell? ⟨b,off+i*2,Z⟩=X (.int .i64 (R i))/\w.cell? ⟨b,off+i*2+1,Z⟩=X (.int .i64 (V i))
theorem RdR.below{w w':U}{ao:Option L}{n:Nat}{R V:Nat->Int}(h:RdR w ao n R V)(ho:b7 w w'):RdR w' ao n R V:=by
 intro hn;obtain⟨b,off,rfl,hc⟩:=h hn;exact⟨b,off,rfl,fun i hi=>⟨held (hc i hi).1 ho,held (hc i hi).2 ho⟩⟩
structure Rec (w:World) (ao:Option Addr) (n b8:Nat) (R V:Nat->Int):Prop where
  rd:RdR w ao n R V
  nil:ao=none->n=0/\b8=0
  room:n<=b8
theorem Rec.below{w w':U}{ao:Option L}{n b8:Nat}{R V:Nat->Int}(h:Rec w ao n b8 R V)(ho:b7 w w'):Rec w' ao n b8 R V:=⟨h.rd.below ho,h.nil,h.room⟩
theorem rec_nil(w:U)(R V:Nat->Int):Rec w Z 0 0 R V:=⟨fun h=>absurd h (Nat.lt_irrefl 0),fun _=>⟨rfl,rfl⟩,Y _⟩
def rvl (R V:Nat->Int):Nat->List Value
  | 0=>[]
  | n+1=>rvl R V n ++ [.int .i64 (R n),.int .i64 (V n)]
theorem cw(R V:Nat->Int)(n:Nat):(rvl R V n).length=n*2:=by
 induction n with
 | zero=>rfl
 | succ n ih=>rw [rvl,List.length_append,ih,Nat.succ_mul];rfl
theorem cT(R V:Nat->Int)(n i:Nat)(hi:i<n):(rvl R V n)[i*2]? = X (O I (R i))/\(rvl R V n)[i*2+1]? = X (O I (V i)):=by
 induction n with
 | zero=>omega
 | succ n ih =>
  have hl:=cw R V n;rw [rvl];by_cases h:i<n
  ·rw [List.getElem?_append_left za,List.getElem?_append_left za];exact ih h
  ·obtain rfl:i=n:=za;rw [List.getElem?_append_right za,List.getElem?_append_right za,hl,Nat.sub_self,show i*2+1-i*2=1 by omega];exact⟨rfl,rfl⟩
theorem Cb(R V:Nat->Int)(n:Nat):∀ v ∈ rvl R V n,v.oneCell'=S:=by
 induction n with
 | zero=>intro v hv;cases hv
 | succ n ih =>
  intro v hv;rw [rvl,List.mem_append] at hv;rcases hv with hv | hv
  ·exact ih v hv
  ·simp at hv;rcases hv with rfl | rfl <;> rfl
theorem tP{R V R' V':Nat->Int}{n:Nat}(h:∀ i,i<n->R i=R' i/\V i=V' i):rvl R V n=rvl R' V' n:=by
 induction n with
 | zero=>rfl
 | succ n ih=>rw [rvl,rvl,ih (fun i hi=>h i za),(h n za).1,(h n za).2]
theorem Df{R V:Nat->Int}{n:Nat}{l:List Value}(hl:l.length=n*2)(h:∀ i,i<n->l[i*2]? = X (O I (R i))/\l[i*2+1]? = X (O I (V i))):l=rvl R V n:=by
 apply List.ext_getElem?
 intro j;by_cases hj:j<n*2
 ·obtain⟨i,hi⟩:=fd (j / 2)
  rcases (show j=i*2\/j=i*2+1 by omega) with e | e
  ·rw [e,(h i za).1,(cT R V n i za).1]
  ·rw [e,(h i za).2,(cT R V n i za).2]
 ·rw [List.getElem?_eq_none za,List.getElem?_eq_none (by rw [cw];omega)]
def OwR (B:Nat) (w:U) (ao:Option L) (n b8:Nat) (R V:Nat->Int):Prop:=w.ownsRow B 71 2 (.slice ao n b8) n (rvl R V n)
theorem owr_nil(B:Nat)(w:U)(R V:Nat->Int):OwR B w Z 0 0 R V:=World.ownsRow_nil _ _ _ _
theorem OwR.congr{B:Nat}{w:U}{ao:Option L}{n b8:Nat}{R V R' V':Nat->Int}(h:OwR B w ao n b8 R V)(e:∀ i,i<n->R i=R' i/\V i=V' i):OwR B w ao n b8 R' V':=by
 unfold OwR at *;rw [<- tP e];exact h
theorem OwR.rec{B:Nat}{w:U}{ao:Option L}{n b8:Nat}{R V:Nat->Int}(h:OwR B w ao n b8 R V):Rec w ao n b8 R V:=by
 have h0:=h;rcases h.2 with ⟨h1,h2⟩ | ⟨g,jy,jw,h1,_,_,h4,_⟩
 ·cases h1;exact rec_nil _ _ _
 ·cases h1
  refine⟨fun hp=>⟨g,0,rfl,fun i hi=>?_⟩,(fun e=>by cases e),h4⟩;have c0:=World.ownsRow.cells h0 (g:=g) rfl (i*2) _ (cT R V n i hi).1;have c1:=World.ownsRow.cells h0 (g:=g) rfl (i*2+1) _ (cT R V n i hi).2;rw [Addr.add_lit] at c0 c1;exact⟨c0,c1⟩
theorem OwR.stay{B:Nat}{w w':U}{ao:Option L}{n b8:Nat}{R V:Nat->Int}(h:OwR B w ao n b8 R V)(hb:∀ g,B<=g->g<w.heap.size->w'.heap[g]? = w.heap[g]?):OwR B w' ao n b8 R V:=by
 refine⟨h.1,?_⟩;rcases h.2 with h1 | ⟨g,jy,jw,h1,h2,h3,h4⟩
 ·exact .inl h1
 ·exact .inr ⟨g,jy,jw,h1,h2,by rw [hb g h2 (Array.getElem?_eq_some_iff.1 h3).1];exact h3,h4⟩
theorem OwR.below{B:Nat}{w w':U}{ao:Option L}{n b8:Nat}{R V:Nat->Int}(h:OwR B w ao n b8 R V)(hb:b7 w w'):OwR B w' ao n b8 R V:=h.stay fun g _ hg=>hb.block g hg
theorem OwR.mono{B B':Nat}{w:U}{ao:Option L}{n b8:Nat}{R V:Nat->Int}(h:OwR B w ao n b8 R V)(hb:B'<=B):OwR B' w ao n b8 R V:=by
 refine⟨h.1,?_⟩;rcases h.2 with h1 | ⟨g,jy,jw,h1,h2,h3⟩
 ·exact .inl h1
 ·exact .inr ⟨g,jy,jw,h1,za,h3⟩
theorem OwR.at_{B:Nat}{w:U}{ao:Option L}{n b8:Nat}{R V:Nat->Int}(h:OwR B w ao n b8 R V)(hn:0<n):∃ g,ao=X ⟨g,0,Z⟩/\B<=g/\g<w.heap.size:=by
 rcases h.2 with ⟨_,h2⟩ | ⟨g,jy,jw,h1,h2,h3,h4⟩
 ·omega
 ·cases h1;exact⟨g,rfl,h2,(Array.getElem?_eq_some_iff.1 h3).1⟩
theorem OwR.free{B:Nat}{w:U}{g n b8:Nat}{R V:Nat->Int}(h:OwR B w (X ⟨g,0,Z⟩) n b8 R V)(i:Nat):w.frozen? ⟨g,i,Z⟩=false:=World.ownsRow.frozenAt h i
theorem OwR.cell{B:Nat}{w:U}{g n b8:Nat}{R V:Nat->Int}(h:OwR B w (X ⟨g,0,Z⟩) n b8 R V){i:Nat}(hi:i<n):w.cell? ⟨g,i*2,Z⟩=X (O I (R i))/\w.cell? ⟨g,i*2+1,Z⟩=X (O I (V i)):=by
 rw [World.ownsRow.cellAt h (i*2) za,World.ownsRow.cellAt h (i*2+1) za];exact cT _ _ _ _ hi
theorem wR:(Tryz.prog.info? 71).map (fun i=>(i.zero,i.size,i.bytes))=X (X (d #[O I 0,O I 0]),2,16):=zh
theorem im(n:Nat):madeCells #[Value.int .u8 0] n=(byF n (fun _=>0)).toArray:=by
 apply Array.ext'
 apply List.ext_getElem?
 intro i;by_cases hi:i<n
 ·rw [List.toList_toArray,aL _ _ _ hi];simp [madeCells,hi,Nat.mod_one]
 ·rw [List.getElem?_eq_none (by simp [madeCells];omega),List.getElem?_eq_none (by simp [ai];omega)]
theorem fi{w:U}{b off n cp k:Nat}{F:Nat->UInt8}(h:Bec w (X ⟨b,off,Z⟩) n cp F)(hk:k<=n):Bec w (X ⟨b,off+k,Z⟩) (n-k) (cp-k) (fun j=>F (k+j)):=by
 refine⟨fun hn=>?_,(fun e=>by cases e),by have:=h.room;omega⟩;obtain⟨b',qg,e,hc⟩:=h.rd za;cases e
 exact⟨b,off+k,rfl,fun j hj=>by rw [Nat.add_assoc];exact hc (k+j) za⟩
theorem bw(w:U)(ao:Option L)(n cp k:Nat)(F:Nat->UInt8)(h:Bec w ao n cp F)(hk:k<=n)(kD:1<=k)(A4:k<=4):
  Calls H 245 #[.slice ao n cp,.int .i64 (k:Int)] w fun e w'=>∃ bo,e=.returned (.tuple #[.int .i64 ((nm F 0 k:Nat):Int),.slice bo (n-k) (cp-k)])/\(∀ u,Bec u ao n cp F->Bec u bo (n-k) (cp-k) (fun j=>F (k+j)))/\D w.heap.size w w':=by
 obtain⟨b,off,rfl,hr⟩:=h.rd za;have HR:=am hr;have HB:P (∀ j,j<=k->nm F 0 j<4294967296):=fun j hj=>Nat.lt_of_lt_of_le (gj F 0 j) (by
  rcases (show j=0\/j=1\/j=2\/j=3\/j=4 by omega) with rfl | rfl | rfl | rfl | rfl <;> decide)
 have HS:P (∀ j,nm F 0 (j+1)=nm F 0 j*256+(F j).toNat):=fun j=>by show _=_;rw [nm,Nat.zero_add]
 have HL:P (∀ j,(F j).toNat<256):=fun j=>(F j).toNat_lt;have HX:=am h;have l8:=h.room;clear hr h;have k0:(0:Int)<=(k:Int):=za
 have k1:(k:Int)<=(cp:Int):=za;have k2:(k:Int)<=(n:Int):=za;by_cases hcap:cp=k
 ·obtain rfl:n=k:=za;subst hcap;go_enter Tryz.func245,Tryz.ntmps245
  go_wp2;go_loop [6,13] (fun y x=>∃ i:Nat,i<=cp/\x=.int .i64 (i:Int)/\∃ z:Nat,y=.int .i64 (z:Int)/\P (z=nm F 0 i)) (fun _ x=>cp-(intOf x).toNat)
  case atStart=>exact⟨0,C _,rfl,0,rfl,rfl⟩
  case round =>
   obtain⟨i,hi,rfl,z,rfl,hz⟩:=hrel;by_cases hlt:i<cp
   ·have ck:=HR.out i za;have hb:=HB.out i za;have hs:=HS.out i;have hl:=HL.out i;rw [<- hz.out] at hb hs;obtain⟨u,hu⟩:∃ u:Nat,(F i).toNat=u:=⟨_,rfl⟩
    rw [hu] at ck hs hl;have HN:=am hs;have Iu:bits .or .i64 ((z:Int)*256) (u:Int)=((z*256+u:Nat):Int):=by
     rw [show (z:Int)*256=((z*256:Nat):Int) by omega,fl _ _ za za,rW _ _ hl]
    have i1:(0:Int)<=(i:Int):=za;have i2:(i:Int)<(cp:Int):=za;clear hs hu hz;go_wp2;go_round
    case rel=>exact⟨i+1,za,by go_num,z*256+u,by go_num,HN.out.symm⟩
    case measure=>simp [intOf];omega
   ·obtain rfl:i=cp:=za;go_wp2_with fail
    go_quiet (fail)
    go_wp2;go_ret2;refine⟨X ⟨b,off,Z⟩,?_,?_,below_drewN _ _ _⟩
    ·rw [hz.out,Nat.sub_self];rfl
    ·intro u _;rw [Nat.sub_self];exact⟨fun h=>absurd h (Nat.lt_irrefl 0),(fun e=>by cases e),Y _⟩
 ·have Lq:¬ (k:Int)=(cp:Int):=za;go_enter Tryz.func245,Tryz.ntmps245
  go_wp2;go_loop [6,13] (fun y x=>∃ i:Nat,i<=k/\x=.int .i64 (i:Int)/\∃ z:Nat,y=.int .i64 (z:Int)/\P (z=nm F 0 i)) (fun _ x=>k-(intOf x).toNat)
  case atStart=>exact⟨0,C _,rfl,0,rfl,rfl⟩
  case round =>
   obtain⟨i,hi,rfl,z,rfl,hz⟩:=hrel;by_cases hlt:i<k
   ·have ck:=HR.out i za;have hb:=HB.out i za;have hs:=HS.out i;have hl:=HL.out i;rw [<- hz.out] at hb hs;obtain⟨u,hu⟩:∃ u:Nat,(F i).toNat=u:=⟨_,rfl⟩
    rw [hu] at ck hs hl;have HN:=am hs;have Iu:bits .or .i64 ((z:Int)*256) (u:Int)=((z*256+u:Nat):Int):=by
     rw [show (z:Int)*256=((z*256:Nat):Int) by omega,fl _ _ za za,rW _ _ hl]
    have i1:(0:Int)<=(i:Int):=za;have i2:(i:Int)<(k:Int):=za;clear hs hu hz;go_wp2;go_round
    case rel=>exact⟨i+1,za,by go_num,z*256+u,by go_num,HN.out.symm⟩
    case measure=>simp [intOf];omega
   ·obtain rfl:i=k:=za;go_wp2_with fail
    go_quiet (fail)
    go_wp2;go_ret2;exact⟨X ⟨b,off+i,Z⟩,by rw [hz.out];rfl,fun u hu=>fi hu hk,below_drewN _ _ _⟩
theorem pj(w:U)(ao:Option L)(n cp:Nat)(F:Nat->UInt8)(h:Bec w ao n cp F)(hn:6<=n):
  Calls H 304 #[J ao n cp] w fun e w'=>e=A (d #[O I ((nm F 0 2:Nat):Int),O I ((nm F 2 4:Nat):Int)])/\b7 w w':=by
 have HX:=am h;have HM:=am (bY F 2 0 4);clear h;obtain⟨w0,bi⟩:=fd (w.alloc (.cells #[O I 0,O I 0] 71))
 have b0:=jt bi
 go_enter Tryz.func304,Tryz.ntmps304
 go_wp2_with fail
 rw [<- bi];refine(bw _ ao n cp 2 F (HX.out.below b0) za za za).mono ?_;rintro e wa ⟨bo,rfl,D4,ha⟩;go_wp2_with fail
 refine(bw _ bo (n-2) (cp-2) 4 _ (D4 _ (HX.out.below (ap b0 ha))) za za za).mono ?_;rintro e wb ⟨co,rfl,Iv,hb⟩;have hB:=ap ha hb;have m0:=ae bi hB 0 rfl;have m1:=ae bi hB 1 rfl;have f:=aI bi hB;clear bi Iv D4;rw [HM.out];go_wp2_with fail
 refine bodyPost_ret (v:=d #[O I ((nm F 0 2:Nat):Int),O I ((nm F 2 4:Nat):Int)]) (by simp [results,Tryz.results304,go_sem,m0,m1]) rfl ⟨rfl,?_⟩;exact((ap b0 hB).setCell (Y _) _).setCell (Y _) _
def apI (k:Nat) (R R':Nat->Int):Nat->Int:=fun i=>if i<k then R i else R' (i-k)
theorem Cr(R V R' V':Nat->Int)(k n:Nat):rvl R V k ++ rvl R' V' n=rvl (apI k R R') (apI k V V') (k+n):=by
 have h1:=cw R V k;have h2:=cw R' V' n;refine Df (by rw [List.length_append,h1,h2];omega) fun i hi=>?_;unfold apI;by_cases h:i<k
 ·rw [List.getElem?_append_left za,List.getElem?_append_left za,zk h,zk h];exact cT R V k i h
 ·rw [List.getElem?_append_right za,List.getElem?_append_right za,h1,zl h,zl h,show i*2-k*2=(i-k)*2 by omega,show i*2+1-k*2=(i-k)*2+1 by omega];exact cT R' V' n (i-k) za
theorem Ag{w:U}{ad:L}{n b8:Nat}{R V:Nat->Int}(h:Rec w (X ad) n b8 R V):∀ j u,(rvl R V n)[j]? = X u->w.cell? (ad.add j)=X u:=by
 intro j u hu;have hl:=cw R V n;have hj:j<n*2:=db hl hu;obtain⟨b,off,e,hc⟩:=h.rd za;cases e
 rw [Addr.add_lit];obtain⟨i,hi⟩:=fd (j / 2)
 rcases (show j=i*2\/j=i*2+1 by omega) with e | e
 ·rw [e] at hu ⊢;rw [(cT R V n i za).1] at hu;rw [(hc i za).1];exact hu
 ·rw [e] at hu ⊢;rw [(cT R V n i za).2] at hu;rw [<- Nat.add_assoc,(hc i za).2];exact hu
theorem wpList_append_refs{w:U}{pm:Array Oper}{kg:List Oper}{o:Oper}{a:Act}{Q:Exit->Act->U->Prop}(qN:o.guard=Z)(s x:Operand)
  (ho:o.op=.call { callee:=.builtin .append,args:=#[s,x],argTypes:=#[58,58]}) (B k n ca cb:Nat) (ao bo:Option L) (R V R' V':Nat->Int)
  (hs:a.eval s=J ao k ca) (hx:a.eval x=J bo n cb) (h:OwR B w ao k ca R V) (hv:Rec w bo n cb R' V') (hk:k+n<=100000) (hB:B<=w.heap.size)
  (kP:∀ g6 c' w',OwR B w' g6 (k+n) c' (apI k R R') (apI k V V')->w.grownBy w' (Value.slice ao k ca).ownBlock->wpList H pm Q kg (a.put o.dst (J g6 (k+n) c')) w'):wpList H pm Q (o :: kg) a w:=by
 obtain⟨j0,hj,kE,kB,kt⟩:=info_parts wR;cases bo with
 | none =>
  obtain⟨rfl,rfl⟩:=hv.nil rfl;have:=kP ao ca w (by refine OwR.congr h fun i hi=>?_;have hi2:i<k:=hi;unfold apI;rw [zk hi2,zk hi2];exact⟨rfl,rfl⟩) ⟨rfl,rfl,rfl,Y _,fun _ _ _=>rfl⟩;exact wpList_append_own_none qN s x 58 ho B 71 j0 2 Tryz.underlying58 hj (J ao k ca) k (rvl R V k) hs h hx this
 | some ad =>
  refine wpList_append_own w qN s x 58 ho B 71 j0 (d #[O I 0,O I 0]) 2 16 Tryz.underlying58 hj kE kB kt rfl zb (J ao k ca) k (rvl R V k) hs h ad n cb (rvl R' V' n) hx (cw _ _ _) (Ag hv) (Cb _ _ _) (by unfold maxLen;omega) za hB ?_;intro v' w' h1 h2 _;obtain⟨g6,c',rfl⟩:∃ g6 c',v'=J g6 (k+n) c':=by
   rcases h1.2 with ⟨rfl,e⟩ | ⟨g,b8,jw,rfl,_⟩
   ·rw [e];exact⟨Z,0,rfl⟩
   ·exact⟨_,b8,rfl⟩
  rw [Cr] at h1;exact kP g6 c' w' h1 h2
theorem sw{B:Nat}{w:U}{ao:Option L}{n b8:Nat}{R V:Nat->Int}(h:OwR B w ao n b8 R V):∀ g,(Value.slice ao n b8).ownBlock=X g->B<=g:=fun g hg=>(World.ownsRow.lt h g hg).1
theorem sk(w:U)(a v:Int):Rec (w.alloc (.cells #[O I a,O I v] 71)) (X ⟨w.heap.size,0,Z⟩) 1 1 (fun _=>a) (fun _=>v):=by
 refine⟨fun _=>⟨_,_,rfl,fun j hj=>?_⟩,(fun e=>by cases e),Y _⟩;obtain rfl:j=0:=za;rw [cell_of_row _ _ _ _ _ _ (heap_alloc_new w _),cell_of_row _ _ _ _ _ _ (heap_alloc_new w _)];exact⟨rfl,rfl⟩
theorem gS{k:Nat}{R:Nat->Int}{a:Int}(h:R k=a){i:Nat}(hi:i<k+1):apI k R (fun _=>a) i=R i:=by
 unfold apI;by_cases h2:i<k
 ·rw [zk h2]
 ·rw [zl h2,<- h,show i=k by omega]
theorem mZ(w:U)(ao:Option L)(n cp m:Nat)(F:Nat->UInt8)(h:Bec w ao n cp F)(hm:6*m<=n)(yr:m<=1000):
  Calls H 246 #[J ao n cp,O I (m:Int)] w fun e w'=>∃ uo uc bo,e=A (d #[O I 0,O I 0,O I 0,J uo m uc,J bo (n-6*m) (cp-6*m)])/\OwR w.heap.size w' uo m uc (rdR F 0) (rdV F 0)/\(∀ u,Bec u ao n cp F->Bec u bo (n-6*m) (cp-6*m) (fun j=>F (6*m+j)))/\b7 w w':=by
 have HX:=am h;have l8:=h.room;have HM:P (∀ i,nm (fun j=>F (6*i+j)) 0 2=nm F (6*i) 2/\nm (fun j=>F (6*i+j)) 2 4=nm F (6*i+2) 4):=fun i=>⟨bY F (6*i) 0 2,bY F (6*i) 2 4⟩
 have Iw:P (∀ i,rdR F 0 i=((nm F (6*i) 2:Nat):Int)/\rdV F 0 i=((nm F (6*i+2) 4:Nat):Int)):=fun i=>by unfold rdR rdV;rw [Nat.zero_add];exact⟨rfl,rfl⟩
 clear h;obtain⟨w0,bi⟩:=fd (w.alloc (.cells #[O I 0,O I 0,O I 0,J Z 0 0,J Z 0 0] 216))
 have b0:=jt bi
 have z0:=ks bi
 have xY:=am b0;have D5:P (∀ v,b7 w0 v->(v.cell? ⟨w.heap.size,0,Z⟩=X (O I 0)/\v.cell? ⟨w.heap.size,1,Z⟩=X (O I 0)/\v.cell? ⟨w.heap.size,2,Z⟩=X (O I 0)/\v.cell? ⟨w.heap.size,3,Z⟩=X (J Z 0 0)/\v.cell? ⟨w.heap.size,4,Z⟩=X (J Z 0 0))/\∀ i,v.frozen? ⟨w.heap.size,i,Z⟩=false):=fun v hv=>⟨cI bi hv,aI bi hv⟩
 have Ix:=am z0;go_enter Tryz.func246,Tryz.ntmps246
 go_wp2_with fail
 rw [<- bi];clear bi b0 z0;go_loopw [0,5,7] (fun y z x wr=>∃ i l c:Nat,i<=m/\l+6*i=n/\c+6*i=cp/\x=O I (i:Int)/\(∃ bo,y=J bo l c/\P (∀ u,Bec u ao n cp F->Bec u bo l c (fun j=>F (6*i+j))))/\(∃ uo uc,z=J uo i uc/\P (OwR w0.heap.size wr uo i uc (rdR F 0) (rdV F 0)))/\P (b7 w0 wr)) (fun _ _ x _=>m-(intOf x).toNat)
 case atStart=>exact⟨0,n,cp,C _,rfl,rfl,rfl,⟨ao,rfl,fun u hu=>hu.congr fun j _=>by rw [Nat.mul_zero,Nat.zero_add]⟩,⟨Z,0,rfl,owr_nil _ _ _ _⟩,Below.refl _ _⟩
 case round =>
  obtain⟨i,l,c,hi,hl,hc,rfl,⟨bo,rfl,D4⟩,⟨uo,uc,rfl,em⟩,d8⟩:=hrel;by_cases hlt:i<m
  ·have RI:6<=l:=za;have Kz:l<=c:=(D4.out _ HX.out).room;have Fj:=fun w h=>pj w bo l c (fun j=>F (6*i+j)) h RI;rw [(HM.out i).1,(HM.out i).2,<- (Iw.out i).1,<- (Iw.out i).2] at Fj;obtain⟨ri,KA⟩:=fd (rdR F 0 i)
   obtain⟨vi,FZ⟩:=fd (rdV F 0 i)
   have HF:P (rdR F 0 i=ri/\rdV F 0 i=vi):=⟨KA.symm,FZ.symm⟩
   rw [<- KA,<- FZ] at Fj;clear KA FZ;have c6:(6:Int)<=(l:Int):=za;have d6:(6:Int)<=(c:Int):=za;have i2:(i:Int)<(m:Int):=za;obtain⟨b,off,rfl,_⟩:=(D4.out _ HX.out).rd za;have Lr:=am fun u (hu:Bec u ao n cp F)=>(fi (D4.out u hu) RI).congr fun j _=>by show F (6*i+(6+j))=_;rw [show 6*i+(6+j)=6*(i+1)+j by omega]
   have Ye:IntKind.i64.wrap ((i:Int)+1)=(i:Int)+1:=by rw [IntKind.wrap_i64];omega
   by_cases hcap:c=6
   ·obtain rfl:l=6:=za;subst hcap;go_wp2_with fail
    refine(Fj _ (D4.out _ (HX.out.below (ag xY.out d8.out xY.out.size)))).mono ?_;rintro e wa ⟨rfl,ha⟩;have qi:=am (em.out.below ha);have jZ:=am (ag d8.out ha d8.out.size);have xW:w0.heap.size<=wa.heap.size:=jZ.out.size;clear ha;go_wp2_with (at_builtin;refine wpList_append_refs zg (.tmp 9) (.tmp 12) zg w0.heap.size i 1 uc 1 uo (X ⟨wa.heap.size,0,Z⟩) (rdR F 0) (rdV F 0) (fun _=>ri) (fun _=>vi) zg zg (qi.out.below (bal _ _)) (sk wa ri vi) za zj ?_;intro u2 c2 wb h2 g2;have kH:=am (h2.congr (fun t ht=>⟨gS HF.out.1 ht,gS HF.out.2 ht⟩));have jv:P (b7 w0 wb):=(jZ.out.alloc xW _).grown g2 zj (sw qi.out);clear h2 g2)
    refine⟨⟨i+1,0,0,za,za,za,by go_num,⟨_,rfl,?_⟩,⟨_,_,rfl,kH⟩,jv⟩,by simp [intOf];omega⟩;exact fun u _=>⟨fun h=>absurd h (Nat.lt_irrefl 0),(fun e=>by cases e),Y _⟩
   ·have Lq:¬ (c:Int)=6:=za;go_wp2_with fail
    refine(Fj _ (D4.out _ (HX.out.below (ag xY.out d8.out xY.out.size)))).mono ?_;rintro e wa ⟨rfl,ha⟩;have qi:=am (em.out.below ha);have jZ:=am (ag d8.out ha d8.out.size);have xW:w0.heap.size<=wa.heap.size:=jZ.out.size;clear ha;go_wp2_with (at_builtin;refine wpList_append_refs zg (.tmp 9) (.tmp 12) zg w0.heap.size i 1 uc 1 uo (X ⟨wa.heap.size,0,Z⟩) (rdR F 0) (rdV F 0) (fun _=>ri) (fun _=>vi) zg zg (qi.out.below (bal _ _)) (sk wa ri vi) za zj ?_;intro u2 c2 wb h2 g2;have kH:=am (h2.congr (fun t ht=>⟨gS HF.out.1 ht,gS HF.out.2 ht⟩));have jv:P (b7 w0 wb):=(jZ.out.alloc xW _).grown g2 zj (sw qi.out);clear h2 g2)
    exact⟨⟨i+1,l-6,c-6,za,za,za,by go_num,⟨_,rfl,Lr⟩,⟨_,_,rfl,kH⟩,jv⟩,by simp [intOf];omega⟩
  ·obtain rfl:i=m:=za;obtain⟨⟨m0,m1,m2,m3,m4⟩,f⟩:=D5.out _ d8.out;obtain rfl:l=n-6*i:=za;obtain rfl:c=cp-6*i:=za;generalize hl':n-6*i=l at *
   generalize hc':cp-6*i=c at *
   have HL:P (n-6*i=l/\cp-6*i=c):=⟨hl',hc'⟩
   clear hl' hc' hl hc;go_wp2_with fail
   refine bodyPost_ret (v:=d #[O I 0,O I 0,O I 0,J uo i uc,J bo l c]) (by simp [results,Tryz.results246,go_sem,m0,m1,m2,m3,m4]) rfl ⟨uo,uc,bo,by rw [HL.out.1,HL.out.2],?_,?_,?_⟩;all_goals have hW:=(((((ag xY.out d8.out xY.out.size).setCell (p:=⟨w.heap.size,0,Z⟩) (Y _) (O I 0)).setCell (p:=⟨w.heap.size,1,Z⟩) (Y _) (O I 0)).setCell (p:=⟨w.heap.size,2,Z⟩) (Y _) (O I 0)).setCell (p:=⟨w.heap.size,3,Z⟩) (Y _) (J uo i uc)).setCell (p:=⟨w.heap.size,4,Z⟩) (Y _) (J bo l c)
   ·refine(em.out.stay fun g hg kx=>?_).mono xY.out.size;have f9:g ≠ w.heap.size:=by rw [Ix.out] at hg;omega
    rw [heap_setCell_other _ _ _ _ f9,heap_setCell_other _ _ _ _ f9,heap_setCell_other _ _ _ _ f9,heap_setCell_other _ _ _ _ f9,heap_setCell_other _ _ _ _ f9]
   ·rw [HL.out.1,HL.out.2];exact D4.out
   ·exact hW
end Go.Proofs.YtemlojjkokooeaaGreat.De
