import Derived.Laws.BytesArg
import Derived.Laws.CopyOwn
import Derived.Laws.IdiomStrings
import Derived.Laws.Rows
import Derived.Deep.RegionLawGrows
import Derived.Lib.SliceRun
import Derived.BigQuiet
import Derived.StillTailTactics
import Derived.Test.YtemlojjkokooeaaGreatTj2
namespace Go.Proofs.YtemlojjkokooeaaGreat
structure Sl where
  kd:UInt8
  ix:Int
  ce:Int
  st:Int
  vn:Nat
  V:Nat->Int
  dn:Nat
  D:Nat->UInt8
def zSl:Sl:=⟨0,0,0,0,0,fun _=>0,0,fun _=>0⟩
def okS (N:Nat) (c:Int) (s:Sl):Bool:=decide ((s.vn=N/\∀ i,i<s.vn->1<=s.V i/\s.V i<=1073741824)/\(s.kd=1\/s.kd=2)/\0<=s.ix/\s.ix<(s.vn:Int)/\(s.dn:Int)=c/\s.st=mx s.V s.vn/\s.ce=s.V s.ix.toNat)
def sz (N:Nat) (c:Int):Nat:=12+4*N+c.toNat
def dg (m i:Nat):UInt8:=UInt8.ofNat (m / 256 ^ i)
theorem dg_toNat(m i:Nat):(dg m i).toNat=m / 256 ^ i % 256:=by unfold dg; simp
def enc (s:Sl) (j:Nat):UInt8 :=
  if j=0 then 84 else if j=1 then 50 else if j=2 then s.kd else if j=3 then dg s.ix.toNat 0 else if j<8 then dg s.ce.toNat (7-j) else if j<12 then dg s.st.toNat (11-j)
  else if j<12+4*s.vn then dg (s.V ((j-12) / 4)).toNat (3-(j-12) % 4) else s.D (j-(12+4*s.vn))
def nm (F:Nat->UInt8) (o:Nat):Nat->Nat
  | 0=>0
  | k+1=>nm F o k*256+(F (o+k)).toNat
theorem nm_lt(F:Nat->UInt8)(o:Nat):∀ k,nm F o k<256 ^ k
 | 0=>by rw [nm]; decide
 | k+1=>by
  have h:=nm_lt F o k;have h2:(F (o+k)).toNat<256:=(F (o+k)).toNat_lt;rw [nm,Nat.pow_succ];omega
theorem nm_congr{F G:Nat->UInt8}{o p:Nat}:∀ {k:Nat},(∀ i,i<k->F (o+i)=G (p+i))->nm F o k=nm G p k
 | 0,_=>rfl
 | k+1,h=>by rw [nm,nm,nm_congr (k:=k) (fun i hi=>h i (by omega)),h k (by omega)]
def dec (N:Nat) (c:Int) (F:Nat->UInt8):Sl:=⟨F 2,nm F 3 1,nm F 4 4,nm F 8 4,N,fun i=>nm F (12+4*i) 4,c.toNat,fun j=>F (12+4*N+j)⟩
def isS (N:Nat) (c:Int) (n:Nat) (F:Nat->UInt8):Bool:=decide (n=sz N c/\F 0=84/\F 1=50/\okS N c (dec N c F)=true)
theorem okS_true{N:Nat}{c:Int}{s:Sl}(h:okS N c s=true):(s.vn=N/\∀ i,i<s.vn->1<=s.V i/\s.V i<=1073741824)/\(s.kd=1\/s.kd=2)/\0<=s.ix/\s.ix<(s.vn:Int)/\(s.dn:Int)=c/\s.st=mx s.V s.vn/\s.ce=s.V s.ix.toNat:=of_decide_eq_true h
theorem mx_bd{R:Nat->Int}:∀ {n:Nat},(∀ i,i<n->1<=R i/\R i<=1073741824)->0<=mx R n/\mx R n<=1073741824
 | 0,_=>by rw [mx]; omega
 | n+1,h=>by
  have:=mx_bd (n:=n) (fun i hi=>h i (by omega));have:=h n (by omega);rw [mx,gr];split <;> omega
theorem okS_nums{N:Nat}{c:Int}{s:Sl}(h:okS N c s=true):(1<=s.ce/\s.ce<=1073741824)/\0<=s.st/\s.st<=1073741824:=by
 obtain⟨⟨k1,k2⟩,k3,k4,k5,k6,k7,k8⟩:=okS_true h;have h1:=k2 s.ix.toNat (by omega)
 have h2:=mx_bd k2;omega
theorem enc_v{s:Sl}{v i:Nat}(hv:v<s.vn)(hi:i<4):enc s (12+4*v+i)=dg (s.V v).toNat (3-i):=by
 unfold enc;rw [if_neg (by omega),if_neg (by omega),if_neg (by omega),if_neg (by omega),if_neg (by omega),if_neg (by omega),if_pos (by omega),show (12+4*v+i-12) / 4=v by omega,show (12+4*v+i-12) % 4=i by omega]
theorem enc_d(s:Sl)(j:Nat):enc s (12+4*s.vn+j)=s.D j:=by
 unfold enc;rw [if_neg (by omega),if_neg (by omega),if_neg (by omega),if_neg (by omega),if_neg (by omega),if_neg (by omega),if_neg (by omega),show 12+4*s.vn+j-(12+4*s.vn)=j by omega]
theorem enc_c(s:Sl){i:Nat}(hi:i<4):enc s (4+i)=dg s.ce.toNat (3-i):=by
 unfold enc;rw [if_neg (by omega),if_neg (by omega),if_neg (by omega),if_neg (by omega),if_pos (by omega),show 7-(4+i)=3-i by omega]
theorem enc_s(s:Sl){i:Nat}(hi:i<4):enc s (8+i)=dg s.st.toNat (3-i):=by
 unfold enc;rw [if_neg (by omega),if_neg (by omega),if_neg (by omega),if_neg (by omega),if_neg (by omega),if_pos (by omega),show 11-(8+i)=3-i by omega]
theorem is_true{N:Nat}{c:Int}{n:Nat}{F:Nat->UInt8}(h:isS N c n F=true):n=sz N c/\F 0=84/\F 1=50/\okS N c (dec N c F)=true:=of_decide_eq_true h
def upR (G:Nat->UInt8) (o k:Nat) (H:Nat->UInt8):Nat->UInt8:=fun j=>if o<=j/\j<o+k then H (j-o) else G j
theorem upR_in{G:Nat->UInt8}{o k:Nat}{H:Nat->UInt8}{j:Nat}(h:o<=j/\j<o+k):upR G o k H j=H (j-o):=if_pos h
theorem upR_out{G:Nat->UInt8}{o k:Nat}{H:Nat->UInt8}{j:Nat}(h:¬ (o<=j/\j<o+k)):upR G o k H j=G j:=if_neg h
end Go.Proofs.YtemlojjkokooeaaGreat
namespace Go.Proofs.YtemlojjkokooeaaGreat
open Go.RowKit
def RdU (w:World) (ao:Option Addr) (n:Nat) (F:Nat->UInt8):Prop :=
  0<n->∃ b off,ao=some ⟨b,off,none⟩/\∀ j,j<n->w.cell? ⟨b,off+j,none⟩=some (.int .u8 (((F j).toNat:Nat):Int))
theorem RdU.below{w w':World}{ao:Option Addr}{n:Nat}{F:Nat->UInt8}(h:RdU w ao n F)(ho:Below w.heap.size w w'):RdU w' ao n F:=by
 intro hn;obtain⟨b,off,rfl,hc⟩:=h hn;exact⟨b,off,rfl,fun i hi=>held (hc i hi) ho⟩
theorem RdU.congr{w:World}{ao:Option Addr}{n:Nat}{F G:Nat->UInt8}(h:RdU w ao n F)(e:∀ i,i<n->F i=G i):RdU w ao n G:=by
 intro hn;obtain⟨b,off,rfl,hc⟩:=h hn;exact⟨b,off,rfl,fun i hi=>by rw [<- e i hi]; exact hc i hi⟩
structure Bec (w:World) (ao:Option Addr) (n cap:Nat) (F:Nat->UInt8):Prop where
  rd:RdU w ao n F
  nil:ao=none->n=0/\cap=0
  room:n<=cap
theorem Bec.below{w w':World}{ao:Option Addr}{n cap:Nat}{F:Nat->UInt8}(h:Bec w ao n cap F)(ho:Below w.heap.size w w'):Bec w' ao n cap F:=⟨h.rd.below ho,h.nil,h.room⟩
theorem Bec.congr{w:World}{ao:Option Addr}{n cap:Nat}{F G:Nat->UInt8}(h:Bec w ao n cap F)(e:∀ i,i<n->F i=G i):Bec w ao n cap G:=⟨h.rd.congr e,h.nil,h.room⟩
theorem bec_nil(w:World)(F:Nat->UInt8):Bec w none 0 0 F:=⟨fun h=>absurd h (Nat.lt_irrefl 0),fun _=>⟨rfl,rfl⟩,Nat.le_refl _⟩
def byF (n:Nat) (F:Nat->UInt8):List Value:=(List.range n).map fun i=>.int .u8 (((F i).toNat:Nat):Int)
theorem byF_length(k:Nat)(F:Nat->UInt8):(byF k F).length=k:=by simp [byF]
theorem byF_get(k:Nat)(F:Nat->UInt8)(i:Nat)(h:i<k):(byF k F)[i]? = some (.int .u8 (((F i).toNat:Nat):Int)):=by simp [byF,h]
theorem byF_congr{k:Nat}{F G:Nat->UInt8}(h:∀ i,i<k->F i=G i):byF k F=byF k G:=by
 unfold byF;apply List.map_congr_left
 intro i hi;rw [h i (List.mem_range.1 hi)]
theorem byF_add(k m:Nat)(F:Nat->UInt8):byF (k+m) F=byF k F ++ byF m (fun i=>F (k+i)):=by
 apply List.ext_getElem?
 intro i;by_cases h:i<k
 ·rw [List.getElem?_append_left (by rw [byF_length]; exact h),byF_get _ _ _ h,byF_get _ _ _ (by omega)]
 ·rw [List.getElem?_append_right (by rw [byF_length]; omega),byF_length];by_cases h2:i<k+m
  ·rw [byF_get _ _ _ h2,byF_get _ _ _ (by omega),show k+(i-k)=i by omega]
  ·rw [List.getElem?_eq_none (by rw [byF_length]; omega),List.getElem?_eq_none (by rw [byF_length]; omega)]
theorem byF_one(k:Nat)(F:Nat->UInt8):∀ v ∈ byF k F,v.oneCell'=true:=by
 intro v hv;simp only [byF,List.mem_map] at hv;obtain⟨i,_,rfl⟩:=hv;rfl
theorem byF_set{n i:Nat}(F:Nat->UInt8)(u:UInt8):(byF n F).set i (.int .u8 ((u.toNat:Nat):Int))=byF n (put i u F):=by
 apply List.ext_getElem?
 intro j;rw [List.getElem?_set];by_cases hj:j<n
 ·rw [byF_get n (put i u F) _ hj];by_cases e:i=j
  ·subst e; rw [if_pos rfl,if_pos (by rw [byF_length]; exact hj),put_at]
  ·rw [if_neg e,byF_get _ _ _ hj,put_ne _ _ (fun h=>e h.symm)]
 ·by_cases e:i=j
  ·subst e; rw [if_pos rfl,if_neg (by rw [byF_length]; exact hj),List.getElem?_eq_none (by rw [byF_length]; omega)]
  ·rw [if_neg e,List.getElem?_eq_none (by rw [byF_length]; omega),List.getElem?_eq_none (by rw [byF_length]; omega)]
theorem bec_news{w:World}{ad:Addr}{n cap:Nat}{F:Nat->UInt8}(h:Bec w (some ad) n cap F):∀ j u,(byF n F)[j]? = some u->w.cell? (ad.add j)=some u:=by
 intro j u hu;have hj:j<n:=list_lt (byF_length n F) hu;rw [byF_get _ _ _ hj] at hu;obtain⟨b,off,e,hc⟩:=h.rd (by omega);cases e
 rw [Addr.add_lit,hc j hj]; exact hu
def OwU (B:Nat) (w:World) (ao:Option Addr) (n cap:Nat) (F:Nat->UInt8):Prop:=w.ownsRow B 5 1 (.slice ao n cap) n (byF n F)
theorem owu_nil(B:Nat)(w:World)(F:Nat->UInt8):OwU B w none 0 0 F:=World.ownsRow_nil _ _ _ _
theorem OwU.congr{B:Nat}{w:World}{ao:Option Addr}{n cap:Nat}{F G:Nat->UInt8}(h:OwU B w ao n cap F)(e:∀ i,i<n->F i=G i):OwU B w ao n cap G:=by
 unfold OwU at *; rw [<- byF_congr e]; exact h
theorem OwU.bec{B:Nat}{w:World}{ao:Option Addr}{n cap:Nat}{F:Nat->UInt8}(h:OwU B w ao n cap F):Bec w ao n cap F:=by
 have h0:=h;rcases h.2 with ⟨h1,h2⟩ | ⟨g,cap',cur,h1,_,_,h4,_⟩
 ·cases h1; exact bec_nil _ _
 ·cases h1
  refine⟨fun hp=>⟨g,0,rfl,fun i hi=>?_⟩,(fun e=>by cases e),h4⟩;have:=World.ownsRow.cells h0 (g:=g) rfl i _ (byF_get n F i hi)
  rwa [Addr.add_lit] at this
theorem OwU.at_{B:Nat}{w:World}{ao:Option Addr}{n cap:Nat}{F:Nat->UInt8}(h:OwU B w ao n cap F)(hn:0<n):∃ g,ao=some ⟨g,0,none⟩/\B<=g/\g<w.heap.size:=by
 obtain⟨g,cap',e,h1,h2⟩:=World.ownsRow.form h hn;cases e; exact⟨g,rfl,h1,h2⟩
theorem OwU.stay{B:Nat}{w w':World}{ao:Option Addr}{n cap:Nat}{F:Nat->UInt8}(h:OwU B w ao n cap F)(hb:∀ g,B<=g->g<w.heap.size->w'.heap[g]? = w.heap[g]?):OwU B w' ao n cap F:=by
 refine⟨h.1,?_⟩;rcases h.2 with h1 | ⟨g,cap',cur,h1,h2,h3,h4⟩
 ·exact .inl h1
 ·exact .inr ⟨g,cap',cur,h1,h2,by rw [hb g h2 (Array.getElem?_eq_some_iff.1 h3).1]; exact h3,h4⟩
theorem OwU.below{B:Nat}{w w':World}{ao:Option Addr}{n cap:Nat}{F:Nat->UInt8}(h:OwU B w ao n cap F)(hb:Below w.heap.size w w'):OwU B w' ao n cap F:=h.stay fun g _ hg=>hb.block g hg
theorem OwU.mono{B B':Nat}{w:World}{ao:Option Addr}{n cap:Nat}{F:Nat->UInt8}(h:OwU B w ao n cap F)(hb:B'<=B):OwU B' w ao n cap F:=by
 refine⟨h.1,?_⟩;rcases h.2 with h1 | ⟨g,cap',cur,h1,h2,h3⟩
 ·exact .inl h1
 ·exact .inr ⟨g,cap',cur,h1,by omega,h3⟩
theorem info5:(Tryz.prog.info? 5).map (fun i=>(i.zero,i.size,i.bytes))=some (some (.int .u8 0),1,1):=by kernel_rfl
def Bk (w:World) (g n:Nat) (G:Nat->UInt8):Prop:=w.heap[g]? = some (.cells (byF n G).toArray 5 (0,0))
theorem Bk.lt{w:World}{g n:Nat}{G:Nat->UInt8}(h:Bk w g n G):g<w.heap.size:=(Array.getElem?_eq_some_iff.1 h).1
theorem Bk.cell{w:World}{g n:Nat}{G:Nat->UInt8}(h:Bk w g n G){i:Nat}(hi:i<n):w.cell? ⟨g,i,none⟩=some (.int .u8 (((G i).toNat:Nat):Int)):=by
 have:=byF_get n G i hi;unfold Bk at h;simp [World.cell?,h,this]
theorem Bk.free{w:World}{g n:Nat}{G:Nat->UInt8}(h:Bk w g n G)(i:Nat):w.frozen? ⟨g,i,none⟩=false:=by
 unfold Bk at h;simp [World.frozen?,h]
theorem Bk.set{w:World}{g n:Nat}{G:Nat->UInt8}(h:Bk w g n G)(i:Nat)(u:UInt8):Bk (w.setCell ⟨g,i,none⟩ (.int .u8 ((u.toNat:Nat):Int))) g n (put i u G):=by
 unfold Bk at *;rw [<- byF_set];simp [World.setCell,Array.getElem?_modify,h]
theorem Bk.congr{w:World}{g n:Nat}{G H:Nat->UInt8}(h:Bk w g n G)(e:∀ i,i<n->G i=H i):Bk w g n H:=by
 unfold Bk at *; rw [<- byF_congr e]; exact h
theorem Bk.below{w w':World}{g n:Nat}{G:Nat->UInt8}(h:Bk w g n G)(ho:Below w.heap.size w w'):Bk w' g n G:=(ho.block g h.lt).trans h
theorem Bk.own{w:World}{B g n:Nat}{G:Nat->UInt8}(h:Bk w g n G)(hB:B<=g)(hn:n<=1000):OwU B w (some ⟨g,0,none⟩) n n G:=by
 refine⟨by rw [byF_length,Nat.mul_one],.inr ⟨g,n,_,rfl,hB,h,Nat.le_refl _,by unfold maxLen; omega,by simp [byF_length],?_⟩⟩;rw [List.take_of_length_le (by rw [List.toList_toArray,byF_length]; omega)]
def lsF (n:Nat) (F:Nat->UInt8):List UInt8:=(List.range n).map F
theorem lsF_length(n:Nat)(F:Nat->UInt8):(lsF n F).length=n:=by simp [lsF]
theorem lsF_get(n:Nat)(F:Nat->UInt8)(j:Nat)(h:j<(lsF n F).length):(lsF n F)[j]=F j:=by simp [lsF]
def sOf (c:List UInt8):ByteArray:=⟨c.toArray⟩
theorem conv_any{w:World}{ao:Option Addr}{n cp:Nat}{F:Nat->UInt8}(h:Bec w ao n cp F):(convert 36 9 (.slice ao n cp)).run Tryz.prog w=.ok (.string (sOf (lsF n F))) w:=by
 by_cases hn:n=0
 ·subst hn;cases ao with
  | none=>exact run_convert_bytes_nil w 36 5 Tryz.underlying36 Tryz.underlying5 0 cp 9 Tryz.underlying9
  | some a=>exact run_convert_bytes_back w 36 9 5 a cp [] Tryz.underlying36 Tryz.underlying5 Tryz.underlying9 (fun j hj=>by simp at hj)
 ·obtain⟨b,off,rfl,hr⟩:=h.rd (by omega);have:=run_convert_bytes_back (P:=Tryz.prog) w 36 9 5 ⟨b,off,none⟩ cp (lsF n F) Tryz.underlying36 Tryz.underlying5 Tryz.underlying9 (fun j hj=>by rw [Addr.add_lit,lsF_get]; exact hr j (by rw [lsF_length] at hj; exact hj));rw [lsF_length] at this;exact this
theorem sOf_list(c:List UInt8):(sOf c).toList=c:=by rw [ByteArray.toList_eq]; rfl
def slv (s:Sl) (ao:Option Addr) (ca:Nat) (bo:Option Addr) (cb:Nat):Value:=.agg #[.int .u8 ((s.kd.toNat:Nat):Int),.int .i64 s.ix,.int .i64 s.ce,.int .i64 s.st,.slice ao s.vn ca,.slice bo s.dn cb]
structure Has (w:World) (s:Sl) (ao:Option Addr) (ca:Nat) (bo:Option Addr) (cb:Nat):Prop where
  vec:Vec w ao s.vn ca s.V
  bec:Bec w bo s.dn cb s.D
theorem Has.below{w w':World}{s:Sl}{ao:Option Addr}{ca:Nat}{bo:Option Addr}{cb:Nat}(h:Has w s ao ca bo cb)(ho:Below w.heap.size w w'):Has w' s ao ca bo cb:=⟨h.vec.below ho,h.bec.below ho⟩
structure Got (B:Nat) (w:World) (s:Sl) (ao:Option Addr) (ca:Nat) (bo:Option Addr) (cb:Nat):Prop where
  vec:Own B w ao s.vn ca s.V
  bec:OwU B w bo s.dn cb s.D
theorem Got.has{B:Nat}{w:World}{s:Sl}{ao:Option Addr}{ca:Nat}{bo:Option Addr}{cb:Nat}(h:Got B w s ao ca bo cb):Has w s ao ca bo cb:=⟨h.vec.vec,h.bec.bec⟩
theorem Got.below{B:Nat}{w w':World}{s:Sl}{ao:Option Addr}{ca:Nat}{bo:Option Addr}{cb:Nat}(h:Got B w s ao ca bo cb)(ho:Below w.heap.size w w'):Got B w' s ao ca bo cb:=⟨h.vec.below ho,h.bec.below ho⟩
theorem Got.mono{B B':Nat}{w:World}{s:Sl}{ao:Option Addr}{ca:Nat}{bo:Option Addr}{cb:Nat}(h:Got B w s ao ca bo cb)(hb:B'<=B):Got B' w s ao ca bo cb:=⟨h.vec.mono hb,h.bec.mono hb⟩
theorem got_z(B:Nat)(w:World):Got B w zSl none 0 none 0:=⟨own_nil _ _ _,owu_nil _ _ _⟩
theorem slo_held{w w0 w1:World}{x0 x1 x2 x3 x4 x5:Value}{t:TypeId}(h0:w0=w.alloc (.cells #[x0,x1,x2,x3,x4,x5] t))(hb:Below w0.heap.size w0 w1):
  w1.cell? ⟨w.heap.size,0,none⟩=some x0/\w1.cell? ⟨w.heap.size,1,none⟩=some x1/\w1.cell? ⟨w.heap.size,2,none⟩=some x2/\w1.cell? ⟨w.heap.size,3,none⟩=some x3/\w1.cell? ⟨w.heap.size,4,none⟩=some x4/\w1.cell? ⟨w.heap.size,5,none⟩=some x5 :=
 ⟨blk_held h0 hb 0 rfl,blk_held h0 hb 1 rfl,blk_held h0 hb 2 rfl,blk_held h0 hb 3 rfl,blk_held h0 hb 4 rfl,blk_held h0 hb 5 rfl⟩
def szE (x:Int) (N:Nat) (c:Int):Nat:=if x=0 then sz N c else 0
theorem Par.cell{k r c q:Int}{N W:Nat}{e:Int}(h:Par k r c q N W e)(he:e=0):8<=c/\c<=64:=by
 rcases h with ⟨h,_,h0,_⟩ | ⟨_,_,h0,h1⟩
 ·obtain⟨h1,h2,h3,h4,h5,h6,h7,h8,h9⟩:=may_true h;exact⟨h5,h6⟩
 ·omega
theorem Par.err{k r c q:Int}{N W:Nat}{e:Int}(h:Par k r c q N W e):e=0\/e=2:=by rcases h with ⟨_,_,_,h⟩ | ⟨_,_,_,h⟩; exact .inl h; exact .inr h
end Go.Proofs.YtemlojjkokooeaaGreat
