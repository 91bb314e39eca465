import Derived.Test.YtemlojjkokooeaaGreatTm38
import Derived.Test.YtemlojjkokooeaaGreatTm39
open Go.Value renaming int->J,slice->I,agg->p,tuple->o
open Go.IntKind renaming i64->O,u8->u
open Option renaming none->Y,some->U
open Go.RowKit renaming Below->Z,Hid->G
open Go.Proofs.Tryz renaming prog->X
open Go renaming World->D,Addr->f,Calls->m
open Go.Ending renaming returned->H
open Nat renaming le_refl->T,zero_le->t
open Go.RowKit.Below renaming refl->R
open Bool renaming false->l
open Go.Obj renaming cells->d
set_option maxHeartbeats 16000000
set_option maxRecDepth 100000
namespace Go.Proofs.YtemlojjkokooeaaGreat.Cn
open Go.RowKit
def ev (z:Sl):Int:=if ∀ i,i<z.vn->z.V i=z.ce then z.ce else 0
def hs (N:Nat) (c:Int) (ix n:Nat) (F:Nat->UInt8):Int:=ev (ofK 2 (he 0 N c (ix:Int) n F))
def hP (N:Nat) (c:Int) (L:Nat->Nat) (F:Nat->Nat->UInt8) (i:Nat):Int:=hs N c i (L (2*i)) (F (2*i))
def hR (N:Nat) (c:Int) (L:Nat->Nat) (F:Nat->Nat->UInt8) (i:Nat):Int:=hs N c i (L (2*i+1)) (F (2*i+1))
def onc (a b:Int):Int:=if b=a then 0 else b
def hQ (N:Nat) (c:Int) (L:Nat->Nat) (F:Nat->Nat->UInt8) (i:Nat):Int:=onc (hP N c L F i) (hR N c L F i)
theorem Ea(N:Nat)(c:Int)(F:Nat->UInt8):0<=(dec N c F).ce:=Int.natCast_nonneg _
theorem pk(N:Nat)(c ix:Int)(n:Nat)(F:Nat->UInt8):he 0 N c ix n F=zSl\/(isS N c n F=true/\(dec N c F).ix=ix/\he 0 N c ix n F=dec N c F):=by
 unfold he;rw [zk rfl];cases h:isS N c n F
 ·left
  show ofI ix zSl=zSl;unfold ofI;split <;> rfl
 ·show ofI ix (dec N c F)=zSl\/_/\_/\ofI ix (dec N c F)=_;unfold ofI;split
  ·exact .inr ⟨rfl,‹_›,rfl⟩
  ·exact .inl rfl
theorem Bb(N:Nat)(c ix:Int)(F:Nat->UInt8):he 0 N c ix 0 F=zSl:=by
 rcases pk N c ix 0 F with h | ⟨h,_⟩
 ·exact h
 ·have:=(eH h).1;unfold sz at this;omega
theorem DA(N:Nat)(c ix:Int)(n:Nat)(F:Nat->UInt8):0<=(he 0 N c ix n F).ce:=by
 rcases pk N c ix n F with h | ⟨_,_,h⟩ <;> rw [h]
 ·exact Int.le_refl 0
 ·exact Ea N c F
theorem Ee(N:Nat)(c ix:Int)(n:Nat)(F:Nat->UInt8)(kd:UInt8):gZ (he 0 N c ix n F) zSl kd=ofK kd (he 0 N c ix n F):=by
 unfold gZ;rw [AM];have h:¬ (ofK kd (he 0 N c ix n F)).ce<zSl.ce:=by
  unfold ofK;have:=DA N c ix n F;have e:zSl.ce=0:=rfl;split
  ·rw [e];omega
  ·omega
 rw [zl h]
theorem Ae{N:Nat}{c ix:Int}{n:Nat}{F:Nat->UInt8}:(he 0 N c ix n F).vn<=N:=by
 rcases pk N c ix n F with h | ⟨_,_,h⟩ <;> rw [h]
 ·exact t _
 ·exact T _
theorem vN{kd:UInt8}{z:Sl}{N:Nat}(h:z.vn<=N):(ofK kd z).vn<=N:=by
 unfold ofK;split
 ·exact h
 ·exact t _
theorem ev_bd{z:Sl}(h:0<=z.ce):0<=ev z:=by unfold ev;split <;> omega
theorem tr(N:Nat)(c:Int)(ix n:Nat)(F:Nat->UInt8):0<=hs N c ix n F:=by
 refine ev_bd ?_;unfold ofK;split
 ·exact DA _ _ _ _ _
 ·exact Int.le_refl 0
theorem nv(N:Nat)(c:Int)(ix n:Nat)(F:Nat->UInt8):hs N c ix n F<=1073741824:=by
 have key:(he 0 N c (ix:Int) n F).ce<=1073741824:=by
  rcases pk N c ix n F with h | ⟨g,_,h⟩ <;> rw [h]
  ·show (0:Int)<=_;omega
  ·exact(dx (eH g).2.2.2).1.2
 have kz:zSl.ce=0:=rfl;unfold hs ev ofK;split <;> split <;> omega
theorem Eu{a b M:Int}(h0:0<=b)(hb:b<=M):0<=onc a b/\onc a b<=M:=by unfold onc;split <;> omega
theorem hP_bd(N:Nat)(c:Int)(L:Nat->Nat)(F:Nat->Nat->UInt8)(i:Nat):0<=hP N c L F i/\hP N c L F i<=1073741824:=⟨tr _ _ _ _ _,nv _ _ _ _ _⟩
theorem hQ_bd(N:Nat)(c:Int)(L:Nat->Nat)(F:Nat->Nat->UInt8)(i:Nat):0<=hQ N c L F i/\hQ N c L F i<=1073741824:=Eu (tr _ _ _ _ _) (nv _ _ _ _ _)
theorem hPQ(N:Nat)(c:Int)(L:Nat->Nat)(F:Nat->Nat->UInt8)(i:Nat):hQ N c L F i=0\/hQ N c L F i ≠ hP N c L F i:=by
 unfold hQ onc;split
 ·exact .inl rfl
 ·exact .inr ‹_›
theorem vd(N:Nat)(c:Int)(L:Nat->Nat)(F:Nat->Nat->UInt8)(i:Nat){v:Int}(hv:v ≠ 0):(hP N c L F i=v\/hQ N c L F i=v) ↔ (hP N c L F i=v\/hR N c L F i=v):=by
 unfold hQ onc;split
 ·rename_i e
  rw [e];constructor
  ·rintro(h | h);exact .inl h;exact absurd h.symm hv
  ·rintro(h | h);exact .inl h;exact .inl h
 ·exact Iff.rfl
theorem CU(w:D)(v ce:Int)(g:Nat)(hg:w.cell? ⟨g,2,Y⟩=U (J O ce)):
  m X 352 #[J O v,.pointer (U ⟨g,0,Y⟩)] w fun e w'=>e=H (.bool (v != ce))/\w'=w:=by
 go_enter Tryz.func352,Tryz.ntmps352
 go_wp2;go_ret;exact⟨rfl,rfl⟩
theorem bT(w:D)(s:Sl)(ao:Option f)(ca:Nat)(bo:Option f)(cb:Nat)(hv:Vec w ao s.vn ca s.V)(hn:s.vn<=1000):
  m X 342 #[slv s ao ca bo cb] w fun e w'=>e=H (J O (ev s))/\b7 w w':=by
 obtain⟨w0,bi⟩:=fd (w.alloc (d #[J u ((s.kd.toNat:Nat):Int),J O s.ix,J O s.ce,J O s.st,I ao s.vn ca,I bo s.dn cb] 107))
 have b0:=jt bi
 have c2:w0.cell? ⟨w.heap.size,2,Y⟩=U (J O s.ce):=ae bi (R _ _) 2 rfl;have HX:=eW w0 ao s.vn ca 352 #[.pointer (U ⟨w.heap.size,0,Y⟩)] s.V (fun i=>s.V i != s.ce) hn (fun _ _=>rfl) (hv.rd.below b0) (fun i _=>CU w0 (s.V i) s.ce w.heap.size c2);unfold slv;by_cases h:∀ i,i<s.vn->s.V i=s.ce
 ·have e1:bp s.vn (fun i=>s.V i != s.ce)=l:=by
   unfold bp;rw [zm (fun i hi=>by simp [h i hi])];rfl
  have e2:ev s=s.ce:=zk h;rw [e1] at HX;rw [e2];clear h e1 e2;go_enter Tryz.func342,Tryz.ntmps342
  go_wp2_with fail
  rw [<- bi];refine HX.mono ?_;rintro e w' ⟨rfl,g8⟩;obtain rfl:=g8.symm;go_wp2_with fail
  go_ret;exact⟨rfl,by first | exact b0 | exact bal _ _⟩
 ·have e1:bp s.vn (fun i=>s.V i != s.ce)=true:=by
   unfold bp;rw [zp (fun g=>h fun i hi=>by have:=g i hi;simpa using this)];rfl
  have e2:ev s=0:=zl h;rw [e1] at HX;rw [e2];clear h e1 e2;go_enter Tryz.func342,Tryz.ntmps342
  go_wp2_with fail
  rw [<- bi];refine HX.mono ?_;rintro e w' ⟨rfl,g8⟩;obtain rfl:=g8.symm;go_wp2_with fail
  go_ret;exact⟨rfl,by first | exact b0 | exact bal _ _⟩
theorem Bp(w:D)(a b:Int):
  m X 343 #[p #[J O a,J O b]] w fun e w'=>e=H (p #[J O a,J O (onc a b)])/\b7 w w':=by
 unfold onc;by_cases h:b=a
 ·have hq:(b == a)=true:=by simpa using h
  rw [zk h];clear h;go_enter Tryz.func343,Tryz.ntmps343
  go_wp2;refine bodyPost_ret (v:=p #[J O a,J O 0]) (by simp [results,Tryz.results343,go_sem]) rfl ⟨rfl,?_⟩;exact aa (bal _ _) _
 ·have hq:(b == a)=l:=by simpa using h
  rw [zl h];clear h;go_enter Tryz.func343,Tryz.ntmps343
  go_wp2;refine bodyPost_ret (v:=p #[J O a,J O b]) (by simp [results,Tryz.results343,go_sem]) rfl ⟨rfl,?_⟩;exact aa (bal _ _) _
def fl2 (P Q:Nat->Int) (j:Nat):Int:=if j % 2=0 then P (j / 2) else Q (j / 2)
theorem DE(P Q:Nat->Int)(i:Nat):fl2 P Q (i*2)=P i:=by unfold fl2;rw [zk za,show i*2 / 2=i by omega]
theorem Dq(P Q:Nat->Int)(i:Nat):fl2 P Q (i*2+1)=Q i:=by unfold fl2;rw [zl za,show (i*2+1) / 2=i by omega]
theorem vS(P Q:Nat->Int)(i:Nat)(v:Int):put (i*2) v (fl2 P Q)=fl2 (put i v P) Q:=by
 funext j
 by_cases e:j=i*2
 ·rw [e,put_at,DE,put_at]
 ·rw [put_ne _ _ e];unfold fl2;split
  ·rw [put_ne _ _ za]
  ·rfl
theorem Ab(P Q:Nat->Int)(i:Nat)(v:Int):put (i*2+1) v (fl2 P Q)=fl2 P (put i v Q):=by
 funext j
 by_cases e:j=i*2+1
 ·rw [e,put_at,Dq,put_at]
 ·rw [put_ne _ _ e];unfold fl2;split
  ·rfl
  ·rw [put_ne _ _ za]
def Hol (B:Nat) (w:D) (a:Option f) (n b8:Nat) (P Q:Nat->Int):Prop:=w.ownsRow B 383 2 (.slice a n b8) n (zOf (n*2) (fl2 P Q))
theorem gQ(B:Nat)(w:D)(P Q:Nat->Int):Hol B w Y 0 0 P Q:=World.ownsRow_nil _ _ _ _
theorem Hol.mono{B B':Nat}{w:D}{a:Option f}{n b8:Nat}{P Q:Nat->Int}(h:Hol B w a n b8 P Q)(hb:B'<=B):Hol B' w a n b8 P Q:=by
 rcases h with ⟨h1,h2 | ⟨g,cp,jw,h2,h3,h4⟩⟩
 ·exact⟨h1,.inl h2⟩
 ·exact⟨h1,.inr ⟨g,cp,jw,h2,za,h4⟩⟩
theorem Hol.stay{B:Nat}{w w':D}{a:Option f}{n b8:Nat}{P Q:Nat->Int}(h:Hol B w a n b8 P Q)(hb:∀ g,B<=g->g<w.heap.size->w'.heap[g]? = w.heap[g]?):Hol B w' a n b8 P Q:=by
 rcases h with ⟨h1,h2 | ⟨g,cp,jw,h2,h3,h4,h5⟩⟩
 ·exact⟨h1,.inl h2⟩
 ·exact⟨h1,.inr ⟨g,cp,jw,h2,h3,(hb g h3 (Array.getElem?_eq_some_iff.1 h4).1).trans h4,h5⟩⟩
theorem Hol.below{B:Nat}{w w':D}{a:Option f}{n b8:Nat}{P Q:Nat->Int}(h:Hol B w a n b8 P Q)(hb:b7 w w'):Hol B w' a n b8 P Q:=h.stay fun g _ hg=>hb.block g hg
theorem Hol.at_{B:Nat}{w:D}{a:Option f}{n b8:Nat}{P Q:Nat->Int}(h:Hol B w a n b8 P Q)(hn:0<n):∃ g,a=U ⟨g,0,Y⟩/\B<=g/\g<w.heap.size:=by
 rcases h with ⟨h1,⟨_,h2⟩ | ⟨g,cp,jw,h2,h3,h4,_⟩⟩
 ·omega
 ·simp only [Value.slice.injEq] at h2;exact⟨g,h2.1,h3,(Array.getElem?_eq_some_iff.1 h4).1⟩
theorem Hol.c0{B:Nat}{w:D}{g n b8:Nat}{P Q:Nat->Int}(h:Hol B w (U ⟨g,0,Y⟩) n b8 P Q){i:Nat}(hi:i<n):w.cell? ⟨g,i*2,Y⟩=U (J O (P i)):=by
 have:=World.ownsRow.cellAt h (i*2) za;rw [this,de _ _ _ za,DE]
theorem Hol.c1{B:Nat}{w:D}{g n b8:Nat}{P Q:Nat->Int}(h:Hol B w (U ⟨g,0,Y⟩) n b8 P Q){i:Nat}(hi:i<n):w.cell? ⟨g,i*2+1,Y⟩=U (J O (Q i)):=by
 have:=World.ownsRow.cellAt h (i*2+1) za;rw [this,de _ _ _ za,Dq]
theorem Hol.free{B:Nat}{w:D}{g n b8:Nat}{P Q:Nat->Int}(h:Hol B w (U ⟨g,0,Y⟩) n b8 P Q)(j:Nat):w.frozen? ⟨g,j,Y⟩=l:=World.ownsRow.frozenAt h j
theorem Hol.s0{B:Nat}{w:D}{g n b8:Nat}{P Q:Nat->Int}(h:Hol B w (U ⟨g,0,Y⟩) n b8 P Q)(i:Nat)(v:Int):Hol B (w.setCell ⟨g,i*2,Y⟩ (J O v)) (U ⟨g,0,Y⟩) n b8 (put i v P) Q:=by
 have:=(World.ownsRow.stored h (i*2) (J O v)).1;rw [mM,vS] at this;exact this
theorem Hol.s1{B:Nat}{w:D}{g n b8:Nat}{P Q:Nat->Int}(h:Hol B w (U ⟨g,0,Y⟩) n b8 P Q)(i:Nat)(v:Int):Hol B (w.setCell ⟨g,i*2+1,Y⟩ (J O v)) (U ⟨g,0,Y⟩) n b8 P (put i v Q):=by
 have:=(World.ownsRow.stored h (i*2+1) (J O v)).1;rw [mM,Ab] at this;exact this
theorem Hol.congr{B:Nat}{w:D}{a:Option f}{n b8:Nat}{P Q P' Q':Nat->Int}(h:Hol B w a n b8 P Q)(e:∀ i,i<n->P i=P' i/\Q i=Q' i):Hol B w a n b8 P' Q':=by
 unfold Hol at *;rw [fU (S:=fl2 P Q) (fun j hj=>?_)]
 ·exact h
 ·unfold fl2;split
  ·exact((e _ za).1).symm
  ·exact((e _ za).2).symm
theorem Ec:(Tryz.prog.info? 383).map (fun i=>(i.zero,i.size,i.bytes))=U (U (p #[J O 0,J O 0]),2,16):=zh
theorem made2(n:Nat):(madeCells (Value.agg #[Value.int O 0,Value.int O 0]).cells (n*2)).toList=zOf (n*2) (fl2 (fun _=>0) (fun _=>0)):=by
 have hc:(Value.agg #[Value.int O 0,Value.int O 0]).cells=#[Value.int O 0,Value.int O 0]:=zg;rw [hc];apply List.ext_getElem?
 intro j;by_cases hj:j<n*2
 ·rw [de _ _ _ hj];have e:fl2 (fun _=>0) (fun _=>0) j=0:=by unfold fl2;split <;> rfl
  rw [e];simp only [madeCells,Array.toList_map,Array.toList_range,List.getElem?_map,List.getElem?_range hj,Option.map_some,Option.some.injEq];rcases Nat.mod_two_eq_zero_or_one j with h | h <;> simp [h]
 ·simp [madeCells,zOf,hj]
theorem DU(w:D)(n:Nat)(hn:n<=16):∃ w',(Instr.makeSlice 369 (J O (n:Int)) (J O (n:Int))).run X w=.ok (I (U ⟨w.heap.size,0,Y⟩) n n) w'/\Hol w.heap.size w' (U ⟨w.heap.size,0,Y⟩) n n (fun _=>0) (fun _=>0)/\b7 w w':=by
 obtain⟨i0,hi,yJ,EW,hi2⟩:=info_parts Ec;obtain⟨w',h1,h2,h3⟩:=run_makeSlice_full (P:=X) w w.heap.size 369 383 i0 _ 2 Tryz.underlying369 hi yJ EW O O n za (by rw [hi2];omega) (by unfold maxLen;omega) (T _);rw [made2] at h2;exact⟨w',h1,h2,(R _ w).grown h3 (T _) (fun j hj=>by cases hj)⟩
theorem Da{k r c q:Int}{N W:Nat}(h:Par k r c q N W 0)(w:D)(a:Option f)(n cp:Nat)(F:Nat->UInt8)(hb:Bec w a n cp F)(ix:Nat)(hx:ix<N)(hn:n=0\/n=sz N c)(z:Sl)(hz:z=ofK 2 (he 0 N c (ix:Int) n F)):
  m X 341 #[Pz k r c q,p #[I a n cp,I Y 0 0],J u 2,J O (ix:Int)] w fun e w'=>∃(nn:Nat) (ao:Option f) (ca:Nat) (bo:Option f) (cb:Nat) (i:Bool),e=H (o #[J O (nn:Int),p #[J u ((z.kd.toNat:Nat):Int),J O z.ix,J O z.ce,J O z.st,I ao z.vn ca,I bo z.dn cb],.bool i,J O 0])/\Vec w' ao z.vn ca z.V/\b7 w w':=by
 have hE:erC 0 N c n 0 (((2:UInt8).toNat:Nat):Int) (ix:Int)=0:=by
  have q0:erQ 0 N c n=0:=by unfold erQ;rw [zk rfl,zk hn]
  have q1:erQ 0 N c 0=0:=by unfold erQ;rw [zk rfl,zk (Or.inl rfl)]
  have q2:erT 0 N c n 0=0:=by unfold erT;rw [zk q0,q1]
  unfold erC;rw [zk q2,zk ⟨Or.inr rfl,za,za⟩]
 have hc:=iS h w a n cp F Y 0 0 F hb (ft _ _) 2 (ix:Int) 0 hE _ _ rfl rfl;rw [Bb,Ee,<- hz] at hc;refine hc.mono ?_;rintro e w' ⟨ao,ca,bo,cb,he,hg,hw⟩;exact⟨_,ao,ca,bo,cb,_,he,hg.has.vec,hw⟩
theorem oy{k r c q:Int}{N W:Nat}(h:Par k r c q N W 0)(w:D)(a:Option f)(n cp:Nat)(F:Nat->UInt8)(hb:Bec w a n cp F)(ix:Nat)(hn:¬ (n=0\/n=sz N c)):
  m X 341 #[Pz k r c q,p #[I a n cp,I Y 0 0],J u 2,J O (ix:Int)] w fun e w'=>∃(nn:Nat) (z:Sl) (ao:Option f) (ca:Nat) (bo:Option f) (cb:Nat) (i:Bool),e=H (o #[J O (nn:Int),p #[J u ((z.kd.toNat:Nat):Int),J O z.ix,J O z.ce,J O z.st,I ao z.vn ca,I bo z.dn cb],.bool i,J O 100])/\b7 w w':=by
 have hE:erC 0 N c n 0 (((2:UInt8).toNat:Nat):Int) (ix:Int)=100:=by
  have q0:erQ 0 N c n=100:=by unfold erQ;rw [zk rfl,zl hn]
  have q2:erT 0 N c n 0=100:=by unfold erT;rw [q0,zl za]
  unfold erC;rw [q2,zl za]
 have hc:=iS h w a n cp F Y 0 0 F hb (ft _ _) 2 (ix:Int) 100 hE _ _ rfl rfl;refine hc.mono ?_;rintro e w' ⟨ao,ca,bo,cb,he,hg,hw⟩;exact⟨_,_,ao,ca,bo,cb,_,he,hw⟩
def AnsH (w:D) (E:Int) (n:Nat) (P Q:Nat->Int) (e:Ending) (w':D):Prop :=
  ∃ a b8,e=.returned (.tuple #[.slice a (aK E n) b8,.int .i64 E])/\Hol w.heap.size w' a (aK E n) b8 P Q/\b7 w w'
theorem mG{k r c q:Int}{N W:Nat}{x:Int}(h:Par k r c q N W x)(w:D)(ro:Option f)(rn rc:Nat)(A:Nat->Option f)(L C:Nat->Nat)(F:Nat->Nat->UInt8)(hr:Rw w ro rn A L C F)(E:Int)(hE:erR x N c rn L=E):
  m X 330 #[Pz k r c q,I ro rn rc] w (AnsH w E N (hP N c L F) (hQ N c L F)):=by
 have HD:=fun w=>cW h w;have qe:=h.le;obtain⟨w0,bi⟩:=jM w k r c q
 have b0:=jt bi
 unfold AnsH;by_cases hx:x=0
 ·subst hx;unfold erR at hE;rw [zk rfl] at hE;by_cases hn:rn=N
  ·subst hn;have Ha:((rn:Int) != (rn:Int))=l:=zi;obtain⟨z,hz⟩:=fd (sz rn c)
   have Ue:G (∀(v:D) (i j:Nat),i<rn->j<2*rn->b7 w v->(L j=0\/L j=z)->∀ y,y=ofK 2 (he 0 rn c (i:Int) (L j) (F j))->m X 341 #[Pz k r c q,p #[I (A j) (L j) (C j),I Y 0 0],J u 2,J O (i:Int)] v fun e w'=>∃(nn:Nat) (ao:Option f) (ca:Nat) (bo:Option f) (cb:Nat) (i:Bool),e=H (o #[J O (nn:Int),p #[J u ((y.kd.toNat:Nat):Int),J O y.ix,J O y.ce,J O y.st,I ao y.vn ca,I bo y.dn cb],.bool i,J O 0])/\Vec w' ao y.vn ca y.V/\b7 v w') :=
    fun v i j hi hj hv hl y hy=>Da h v _ _ _ _ ((hr.bec j hj).below hv) i hi (by rw [<- hz];exact hl) y hy
   have Uf:G (∀(v:D) (i j:Nat),j<2*rn->b7 w v->¬ (L j=0\/L j=z)->m X 341 #[Pz k r c q,p #[I (A j) (L j) (C j),I Y 0 0],J u 2,J O (i:Int)] v fun e w'=>∃(nn:Nat) (y:Sl) (ao:Option f) (ca:Nat) (bo:Option f) (cb:Nat) (i:Bool),e=H (o #[J O (nn:Int),p #[J u ((y.kd.toNat:Nat):Int),J O y.ix,J O y.ce,J O y.st,I ao y.vn ca,I bo y.dn cb],.bool i,J O 100])/\b7 v w') :=
    fun v i j hj hv hl=>oy h v _ _ _ _ ((hr.bec j hj).below hv) i (by rw [<- hz];exact hl)
   rw [<- hz] at hE;clear hz h;have HE:G ((∀ j,j<2*rn->L j=0\/L j=z)/\E=0\/¬ (∀ j,j<2*rn->L j=0\/L j=z)/\E=120):=by
    by_cases g:∀ j,j<2*rn->L j=0\/L j=z
    ·rw [zk ⟨rfl,g⟩] at hE;exact .inl ⟨g,hE.symm⟩
    ·rw [zl fun a=>g a.2] at hE;exact .inr ⟨g,hE.symm⟩
   have HR:=am hr;clear hE hr;go_enter Tryz.func330,Tryz.ntmps330
   go_wp2_with fail
   rw [<- bi];refine(HD _).mono ?_;rintro e wa ⟨rfl,ha⟩;have B0:=am (ap b0 ha);have L0:=am fun v (hv:b7 wa v)=>(ah (R _ _) bi).below (ap ha hv);obtain⟨wb,hmk,Nf,xv⟩:=DU wa rn qe;have Ng:=am Nf;have Xm:=am xv;clear Nf xv ha b0 bi HD;go_wp2_with fail
   clear hmk;go_loopw [35] (fun y wr=>∃(i:Nat) (P Q:Nat->Int),i<=rn/\y=J O (i:Int)/\G (b7 wa wr)/\G (Hol wa.heap.size wr (U ⟨wa.heap.size,0,Y⟩) rn rn P Q)/\G (∀ j,j<i->P j=hP rn c L F j/\Q j=hQ rn c L F j)/\G (∀ j,j<2*i->L j=0\/L j=z)) (fun y _=>rn-(intOf y).toNat)
   case atStart=>exact⟨0,_,_,t _,rfl,Xm.out,Ng.out,fun j hj=>absurd hj za,fun j hj=>absurd hj za⟩
   case round =>
    obtain⟨i,P,Q,hi,rfl,jB,Q7,Ug,hall⟩:=hrel;by_cases hlt:i<rn
    ·obtain⟨b,off,rfl,jI⟩:=HR.out.at_ za;have c0:wr.cell? ⟨b,off+i*2,Y⟩=U (I (A (2*i)) (L (2*i)) (C (2*i))):=held (jI i hlt).1 (ag B0.out jB.out B0.out.size);have c1:wr.cell? ⟨b,off+i*2+1,Y⟩=U (I (A (2*i+1)) (L (2*i+1)) (C (2*i+1))):=held (jI i hlt).2 (ag B0.out jB.out B0.out.size);clear jI;have KO:G (wa.heap.size<wr.heap.size):=by
      obtain⟨g,kU,_,kx⟩:=Q7.out.at_ za;simp only [Option.some.injEq,Addr.mk.injEq,and_true] at kU;show _<_;rw [kU];exact kx
     have i1:(0:Int)<=(i:Int):=za;have i2:(i:Int)<(rn:Int):=za;obtain⟨wd,jN⟩:=fd (wr.alloc (d #[I (A (2*i)) (L (2*i)) (C (2*i)),I (A (2*i+1)) (L (2*i+1)) (C (2*i+1))] 97))
     have Km:G (b7 wr wd):=by show Z _ _ _;rw [jN];exact bal _ _
     go_wp2_with fail
     rw [<- jN];clear jN c0 c1;refine wp_loop_rounds 3 ?_;rw [rounds_succ];have BD:=am (ag jB.out Km.out jB.out.size);have Q8:=am (Q7.out.below Km.out);have pq:=L0.out wd BD.out;have s0:=pq.cz 0;have s1:=pq.cz 1;have s2:=pq.cz 2;have s3:=pq.cz 3;clear pq;go_wp2_with fail
     rw [Af];go_wp2_with fail
     by_cases g0:L (2*i)=0\/L (2*i)=z
     ·obtain⟨y0,hy⟩:=fd (ofK 2 (he 0 rn c (i:Int) (L (2*i)) (F (2*i))))
      obtain⟨v0,hv⟩:=fd (ev y0)
      have Fx:G (v0=hP rn c L F i/\y0.vn<=16/\v0=ev y0):=⟨by rw [hv,hy];rfl,by rw [hy];exact vN (Nat.le_trans Ae qe),hv⟩
      refine(Ue.out wd i (2*i) hlt za (ag B0.out BD.out B0.out.size) g0 y0 hy).mono ?_;clear hy hv s0 s1 s2 s3;rintro e C8 ⟨YJ,Nh,Ni,Nj,l7,YK,rfl,GV,he⟩;have Q9:=am GV;have OU:=am he;clear GV he;obtain⟨Lb,xL⟩:=fd (C8.alloc (d #[J u ((y0.kd.toNat:Nat):Int),J O y0.ix,J O y0.ce,J O y0.st,I Nh y0.vn Ni,I Nj y0.dn l7] 107))
      have Ra:G (b7 C8 Lb):=by show Z _ _ _;rw [xL];exact bal _ _
      have Xn:=am fun v (hv:b7 Lb v)=>(ah (ag B0.out (ag BD.out OU.out BD.out.size) B0.out.size) xL).below hv;have Rb:G (∀ v,b7 Lb v->m X 342 #[p #[J u ((y0.kd.toNat:Nat):Int),J O y0.ix,J O y0.ce,J O y0.st,I Nh y0.vn Ni,I Nj y0.dn l7]] v fun e w'=>e=H (J O v0)/\b7 v w'):=fun v hv=>by
       rw [Fx.out.2.2];exact bT v y0 Nh Ni Nj l7 (Q9.out.below (ap Ra.out hv)) (by have:=Fx.out.2.1;omega)
      have nq:¬ wa.heap.size=C8.heap.size:=by
       obtain⟨g,kU,_,kx⟩:=Q8.out.at_ za;simp only [Option.some.injEq,Addr.mk.injEq,and_true] at kU;have:=OU.out.size;omega
      have Kl:¬ C8.heap.size=wa.heap.size:=za;have Uh:G (∀ v,b7 Lb v->v.cell? ⟨C8.heap.size,0,Y⟩=U (J u ((y0.kd.toNat:Nat):Int))/\v.cell? ⟨C8.heap.size,1,Y⟩=U (J O y0.ix)/\v.cell? ⟨C8.heap.size,2,Y⟩=U (J O y0.ce)/\v.cell? ⟨C8.heap.size,3,Y⟩=U (J O y0.st)/\v.cell? ⟨C8.heap.size,4,Y⟩=U (I Nh y0.vn Ni)/\v.cell? ⟨C8.heap.size,5,Y⟩=U (I Nj y0.dn l7)/\v.cell? ⟨wa.heap.size,i*2,Y⟩=U (J O (P i))/\v.frozen? ⟨wa.heap.size,i*2,Y⟩=l):=fun v hv=>by
       have pq:=Xn.out v hv;have hh:=Q8.out.below (ap OU.out (ap Ra.out hv));exact⟨pq.cz 0,pq.cz 1,pq.cz 2,pq.cz 3,pq.cz 4,pq.cz 5,hh.c0 hlt,hh.free _⟩
      obtain⟨d0,d1,d2,d3,d4,d5,d6,d7⟩:=Uh.out Lb (R _ _);go_wp2_with fail
      rw [<- xL];clear xL;go_region_held3 (fun v=>v.cell? ⟨C8.heap.size,0,Y⟩=U (J u ((y0.kd.toNat:Nat):Int))/\v.cell? ⟨C8.heap.size,1,Y⟩=U (J O y0.ix)/\v.cell? ⟨C8.heap.size,2,Y⟩=U (J O y0.ce)/\v.cell? ⟨C8.heap.size,3,Y⟩=U (J O y0.st)/\v.cell? ⟨C8.heap.size,4,Y⟩=U (I Nh y0.vn Ni)/\v.cell? ⟨C8.heap.size,5,Y⟩=U (I Nj y0.dn l7)) (go_keep) ((go_at_call 342;refine(Rb.out _ (by first | exact bdw _ _ | exact R _ _)).mono ?_;rintro e OV ⟨rfl,hg⟩;have Ui:G (b7 Lb OV):=(by first | exact az hg | exact hg);obtain⟨e0,e1,e2,e3,e4,e5,e6,e7⟩:=Uh.out OV Ui.out;clear hg))
      obtain⟨Ld,FT⟩:=fd (OV.setCell ⟨wa.heap.size,i*2,Y⟩ (J O v0))
      have Kn:b7 wd OV:=ap OU.out (ap Ra.out Ui.out);have Ik:G (b7 wa Ld):=by show Z _ _ _;rw [FT];exact aH (ag BD.out Kn BD.out.size) (T _) _
      have Ng:G (Hol wa.heap.size Ld (U ⟨wa.heap.size,0,Y⟩) rn rn (put i v0 P) Q):=by show Hol _ _ _ _ _ _ _;rw [FT];exact(Q8.out.below Kn).s0 i _
      clear Kn;go_wp2_with fail
      rw [<- FT];clear FT e0 e1 e2 e3 e4 e5 e6 e7 d0 d1 d2 d3 d4 d5 d6 d7 nq Kl;rw [rounds_succ];have pq:=L0.out Ld Ik.out;have s0:=pq.cz 0;have s1:=pq.cz 1;have s2:=pq.cz 2;have s3:=pq.cz 3;clear pq;go_wp2_with fail
      rw [idp1];go_wp2_with fail
      by_cases g1:L (2*i+1)=0\/L (2*i+1)=z
      ·obtain⟨y1,hy⟩:=fd (ofK 2 (he 0 rn c (i:Int) (L (2*i+1)) (F (2*i+1))))
       obtain⟨v1,hv⟩:=fd (ev y1)
       have Rc:G (v1=hR rn c L F i/\y1.vn<=16/\v1=ev y1):=⟨by rw [hv,hy];rfl,by rw [hy];exact vN (Nat.le_trans Ae qe),hv⟩
       refine(Ue.out Ld i (2*i+1) hlt za (ag B0.out Ik.out B0.out.size) g1 y1 hy).mono ?_;clear hy hv s0 s1 s2 s3;rintro e C9 ⟨YL,Nk,Nl,Hq,Nm,YM,rfl,GV,he⟩;have Re:=am GV;have OW:=am he;clear GV he;obtain⟨Le,xL⟩:=fd (C9.alloc (d #[J u ((y1.kd.toNat:Nat):Int),J O y1.ix,J O y1.ce,J O y1.st,I Nk y1.vn Nl,I Hq y1.dn Nm] 107))
       have Rf:G (b7 C9 Le):=by show Z _ _ _;rw [xL];exact bal _ _
       have Xo:=am fun v (hv:b7 Le v)=>(ah (ag B0.out (ag Ik.out OW.out Ik.out.size) B0.out.size) xL).below hv;have Rg:G (∀ v,b7 Le v->m X 342 #[p #[J u ((y1.kd.toNat:Nat):Int),J O y1.ix,J O y1.ce,J O y1.st,I Nk y1.vn Nl,I Hq y1.dn Nm]] v fun e w'=>e=H (J O v1)/\b7 v w'):=fun v hv=>by
        rw [Rc.out.2.2];exact bT v y1 Nk Nl Hq Nm (Re.out.below (ap Rf.out hv)) (by have:=Rc.out.2.1;omega)
       have nq:¬ wa.heap.size=C9.heap.size:=by
        obtain⟨g,kU,_,kx⟩:=Ng.out.at_ za;simp only [Option.some.injEq,Addr.mk.injEq,and_true] at kU;have:=OW.out.size;omega
       have Kl:¬ C9.heap.size=wa.heap.size:=za;have Uj:G (∀ v,b7 Le v->v.cell? ⟨C9.heap.size,0,Y⟩=U (J u ((y1.kd.toNat:Nat):Int))/\v.cell? ⟨C9.heap.size,1,Y⟩=U (J O y1.ix)/\v.cell? ⟨C9.heap.size,2,Y⟩=U (J O y1.ce)/\v.cell? ⟨C9.heap.size,3,Y⟩=U (J O y1.st)/\v.cell? ⟨C9.heap.size,4,Y⟩=U (I Nk y1.vn Nl)/\v.cell? ⟨C9.heap.size,5,Y⟩=U (I Hq y1.dn Nm)/\v.cell? ⟨wa.heap.size,i*2+1,Y⟩=U (J O (Q i))/\v.frozen? ⟨wa.heap.size,i*2+1,Y⟩=l):=fun v hv=>by
        have pq:=Xo.out v hv;have hh:=Ng.out.below (ap OW.out (ap Rf.out hv));exact⟨pq.cz 0,pq.cz 1,pq.cz 2,pq.cz 3,pq.cz 4,pq.cz 5,hh.c1 hlt,hh.free _⟩
       obtain⟨d0,d1,d2,d3,d4,d5,d6,d7⟩:=Uj.out Le (R _ _);go_wp2_with fail
       rw [<- xL];clear xL;go_region_held3 (fun v=>v.cell? ⟨C9.heap.size,0,Y⟩=U (J u ((y1.kd.toNat:Nat):Int))/\v.cell? ⟨C9.heap.size,1,Y⟩=U (J O y1.ix)/\v.cell? ⟨C9.heap.size,2,Y⟩=U (J O y1.ce)/\v.cell? ⟨C9.heap.size,3,Y⟩=U (J O y1.st)/\v.cell? ⟨C9.heap.size,4,Y⟩=U (I Nk y1.vn Nl)/\v.cell? ⟨C9.heap.size,5,Y⟩=U (I Hq y1.dn Nm)) (go_keep) ((go_at_call 342;refine(Rg.out _ (by first | exact bdw _ _ | exact R _ _)).mono ?_;rintro e OX ⟨rfl,hg⟩;have Uk:G (b7 Le OX):=(by first | exact az hg | exact hg);obtain⟨e0,e1,e2,e3,e4,e5,e6,e7⟩:=Uj.out OX Uk.out;clear hg))
       obtain⟨Rh,FT⟩:=fd (OX.setCell ⟨wa.heap.size,i*2+1,Y⟩ (J O v1))
       have Kn:b7 Ld OX:=ap OW.out (ap Rf.out Uk.out);have Ul:G (b7 wa Rh):=by show Z _ _ _;rw [FT];exact aH (ag Ik.out Kn Ik.out.size) (T _) _
       have J3:G (Hol wa.heap.size Rh (U ⟨wa.heap.size,0,Y⟩) rn rn (put i v0 P) (put i v1 Q)):=by show Hol _ _ _ _ _ _ _;rw [FT];exact(Ng.out.below Kn).s1 i _
       clear Kn;go_wp2_with fail
       rw [<- FT];clear FT e0 e1 e2 e3 e4 e5 e6 e7 d0 d1 d2 d3 d4 d5 d6 d7 nq Kl;rw [rounds_succ];have q0:=J3.out.c0 hlt;have q1:=J3.out.c1 hlt;rw [put_at] at q0 q1;have qf:=fun j=>J3.out.free j;have HO:=fun v=>Bp v v0 v1;have QK:G (∀ v,b7 Rh v->v.cell? ⟨wa.heap.size,i*2,Y⟩=U (J O v0)/\v.cell? ⟨wa.heap.size,i*2+1,Y⟩=U (J O v1)/\∀ j,v.frozen? ⟨wa.heap.size,j,Y⟩=l):=fun v hv=>by
        have hh:=J3.out.below hv;have a0:=hh.c0 hlt;have a1:=hh.c1 hlt;rw [put_at] at a0 a1;exact⟨a0,a1,fun j=>hh.free j⟩
       go_wp2_with fail
       refine(HO _).mono ?_;rintro e wk ⟨rfl,hk⟩;have BK:=am hk;clear hk q0 q1 qf;obtain⟨q0,q1,qf⟩:=QK.out wk BK.out;go_wp2_with fail
       go_roundw
       case rel =>
        refine⟨i+1,put i v0 (put i v0 P),put i (onc v0 v1) (put i v1 Q),za,by go_num,?_,?_,fun j hj=>?_,fun j hj=>?_⟩
        ·exact aH (aH (ag Ul.out BK.out Ul.out.size) (T _) _) (T _) _
        ·exact((J3.out.below BK.out).s0 i v0).s1 i (onc v0 v1)
        ·by_cases e:j=i
         ·subst e;rw [put_at,put_at,Fx.out.1,Rc.out.1];exact⟨rfl,rfl⟩
         ·rw [put_ne _ _ e,put_ne _ _ e,put_ne _ _ e,put_ne _ _ e];exact Ug.out j za
        ·by_cases e0:j<2*i
         ·exact hall.out j e0
         ·rcases (show j=2*i\/j=2*i+1 by omega) with rfl | rfl
          ·exact g0
          ·exact g1
       case measure=>simp [intOf];omega
      ·refine(Uf.out Ld i (2*i+1) za (ag B0.out Ik.out B0.out.size) g1).mono ?_;rintro e we ⟨nn,y,ao,ca,bo,cb,ib,rfl,he⟩;have BE:=am he;clear he s0 s1 s2 s3;go_wp2_with fail
       go_ret2;obtain rfl:E=120:=by
        rcases HE.out with ⟨g,_⟩ | ⟨_,g⟩
        ·exact absurd (g (2*i+1) za) g1
        ·exact g
       exact⟨Y,0,rfl,gQ _ _ _ _,aa (ag B0.out (ag Ik.out BE.out Ik.out.size) B0.out.size) _⟩
     ·refine(Uf.out wd i (2*i) za (ag B0.out BD.out B0.out.size) g0).mono ?_;rintro e we ⟨nn,y,ao,ca,bo,cb,ib,rfl,he⟩;have BE:=am he;clear he s0 s1 s2 s3;go_wp2_with fail
      go_ret2;obtain rfl:E=120:=by
       rcases HE.out with ⟨g,_⟩ | ⟨_,g⟩
       ·exact absurd (g (2*i) za) g0
       ·exact g
      exact⟨Y,0,rfl,gQ _ _ _ _,aa (ag B0.out (ag BD.out BE.out BD.out.size) B0.out.size) _⟩
    ·obtain rfl:i=rn:=za;obtain rfl:E=0:=by
      rcases HE.out with ⟨_,g⟩ | ⟨g,_⟩
      ·exact g
      ·exact absurd (fun j hj=>hall.out j hj) g
     go_wp2_with fail
     go_ret2;refine⟨U ⟨wa.heap.size,0,Y⟩,i,rfl,?_,ag B0.out jB.out B0.out.size⟩;exact(Q7.out.mono B0.out.size).congr Ug.out
  ·have Ha:((rn:Int) != (N:Int))=true:=zj;obtain rfl:E=120:=by rw [zl fun a=>hn a.1] at hE;exact hE.symm
   clear hE hr;go_enter Tryz.func330,Tryz.ntmps330
   go_wp2_with fail
   rw [<- bi];refine(HD _).mono ?_;rintro e wa ⟨rfl,ha⟩;go_wp2_with fail
   go_ret2;exact⟨Y,0,rfl,gQ _ _ _ _,ap b0 ha⟩
 ·obtain rfl:x=E:=by unfold erR at hE;rw [zl hx] at hE;exact hE
  have Ha:(x != 0)=true:=by simp [hx]
  clear hE hr;rw [show aK x N=0 from zl hx];go_enter Tryz.func330,Tryz.ntmps330
  go_wp2_with fail
  rw [<- bi];refine(HD _).mono ?_;rintro e wa ⟨rfl,ha⟩;go_wp2_with fail
  go_ret2;exact⟨Y,0,rfl,gQ _ _ _ _,ap b0 ha⟩
end Go.Proofs.YtemlojjkokooeaaGreat.Cn
