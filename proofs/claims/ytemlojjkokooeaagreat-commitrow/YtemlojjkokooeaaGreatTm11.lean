import Derived.Test.YtemlojjkokooeaaGreatTm10
open Go.Value renaming int->J,slice->I,agg->L,tuple->H
open Go.IntKind renaming i64->O,u8->Y
open Option renaming none->Q
open Go.RowKit renaming Hid->U
open Go.Obj renaming cells->D
open Go renaming World->G,Value->V
open Go.Proofs.Tryz renaming prog->P
open Go.RowKit.Below renaming refl->T
set_option maxHeartbeats 16000000
set_option maxRecDepth 100000
namespace Go.Proofs.YtemlojjkokooeaaGreat
open Go.RowKit
theorem ah{a v v':G}{cs:Array V}{t:TypeId}(h:b7 a v)(e:v'=v.alloc (D cs t)):At a v' v.heap.size cs t:=by rw [e];exact an h _ _
theorem aW(v:G)(g:Nat)(u0 u1 u2 u3 u4 u5:V):Only (fun x=>x=g) v ((((((v.setCell ⟨g,0,Q⟩ (u0)).setCell ⟨g,1,Q⟩ (u1)).setCell ⟨g,2,Q⟩ (u2)).setCell ⟨g,3,Q⟩ (u3)).setCell ⟨g,4,Q⟩ (u4)).setCell ⟨g,5,Q⟩ (u5)):=by
 have h0:Only (fun x=>x=g) v (v.setCell ⟨g,0,Q⟩ u0):=Only.setCell (X:=fun x=>x=g) (p:=⟨g,0,Q⟩) (Only.refl _ _) rfl _;have h1:=Only.setCell (X:=fun x=>x=g) (p:=⟨g,1,Q⟩) h0 rfl u1;have h2:=Only.setCell (X:=fun x=>x=g) (p:=⟨g,2,Q⟩) h1 rfl u2;have h3:=Only.setCell (X:=fun x=>x=g) (p:=⟨g,3,Q⟩) h2 rfl u3;have h4:=Only.setCell (X:=fun x=>x=g) (p:=⟨g,4,Q⟩) h3 rfl u4;have h5:=Only.setCell (X:=fun x=>x=g) (p:=⟨g,5,Q⟩) h4 rfl u5;exact h5
theorem Cu(v:G)(g:Nat)(u0 u1 u2 u3 u4 u5:V):Only (fun x=>x=g) v ((((((v.setCell ⟨g,6,Q⟩ (u0)).setCell ⟨g,7,Q⟩ (u1)).setCell ⟨g,8,Q⟩ (u2)).setCell ⟨g,9,Q⟩ (u3)).setCell ⟨g,10,Q⟩ (u4)).setCell ⟨g,11,Q⟩ (u5)):=by
 have h0:Only (fun x=>x=g) v (v.setCell ⟨g,6,Q⟩ u0):=Only.setCell (X:=fun x=>x=g) (p:=⟨g,6,Q⟩) (Only.refl _ _) rfl _;have h1:=Only.setCell (X:=fun x=>x=g) (p:=⟨g,7,Q⟩) h0 rfl u1;have h2:=Only.setCell (X:=fun x=>x=g) (p:=⟨g,8,Q⟩) h1 rfl u2;have h3:=Only.setCell (X:=fun x=>x=g) (p:=⟨g,9,Q⟩) h2 rfl u3;have h4:=Only.setCell (X:=fun x=>x=g) (p:=⟨g,10,Q⟩) h3 rfl u4;have h5:=Only.setCell (X:=fun x=>x=g) (p:=⟨g,11,Q⟩) h4 rfl u5;exact h5
theorem aU(v:G)(g:Nat)(u0 u1 u2 u3 u4 u5 u6 u7 u8 u9 KK KL:V):Only (fun x=>x=g) v ((((((((((((v.setCell ⟨g,0,Q⟩ (u0)).setCell ⟨g,1,Q⟩ (u1)).setCell ⟨g,2,Q⟩ (u2)).setCell ⟨g,3,Q⟩ (u3)).setCell ⟨g,4,Q⟩ (u4)).setCell ⟨g,5,Q⟩ (u5)).setCell ⟨g,6,Q⟩ (u6)).setCell ⟨g,7,Q⟩ (u7)).setCell ⟨g,8,Q⟩ (u8)).setCell ⟨g,9,Q⟩ (u9)).setCell ⟨g,10,Q⟩ (KK)).setCell ⟨g,11,Q⟩ (KL)):=by
 have h0:Only (fun x=>x=g) v (v.setCell ⟨g,0,Q⟩ u0):=Only.setCell (X:=fun x=>x=g) (p:=⟨g,0,Q⟩) (Only.refl _ _) rfl _;have h1:=Only.setCell (X:=fun x=>x=g) (p:=⟨g,1,Q⟩) h0 rfl u1;have h2:=Only.setCell (X:=fun x=>x=g) (p:=⟨g,2,Q⟩) h1 rfl u2;have h3:=Only.setCell (X:=fun x=>x=g) (p:=⟨g,3,Q⟩) h2 rfl u3;have h4:=Only.setCell (X:=fun x=>x=g) (p:=⟨g,4,Q⟩) h3 rfl u4;have h5:=Only.setCell (X:=fun x=>x=g) (p:=⟨g,5,Q⟩) h4 rfl u5;have h6:=Only.setCell (X:=fun x=>x=g) (p:=⟨g,6,Q⟩) h5 rfl u6;have h7:=Only.setCell (X:=fun x=>x=g) (p:=⟨g,7,Q⟩) h6 rfl u7;have h8:=Only.setCell (X:=fun x=>x=g) (p:=⟨g,8,Q⟩) h7 rfl u8;have h9:=Only.setCell (X:=fun x=>x=g) (p:=⟨g,9,Q⟩) h8 rfl u9;have Vx:=Only.setCell (X:=fun x=>x=g) (p:=⟨g,10,Q⟩) h9 rfl KK;have Vy:=Only.setCell (X:=fun x=>x=g) (p:=⟨g,11,Q⟩) Vx rfl KL;exact Vy
theorem wu{a v:G}{g:Nat}{t:TypeId}{x0 x1 x2 x3 x4 x5 x6 x7 x8 x9 kq ya:V}(h:At a v g #[x0,x1,x2,x3,x4,x5,x6,x7,x8,x9,kq,ya] t)(u0 u1 u2 u3 u4 u5:V):At a ((((((v.setCell ⟨g,0,Q⟩ u0).setCell ⟨g,1,Q⟩ u1).setCell ⟨g,2,Q⟩ u2).setCell ⟨g,3,Q⟩ u3).setCell ⟨g,4,Q⟩ u4).setCell ⟨g,5,Q⟩ u5) g #[u0,u1,u2,u3,u4,u5,x6,x7,x8,x9,kq,ya] t:=((((((h.set 0 u0).set 1 u1).set 2 u2).set 3 u3).set 4 u4).set 5 u5)
theorem DB{a v:G}{g:Nat}{t:TypeId}{x0 x1 x2 x3 x4 x5 x6 x7 x8 x9 kq ya:V}(h:At a v g #[x0,x1,x2,x3,x4,x5,x6,x7,x8,x9,kq,ya] t)(u0 u1 u2 u3 u4 u5:V):At a ((((((v.setCell ⟨g,6,Q⟩ u0).setCell ⟨g,7,Q⟩ u1).setCell ⟨g,8,Q⟩ u2).setCell ⟨g,9,Q⟩ u3).setCell ⟨g,10,Q⟩ u4).setCell ⟨g,11,Q⟩ u5) g #[x0,x1,x2,x3,x4,x5,u0,u1,u2,u3,u4,u5] t:=((((((h.set 6 u0).set 7 u1).set 8 u2).set 9 u3).set 10 u4).set 11 u5)
theorem np{a v:G}{g:Nat}{t:TypeId}{x0 x1 x2 x3 x4 x5 x6 x7 x8 x9 kq ya:V}(h:At a v g #[x0,x1,x2,x3,x4,x5,x6,x7,x8,x9,kq,ya] t)(u0 u1 u2 u3 u4 u5 u6 u7 u8 u9 KK KL:V):At a ((((((((((((v.setCell ⟨g,0,Q⟩ (u0)).setCell ⟨g,1,Q⟩ (u1)).setCell ⟨g,2,Q⟩ (u2)).setCell ⟨g,3,Q⟩ (u3)).setCell ⟨g,4,Q⟩ (u4)).setCell ⟨g,5,Q⟩ (u5)).setCell ⟨g,6,Q⟩ (u6)).setCell ⟨g,7,Q⟩ (u7)).setCell ⟨g,8,Q⟩ (u8)).setCell ⟨g,9,Q⟩ (u9)).setCell ⟨g,10,Q⟩ (KK)).setCell ⟨g,11,Q⟩ (KL)) g #[u0,u1,u2,u3,u4,u5,u6,u7,u8,u9,KK,KL] t:=DB (wu h u0 u1 u2 u3 u4 u5) u6 u7 u8 u9 KK KL
theorem Got.stay{B:Nat}{v v':G}{g:Nat}{s:Sl}{ao:Option Addr}{ca:Nat}{bo:Option Addr}{cb:Nat}(h:Got B v s ao ca bo cb)(ho:Only (fun x=>x=g) v v')(hg:g<B):Got B v' s ao ca bo cb :=
 ⟨h.vec.stay fun k hk hl=>ho.block k hl za,h.bec.stay fun k hk hl=>ho.block k hl za⟩
def erT (x:Int) (N:Nat) (c:Int) (n0 n1:Nat):Int:=if erQ x N c n0=0 then erQ x N c n1 else erQ x N c n0
def rd2 (E:Int) (N:Nat) (c:Int) (n:Nat) (F:Nat->UInt8):Sl:=if E=0 then slQ (isS N c n F) N c F else zSl
def gI (w:G) (E:Int) (s t:Sl) (e:Ending) (w':G):Prop :=
  ∃ ao ca bo cb g6 i9 jr js,e=.returned (.tuple #[bov s ao ca bo cb t g6 i9 jr js,.int .i64 E])/\Got w.heap.size w' s ao ca bo cb/\Got w.heap.size w' t g6 i9 jr js/\b7 w w'
theorem Af(w:G)(x0 x1:V):(Instr.index 97 (L #[x0,x1]) (J O 0)).run P w=.ok x0 w:=zh
theorem idp1(w:G)(x0 x1:V):(Instr.index 97 (L #[x0,x1]) (J O 1)).run P w=.ok x1 w:=zh
theorem ia{x:Int}{N:Nat}{c:Int}{n:Nat}(h:erQ x N c n=0):x=0:=by
 unfold erQ at h;by_cases e:x=0
 ·exact e
 ·rw [zl e] at h;exact h
theorem iG{x:Int}{N:Nat}{c:Int}{n m:Nat}(h:erT x N c n m=0):erQ x N c n=0/\erQ x N c m=0:=by
 unfold erT at h;by_cases e:erQ x N c n=0
 ·rw [zk e] at h;exact⟨e,h⟩
 ·rw [zl e] at h;exact absurd h e
theorem At.lt{a v:G}{g:Nat}{cs:Array V}{t:TypeId}(h:At a v g cs t):g<v.heap.size:=(Array.getElem?_eq_some_iff.1 h.2).1
theorem tQ{k r c q:Int}{N W:Nat}{x:Int}(h:Par k r c q N W x)(w:G)(a0:Option Addr)(n0 c0:Nat)(F0:Nat->UInt8)(a1:Option Addr)(n1 c1:Nat)(F1:Nat->UInt8)(h0:Bec w a0 n0 c0 F0)(h1:Bec w a1 n1 c1 F1)(E:Int)(hE:erT x N c n0 n1=E)(z0 z1:Sl)(hz0:rd2 E N c n0 F0=z0)(yb:rd2 E N c n1 F1=z1):
  Calls P 281 #[Pz k r c q,L #[I a0 n0 c0,I a1 n1 c1]] w (gI w E z0 z1):=by
 obtain⟨w0,bi⟩:=jM w k r c q
 have jW:=jt bi
 have j7:=ks bi
 obtain⟨w1,ci⟩:=fd (w0.alloc (D #[I a0 n0 c0,I a1 n1 c1] 97))
 have jX:=jt ci
 have kc:w1.heap.size=w.heap.size+1+1:=by rw [ci];simp [j7]
 obtain⟨w2,jz⟩:=fd (w1.alloc (D #[J Y 0,J O 0,J O 0,J O 0,I Q 0 0,I Q 0 0,J Y 0,J O 0,J O 0,J O 0,I Q 0 0,I Q 0 0] 254))
 have pu:=jt jz
 have xq:w2.heap.size=w.heap.size+1+1+1:=by rw [jz];simp [kc]
 obtain⟨w3,n9⟩:=fd (w2.alloc (D #[J Y 0,J O 0,J O 0,J O 0,I Q 0 0,I Q 0 0,J Y 0,J O 0,J O 0,J O 0,I Q 0 0,I Q 0 0] 254))
 have G9:=jt n9
 have NW:w3.heap.size=w.heap.size+1+1+1+1:=by rw [n9];simp [xq]
 have Bw:U (b7 w w3):=(ap (ap (ap jW jX) pu) G9)
 have kF:U (∀ v,b7 w3 v->At w v (w.heap.size) #[J O k,J O r,J O c,J O q] 23):=fun v hv=>by exact(ah (T _ _) bi).below (ap (ap (ap jX pu) G9) hv)
 have kV:U (∀ v,b7 w3 v->At w v (w.heap.size+1) #[I a0 n0 c0,I a1 n1 c1] 97):=fun v hv=>by rw [<- j7];exact(ah jW ci).below (ap (ap pu G9) hv)
 have xM:U (∀ v,b7 w3 v->At w v (w.heap.size+1+1) #[J Y 0,J O 0,J O 0,J O 0,I Q 0 0,I Q 0 0,J Y 0,J O 0,J O 0,J O 0,I Q 0 0,I Q 0 0] 254):=fun v hv=>by rw [<- kc];exact(ah (ap jW jX) jz).below (ap G9 hv)
 have NX:U (∀ v,b7 w3 v->At w v (w.heap.size+1+1+1) #[J Y 0,J O 0,J O 0,J O 0,I Q 0 0,I Q 0 0,J Y 0,J O 0,J O 0,J O 0,I Q 0 0,I Q 0 0] 254):=fun v hv=>by rw [<- xq];exact(ah (ap (ap jW jX) pu) n9).below (ap (T _ _) hv)
 obtain⟨E0,kT⟩:=km (erQ x N c n0)
 obtain⟨E1,zt⟩:=km (erQ x N c n1)
 obtain⟨i0,yJ⟩:=km (isQ x N c n0 F0)
 obtain⟨i1,EW⟩:=km (isQ x N c n1 F1)
 obtain⟨y0,qK⟩:=km (slQ i0 N c F0)
 obtain⟨y1,kL⟩:=km (slQ i1 N c F1)
 have NY:=am fun v (hv:b7 w v)=>Parse_any h v a0 n0 c0 F0 (h0.below hv) E0 kT i0 yJ y0 qK;have kp:=am fun v (hv:b7 w v)=>Parse_any h v a1 n1 c1 F1 (h1.below hv) E1 zt i1 EW y1 kL;have A9:U (E=0->y0=z0):=fun e=>Eq.symm <| by
  have hx:x=0:=ia (iG (hE.trans e)).1;rw [<- hz0,<- qK,<- yJ];unfold rd2 isQ;rw [zk e,zm hx,Bool.true_and]
 have xK:U (E=0->y1=z1):=fun e=>Eq.symm <| by
  have hx:x=0:=ia (iG (hE.trans e)).1;rw [<- yb,<- kL,<- EW];unfold rd2 isQ;rw [zk e,zm hx,Bool.true_and]
 have xD:U (¬ E=0->z0=zSl/\z1=zSl):=fun e=>by
  rw [<- hz0,<- yb];unfold rd2;rw [zl e,zl e];exact⟨rfl,rfl⟩
 have qF:E=if E0=0 then E1 else E0:=by rw [<- hE,<- kT,<- zt];rfl
 have EQ:=am NW;clear hE hz0 yb kT zt yJ EW qK kL h h0 h1;unfold pE slv at NY kp;unfold gI bov;by_cases e0:E0=0
 ·subst e0;rw [zk rfl] at qF;subst qF;by_cases e1:E=0
  ·subst e1;go_enter Tryz.func281,Tryz.ntmps281
   go_wp2_with fail
   refine wp_loop_rounds 3 ?_;rw [rounds_succ];go_wp2_with fail
   rw [Af];go_wp2_with fail
   rw [<- bi,<- ci,<- jz,<- n9];clear bi jW j7 ci jX kc jz pu xq n9 G9 NW;refine(NY.out _ Bw.out).mono ?_;rintro e wa ⟨ao,ca,bo,cb,rfl,jO,ha⟩;have kZ:=am jO;have HA:=am ha;clear jO ha;have q3:=NX.out wa HA.out;have s0:=fun o=>(q3.alloc o).cz 0;have s1:=fun o=>(q3.alloc o).cz 1;have s2:=fun o=>(q3.alloc o).cz 2;have s3:=fun o=>(q3.alloc o).cz 3;have s4:=fun o=>(q3.alloc o).cz 4;have s5:=fun o=>(q3.alloc o).cz 5;have s6:=fun o=>(q3.alloc o).cz 6;have s7:=fun o=>(q3.alloc o).cz 7;have s8:=fun o=>(q3.alloc o).cz 8;have s9:=fun o=>(q3.alloc o).cz 9;have yK:=fun o=>(q3.alloc o).cz 10;have yL:=fun o=>(q3.alloc o).cz 11;have sf:=fun o=>(q3.alloc o).free;clear q3;go_wp2_with fail
   obtain⟨wb,jD⟩:=fd ((((((((wa.alloc (D #[J Y ((y0.kd.toNat:Nat):Int),J O y0.ix,J O y0.ce,J O y0.st,I ao y0.vn ca,I bo y0.dn cb] 107)).setCell ⟨w.heap.size+1+1+1,0,Q⟩ (J Y ((y0.kd.toNat:Nat):Int))).setCell ⟨w.heap.size+1+1+1,1,Q⟩ (J O y0.ix)).setCell ⟨w.heap.size+1+1+1,2,Q⟩ (J O y0.ce)).setCell ⟨w.heap.size+1+1+1,3,Q⟩ (J O y0.st)).setCell ⟨w.heap.size+1+1+1,4,Q⟩ (I ao y0.vn ca)).setCell ⟨w.heap.size+1+1+1,5,Q⟩ (I bo y0.dn cb)))
   have HO:U (Only (fun x=>x=w.heap.size+1+1+1) wa wb):=by show Only _ _ _;rw [jD];exact((Only.refl _ _).alloc _).trans (aW (wa.alloc (D #[J Y ((y0.kd.toNat:Nat):Int),J O y0.ix,J O y0.ce,J O y0.st,I ao y0.vn ca,I bo y0.dn cb] 107)) (w.heap.size+1+1+1) (J Y ((y0.kd.toNat:Nat):Int)) (J O y0.ix) (J O y0.ce) (J O y0.st) (I ao y0.vn ca) (I bo y0.dn cb))
   have m9:U (At w wb (w.heap.size+1+1+1) #[J Y ((y0.kd.toNat:Nat):Int),J O y0.ix,J O y0.ce,J O y0.st,I ao y0.vn ca,I bo y0.dn cb,J Y 0,J O 0,J O 0,J O 0,I Q 0 0,I Q 0 0] 254):=by show At _ _ _ _ _;rw [jD];exact wu ((NX.out wa HA.out).alloc _) _ _ _ _ _ _
   have jv:U (At w wb (w.heap.size+1+1) #[J Y 0,J O 0,J O 0,J O 0,I Q 0 0,I Q 0 0,J Y 0,J O 0,J O 0,J O 0,I Q 0 0,I Q 0 0] 254):=(xM.out wa HA.out).only HO.out za;have xY:U (At w wb (w.heap.size) #[J O k,J O r,J O c,J O q] 23):=(kF.out wa HA.out).only HO.out za;have m6:U (Got w3.heap.size wb y0 ao ca bo cb):=kZ.out.stay HO.out (by have:=EQ.out;omega);have HB:U (b7 w wb):=(ap Bw.out HA.out).trans (HO.out.below (fun i hi=>by omega) (ap Bw.out HA.out).size);rw [<- jD];clear jD s0 s1 s2 s3 s4 s5 s6 s7 s8 s9 yK yL sf kZ HO HA;have q0:=xY.out;have p0:=q0.cz 0;have p1:=q0.cz 1;have p2:=q0.cz 2;have p3:=q0.cz 3;have pf:=q0.free;clear q0;rw [rounds_succ];go_wp2_with fail
   rw [idp1];go_wp2_with fail
   refine(kp.out _ HB.out).mono ?_;rintro e wc ⟨g6,i9,jr,js,rfl,IV,hc⟩;have Fr:=am IV;have HC:=am hc;clear IV hc p0 p1 p2 p3 pf;have q3:=m9.out.below HC.out;have s0:=fun o=>(q3.alloc o).cz 0;have s1:=fun o=>(q3.alloc o).cz 1;have s2:=fun o=>(q3.alloc o).cz 2;have s3:=fun o=>(q3.alloc o).cz 3;have s4:=fun o=>(q3.alloc o).cz 4;have s5:=fun o=>(q3.alloc o).cz 5;have s6:=fun o=>(q3.alloc o).cz 6;have s7:=fun o=>(q3.alloc o).cz 7;have s8:=fun o=>(q3.alloc o).cz 8;have s9:=fun o=>(q3.alloc o).cz 9;have yK:=fun o=>(q3.alloc o).cz 10;have yL:=fun o=>(q3.alloc o).cz 11;have sf:=fun o=>(q3.alloc o).free;clear q3;go_wp2_with fail
   obtain⟨wd,jN⟩:=fd ((((((((wc.alloc (D #[J Y ((y1.kd.toNat:Nat):Int),J O y1.ix,J O y1.ce,J O y1.st,I g6 y1.vn i9,I jr y1.dn js] 107)).setCell ⟨w.heap.size+1+1+1,6,Q⟩ (J Y ((y1.kd.toNat:Nat):Int))).setCell ⟨w.heap.size+1+1+1,7,Q⟩ (J O y1.ix)).setCell ⟨w.heap.size+1+1+1,8,Q⟩ (J O y1.ce)).setCell ⟨w.heap.size+1+1+1,9,Q⟩ (J O y1.st)).setCell ⟨w.heap.size+1+1+1,10,Q⟩ (I g6 y1.vn i9)).setCell ⟨w.heap.size+1+1+1,11,Q⟩ (I jr y1.dn js)))
   have HO:U (Only (fun x=>x=w.heap.size+1+1+1) wc wd):=by show Only _ _ _;rw [jN];exact((Only.refl _ _).alloc _).trans (Cu (wc.alloc (D #[J Y ((y1.kd.toNat:Nat):Int),J O y1.ix,J O y1.ce,J O y1.st,I g6 y1.vn i9,I jr y1.dn js] 107)) (w.heap.size+1+1+1) (J Y ((y1.kd.toNat:Nat):Int)) (J O y1.ix) (J O y1.ce) (J O y1.st) (I g6 y1.vn i9) (I jr y1.dn js))
   have Ht:U (At w wd (w.heap.size+1+1+1) #[J Y ((y0.kd.toNat:Nat):Int),J O y0.ix,J O y0.ce,J O y0.st,I ao y0.vn ca,I bo y0.dn cb,J Y ((y1.kd.toNat:Nat):Int),J O y1.ix,J O y1.ce,J O y1.st,I g6 y1.vn i9,I jr y1.dn js] 254):=by show At _ _ _ _ _;rw [jN];exact DB ((m9.out.below HC.out).alloc _) _ _ _ _ _ _
   have FP:U (At w wd (w.heap.size+1+1) #[J Y 0,J O 0,J O 0,J O 0,I Q 0 0,I Q 0 0,J Y 0,J O 0,J O 0,J O 0,I Q 0 0,I Q 0 0] 254):=(jv.out.below HC.out).only HO.out za;have Gr:U (Got w3.heap.size wd y0 ao ca bo cb):=(m6.out.below HC.out).stay HO.out (by have:=EQ.out;omega);have IW:U (Got w3.heap.size wd y1 g6 i9 jr js):=(Fr.out.mono (by have:=HB.out.size;have:=m9.out.lt;have:=EQ.out;omega)).stay HO.out (by have:=EQ.out;omega);have HD:U (b7 w wd):=(ap HB.out HC.out).trans (HO.out.below (fun i hi=>by omega) (ap HB.out HC.out).size);rw [<- jN];clear jN s0 s1 s2 s3 s4 s5 s6 s7 s8 s9 yK yL sf m6 Fr HO HB HC m9 jv xY;have q3:=Ht.out;have s0:=q3.cz 0;have s1:=q3.cz 1;have s2:=q3.cz 2;have s3:=q3.cz 3;have s4:=q3.cz 4;have s5:=q3.cz 5;have s6:=q3.cz 6;have s7:=q3.cz 7;have s8:=q3.cz 8;have s9:=q3.cz 9;have yK:=q3.cz 10;have yL:=q3.cz 11;have q2:=FP.out;have r0:=q2.cz 0;have r1:=q2.cz 1;have r2:=q2.cz 2;have r3:=q2.cz 3;have r4:=q2.cz 4;have r5:=q2.cz 5;have r6:=q2.cz 6;have r7:=q2.cz 7;have r8:=q2.cz 8;have r9:=q2.cz 9;have yA:=q2.cz 10;have yB:=q2.cz 11;have rf:=q2.free;clear q2 q3;rw [rounds_succ];go_wp2_with fail
   refine bodyPost_ret (v:=H #[L #[J Y ((y0.kd.toNat:Nat):Int),J O y0.ix,J O y0.ce,J O y0.st,I ao y0.vn ca,I bo y0.dn cb,J Y ((y1.kd.toNat:Nat):Int),J O y1.ix,J O y1.ce,J O y1.st,I g6 y1.vn i9,I jr y1.dn js],J O 0]) (by simp [results,Tryz.results281,go_sem,r0,r1,r2,r3,r4,r5,r6,r7,r8,r9,yA,yB]) rfl ?_;obtain rfl:=A9.out (by trivial);obtain rfl:=xK.out (by trivial);have ho:=aU wd (w.heap.size+1+1) (J Y ((y0.kd.toNat:Nat):Int)) (J O y0.ix) (J O y0.ce) (J O y0.st) (I ao y0.vn ca) (I bo y0.dn cb) (J Y ((y1.kd.toNat:Nat):Int)) (J O y1.ix) (J O y1.ce) (J O y1.st) (I g6 y1.vn i9) (I jr y1.dn js);exact⟨ao,ca,bo,cb,g6,i9,jr,js,rfl,(Gr.out.stay ho (by have:=EQ.out;omega)).mono (by have:=EQ.out;omega),(IW.out.stay ho (by have:=EQ.out;omega)).mono (by have:=EQ.out;omega),HD.out.trans (ho.below (fun i hi=>by omega) HD.out.size)⟩
  ·skip
   go_enter Tryz.func281,Tryz.ntmps281
   go_wp2_with fail
   refine wp_loop_rounds 3 ?_;rw [rounds_succ];go_wp2_with fail
   rw [Af];go_wp2_with fail
   rw [<- bi,<- ci,<- jz,<- n9];clear bi jW j7 ci jX kc jz pu xq n9 G9 NW;refine(NY.out _ Bw.out).mono ?_;rintro e wa ⟨ao,ca,bo,cb,rfl,jO,ha⟩;have kZ:=am jO;have HA:=am ha;clear jO ha;have q3:=NX.out wa HA.out;have s0:=fun o=>(q3.alloc o).cz 0;have s1:=fun o=>(q3.alloc o).cz 1;have s2:=fun o=>(q3.alloc o).cz 2;have s3:=fun o=>(q3.alloc o).cz 3;have s4:=fun o=>(q3.alloc o).cz 4;have s5:=fun o=>(q3.alloc o).cz 5;have s6:=fun o=>(q3.alloc o).cz 6;have s7:=fun o=>(q3.alloc o).cz 7;have s8:=fun o=>(q3.alloc o).cz 8;have s9:=fun o=>(q3.alloc o).cz 9;have yK:=fun o=>(q3.alloc o).cz 10;have yL:=fun o=>(q3.alloc o).cz 11;have sf:=fun o=>(q3.alloc o).free;clear q3;go_wp2_with fail
   obtain⟨wb,jD⟩:=fd ((((((((wa.alloc (D #[J Y ((y0.kd.toNat:Nat):Int),J O y0.ix,J O y0.ce,J O y0.st,I ao y0.vn ca,I bo y0.dn cb] 107)).setCell ⟨w.heap.size+1+1+1,0,Q⟩ (J Y ((y0.kd.toNat:Nat):Int))).setCell ⟨w.heap.size+1+1+1,1,Q⟩ (J O y0.ix)).setCell ⟨w.heap.size+1+1+1,2,Q⟩ (J O y0.ce)).setCell ⟨w.heap.size+1+1+1,3,Q⟩ (J O y0.st)).setCell ⟨w.heap.size+1+1+1,4,Q⟩ (I ao y0.vn ca)).setCell ⟨w.heap.size+1+1+1,5,Q⟩ (I bo y0.dn cb)))
   have HO:U (Only (fun x=>x=w.heap.size+1+1+1) wa wb):=by show Only _ _ _;rw [jD];exact((Only.refl _ _).alloc _).trans (aW (wa.alloc (D #[J Y ((y0.kd.toNat:Nat):Int),J O y0.ix,J O y0.ce,J O y0.st,I ao y0.vn ca,I bo y0.dn cb] 107)) (w.heap.size+1+1+1) (J Y ((y0.kd.toNat:Nat):Int)) (J O y0.ix) (J O y0.ce) (J O y0.st) (I ao y0.vn ca) (I bo y0.dn cb))
   have m9:U (At w wb (w.heap.size+1+1+1) #[J Y ((y0.kd.toNat:Nat):Int),J O y0.ix,J O y0.ce,J O y0.st,I ao y0.vn ca,I bo y0.dn cb,J Y 0,J O 0,J O 0,J O 0,I Q 0 0,I Q 0 0] 254):=by show At _ _ _ _ _;rw [jD];exact wu ((NX.out wa HA.out).alloc _) _ _ _ _ _ _
   have jv:U (At w wb (w.heap.size+1+1) #[J Y 0,J O 0,J O 0,J O 0,I Q 0 0,I Q 0 0,J Y 0,J O 0,J O 0,J O 0,I Q 0 0,I Q 0 0] 254):=(xM.out wa HA.out).only HO.out za;have xY:U (At w wb (w.heap.size) #[J O k,J O r,J O c,J O q] 23):=(kF.out wa HA.out).only HO.out za;have m6:U (Got w3.heap.size wb y0 ao ca bo cb):=kZ.out.stay HO.out (by have:=EQ.out;omega);have HB:U (b7 w wb):=(ap Bw.out HA.out).trans (HO.out.below (fun i hi=>by omega) (ap Bw.out HA.out).size);rw [<- jD];clear jD s0 s1 s2 s3 s4 s5 s6 s7 s8 s9 yK yL sf kZ HO HA;have q0:=xY.out;have p0:=q0.cz 0;have p1:=q0.cz 1;have p2:=q0.cz 2;have p3:=q0.cz 3;have pf:=q0.free;clear q0;rw [rounds_succ];go_wp2_with fail
   rw [idp1];go_wp2_with fail
   refine(kp.out _ HB.out).mono ?_;rintro e wc ⟨g6,i9,jr,js,rfl,IV,hc⟩;have Fr:=am IV;have HC:=am hc;clear IV hc p0 p1 p2 p3 pf;have f9:=e1;clear e1;have hq:(E != 0)=true:=by simpa using f9
   have q2:=jv.out.below HC.out;have r0:=fun o=>(q2.alloc o).cz 0;have r1:=fun o=>(q2.alloc o).cz 1;have r2:=fun o=>(q2.alloc o).cz 2;have r3:=fun o=>(q2.alloc o).cz 3;have r4:=fun o=>(q2.alloc o).cz 4;have r5:=fun o=>(q2.alloc o).cz 5;have r6:=fun o=>(q2.alloc o).cz 6;have r7:=fun o=>(q2.alloc o).cz 7;have r8:=fun o=>(q2.alloc o).cz 8;have r9:=fun o=>(q2.alloc o).cz 9;have yA:=fun o=>(q2.alloc o).cz 10;have yB:=fun o=>(q2.alloc o).cz 11;have rf:=fun o=>(q2.alloc o).free;clear q2;go_wp2_with fail
   refine bodyPost_ret (v:=H #[L #[J Y 0,J O 0,J O 0,J O 0,I Q 0 0,I Q 0 0,J Y 0,J O 0,J O 0,J O 0,I Q 0 0,I Q 0 0],J O E]) (by simp [results,Tryz.results281,go_sem,r0,r1,r2,r3,r4,r5,r6,r7,r8,r9,yA,yB]) rfl ?_;obtain⟨rfl,rfl⟩:=xD.out (f9);refine⟨Q,0,Q,0,Q,0,Q,0,rfl,aR _ _,aR _ _,?_⟩;have j9:=aa (ap HB.out HC.out) (D #[J Y ((y1.kd.toNat:Nat):Int),J O y1.ix,J O y1.ce,J O y1.st,I g6 y1.vn i9,I jr y1.dn js] 107);exact j9.trans ((aU (wc.alloc (D #[J Y ((y1.kd.toNat:Nat):Int),J O y1.ix,J O y1.ce,J O y1.st,I g6 y1.vn i9,I jr y1.dn js] 107)) (w.heap.size+1+1) (J Y 0) (J O 0) (J O 0) (J O 0) (I Q 0 0) (I Q 0 0) (J Y 0) (J O 0) (J O 0) (J O 0) (I Q 0 0) (I Q 0 0)).below (fun i hi=>by omega) j9.size)
 ·rw [zl e0] at qF;subst qF;go_enter Tryz.func281,Tryz.ntmps281
  go_wp2_with fail
  refine wp_loop_rounds 3 ?_;rw [rounds_succ];go_wp2_with fail
  rw [Af];go_wp2_with fail
  rw [<- bi,<- ci,<- jz,<- n9];clear bi jW j7 ci jX kc jz pu xq n9 G9 NW;refine(NY.out _ Bw.out).mono ?_;rintro e wa ⟨ao,ca,bo,cb,rfl,jO,ha⟩;have kZ:=am jO;have HA:=am ha;clear jO ha;have f9:=e0;clear e0;have hq:(E != 0)=true:=by simpa using f9
  have q2:=xM.out wa HA.out;have r0:=fun o=>(q2.alloc o).cz 0;have r1:=fun o=>(q2.alloc o).cz 1;have r2:=fun o=>(q2.alloc o).cz 2;have r3:=fun o=>(q2.alloc o).cz 3;have r4:=fun o=>(q2.alloc o).cz 4;have r5:=fun o=>(q2.alloc o).cz 5;have r6:=fun o=>(q2.alloc o).cz 6;have r7:=fun o=>(q2.alloc o).cz 7;have r8:=fun o=>(q2.alloc o).cz 8;have r9:=fun o=>(q2.alloc o).cz 9;have yA:=fun o=>(q2.alloc o).cz 10;have yB:=fun o=>(q2.alloc o).cz 11;have rf:=fun o=>(q2.alloc o).free;clear q2;go_wp2_with fail
  refine bodyPost_ret (v:=H #[L #[J Y 0,J O 0,J O 0,J O 0,I Q 0 0,I Q 0 0,J Y 0,J O 0,J O 0,J O 0,I Q 0 0,I Q 0 0],J O E]) (by simp [results,Tryz.results281,go_sem,r0,r1,r2,r3,r4,r5,r6,r7,r8,r9,yA,yB]) rfl ?_;obtain⟨rfl,rfl⟩:=xD.out (f9);refine⟨Q,0,Q,0,Q,0,Q,0,rfl,aR _ _,aR _ _,?_⟩;have j9:=aa (ap Bw.out HA.out) (D #[J Y ((y0.kd.toNat:Nat):Int),J O y0.ix,J O y0.ce,J O y0.st,I ao y0.vn ca,I bo y0.dn cb] 107);exact j9.trans ((aU (wa.alloc (D #[J Y ((y0.kd.toNat:Nat):Int),J O y0.ix,J O y0.ce,J O y0.st,I ao y0.vn ca,I bo y0.dn cb] 107)) (w.heap.size+1+1) (J Y 0) (J O 0) (J O 0) (J O 0) (I Q 0 0) (I Q 0 0) (J Y 0) (J O 0) (J O 0) (J O 0) (I Q 0 0) (I Q 0 0)).below (fun i hi=>by omega) j9.size)
end Go.Proofs.YtemlojjkokooeaaGreat
