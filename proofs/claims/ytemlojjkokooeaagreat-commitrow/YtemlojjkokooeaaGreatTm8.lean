import Derived.Test.YtemlojjkokooeaaGreatTk
import Derived.Test.YtemlojjkokooeaaGreatTm7
open Bool renaming true->J,false->O
open Option renaming none->I,some->Y
open Go.Ground renaming data->Z,phase->L
open Go.Value renaming slice->U,pointer->D,int->G
open Go.Operand renaming tmp->X
open Go.Proofs.Tryz renaming prog->V
open Go.IntKind renaming i64->P,u8->C
open Go renaming World->H,wpAnyH->T,Value->B
open Go.RowKit renaming Below->R,Hid->W
open Go.Ending renaming returned->F
open Go.Obj renaming cells->A
set_option maxHeartbeats 16000000
set_option maxRecDepth 100000
namespace Go.Proofs.YtemlojjkokooeaaGreat
open Go.RowKit
theorem aa{a v:H}(h:R a.heap.size a v)(o:Obj):R a.heap.size a (v.alloc o):=h.alloc h.size o
theorem eY{a v:H}(h:R a.heap.size a v):R a.heap.size a v.drew:=h.trans (bdw _ _)
theorem bg{a v:H}(h:R a.heap.size a v){p:Addr}(hp:a.heap.size<=p.block)(u:B):R a.heap.size a (v.setCell p u):=h.setCell hp u
def At (a v:H) (g:Nat) (cs:Array B) (t:TypeId):Prop:=a.heap.size<=g/\v.heap[g]? = Y (.cells cs t (0,0))
theorem At.alloc{a v:H}{g:Nat}{cs:Array B}{t:TypeId}(h:At a v g cs t)(o:Obj):At a (v.alloc o) g cs t :=
 ⟨h.1,(Below.heap_alloc v o g (Array.getElem?_eq_some_iff.1 h.2).1).trans h.2⟩
theorem an{a v:H}(h:R a.heap.size a v)(cs:Array B)(t:TypeId):At a (v.alloc (A cs t)) v.heap.size cs t:=⟨h.size,heap_alloc_new v _⟩
theorem At.cell{a v:H}{g:Nat}{cs:Array B}{t:TypeId}(h:At a v g cs t){i:Nat}{u:B}(hi:cs[i]? = Y u):v.cell? ⟨g,i,I⟩=Y u:=by
 rw [cell_of_row _ _ _ _ _ _ h.2];exact hi
theorem At.cz{a v:World}{g:Nat}{cs:Array Value}{t:TypeId}(h:At a v g cs t)(i:Nat){u:Value}(hi:cs[i]? = some u:=by rfl):v.cell? ⟨g,i,none⟩=some u:=h.cell hi
theorem At.free{a v:H}{g:Nat}{cs:Array B}{t:TypeId}(h:At a v g cs t)(i:Nat):v.frozen? ⟨g,i,I⟩=O:=by
 unfold World.frozen?;rw [h.2];simp
theorem At.set{a v:H}{g:Nat}{cs:Array B}{t:TypeId}(h:At a v g cs t)(i:Nat)(u:B):At a (v.setCell ⟨g,i,I⟩ u) g (cs.setIfInBounds i u) t:=by
 refine⟨h.1,?_⟩;simp [World.setCell,Array.getElem?_modify,h.2]
theorem At.far{a v:H}{g k:Nat}{cs:Array B}{t:TypeId}(h:At a v g cs t)(hk:g ≠ k)(i:Nat)(u:B):At a (v.setCell ⟨k,i,I⟩ u) g cs t :=
 ⟨h.1,(Below.heap_setCell _ _ _ _ hk).trans h.2⟩
theorem At.ne{a v:H}{g k:Nat}{cs LE:Array B}{t t':TypeId}(h:At a v g cs t)(h':At a v k LE t')(ht:t ≠ t'):g ≠ k:=by
 rintro rfl;have:=h.2.symm.trans h'.2;simp at this;exact ht this.2
theorem At.drew{a v:H}{g:Nat}{cs:Array B}{t:TypeId}(h:At a v g cs t):At a v.drew g cs t:=h
def rops:Array Oper:=#[⟨Y 5,.fieldAddr 247 (.tmp 1) 1,0,"parts.go:49",#[],I⟩,⟨Y 6,.load 36 (.tmp 5),36,"parts.go:49",#[⟨0,.data⟩],I⟩,⟨Y 7,.indexAddr 36 (.tmp 6) (.const (.int .i64 0)),0,"parts.go:49",#[⟨1,.data⟩],I⟩,⟨Y 8,.load 5 (.tmp 7),5,"parts.go:49",#[⟨2,.data⟩],I⟩,⟨Y 9,.fieldAddr 247 (.tmp 1) 2,0,"parts.go:49",#[],I⟩,⟨Y 10,.load 36 (.tmp 9),36,"parts.go:49",#[⟨4,.data⟩],I⟩,⟨Y 11,.call { callee:=.value (.func 277),args:=#[.tmp 10],argTypes:=#[36]},3,"parts.go:51",#[⟨5,.data⟩],I⟩,⟨Y 12,.fieldAddr 247 (.tmp 1) 3,0,"parts.go:49",#[],I⟩,⟨Y 13,.load 36 (.tmp 12),36,"parts.go:49",#[⟨7,.data⟩],I⟩,⟨Y 14,.call { callee:=.value (.func 277),args:=#[.tmp 13],argTypes:=#[36]},3,"parts.go:52",#[⟨8,.data⟩,⟨6,.chain⟩],I⟩,⟨Y 15,.fieldAddr 247 (.tmp 1) 4,0,"parts.go:49",#[],I⟩,⟨Y 16,.load 36 (.tmp 15),36,"parts.go:49",#[⟨10,.data⟩],I⟩,⟨Y 17,.call { callee:=.value (.func 277),args:=#[.tmp 16],argTypes:=#[36]},3,"parts.go:53",#[⟨11,.data⟩,⟨9,.chain⟩],I⟩,⟨Y 18,.fieldAddr 247 (.tmp 1) 5,0,"parts.go:49",#[],I⟩,⟨Y 19,.load 36 (.tmp 18),36,"parts.go:49",#[⟨13,.data⟩],I⟩,⟨Y 20,.call { callee:=Callee.builtin Builtin.len,args:=#[.tmp 19],argTypes:=#[36]},3,"parts.go:49",#[⟨14,.data⟩],I⟩,⟨Y 21,.binOp BinOp.quo 3 (.tmp 20) (.const (.int .i64 4)) 3,3,"parts.go:49",#[⟨15,.data⟩],I⟩,⟨Y 22,.makeSlice 27 (.tmp 21) (.tmp 21),27,"parts.go:49",#[⟨16,.data⟩,⟨16,.data⟩],I⟩,⟨Y 23,.fieldAddr 247 (.tmp 1) 6,0,"parts.go:49",#[],I⟩,⟨Y 24,.load 36 (.tmp 23),36,"parts.go:49",#[⟨18,.data⟩],I⟩,⟨Y 25,.call { callee:=Callee.builtin Builtin.len,args:=#[.tmp 24],argTypes:=#[36]},3,"parts.go:49",#[⟨19,.data⟩],I⟩,⟨Y 26,.makeSlice 36 (.tmp 25) (.tmp 25),36,"parts.go:49",#[⟨20,.data⟩,⟨20,.data⟩],I⟩,⟨Y 27,.build 107 #[(0,.tmp 8),(1,.tmp 11),(2,.tmp 14),(3,.tmp 17),(4,.tmp 22),(5,.tmp 26)],107,"parts.go:49",#[⟨3,.data⟩,⟨6,.data⟩,⟨9,.data⟩,⟨12,.data⟩,⟨17,.data⟩,⟨21,.data⟩],I⟩,⟨Y 3,.alloc 107,0,"parts.go:49",#[],I⟩,⟨I,.store 107 (.tmp 3) (.tmp 27),0,"parts.go:49",#[⟨23,.data⟩,⟨22,.data⟩,⟨12,.chain⟩,⟨0,.phase⟩,⟨1,.phase⟩,⟨2,.phase⟩,⟨3,.phase⟩,⟨4,.phase⟩,⟨5,.phase⟩,⟨6,.phase⟩,⟨7,.phase⟩,⟨8,.phase⟩,⟨9,.phase⟩,⟨10,.phase⟩,⟨11,.phase⟩,⟨12,.phase⟩,⟨13,.phase⟩,⟨14,.phase⟩,⟨15,.phase⟩,⟨16,.phase⟩,⟨17,.phase⟩,⟨18,.phase⟩,⟨19,.phase⟩,⟨20,.phase⟩,⟨21,.phase⟩,⟨22,.phase⟩,⟨23,.phase⟩],I⟩]
abbrev rfr (a0 u0:B) (q g o m d N kn x1 x2 x3 g1 g2 g3:Nat) (b0 b1 b2 b3 b4 b5 b6:Bool):Act:=⟨#[a0,.pointer (Y ⟨q,0,I⟩),.pointer (Y ⟨q+1,0,I⟩),cond b0 (.pointer (Y ⟨g3,0,I⟩)) u0,u0,.pointer (Y ⟨q,1,I⟩),.slice (Y ⟨g,o+2,I⟩) 1 1,.pointer (Y ⟨g,o+2,I⟩),.int .u8 (kn:Int),.pointer (Y ⟨q,2,I⟩),.slice (Y ⟨g,o+3,I⟩) 1 1,cond b1 (.int .i64 (x1:Int)) u0,.pointer (Y ⟨q,3,I⟩),.slice (Y ⟨g,o+4,I⟩) 4 4,cond b2 (.int .i64 (x2:Int)) u0,.pointer (Y ⟨q,4,I⟩),.slice (Y ⟨g,o+8,I⟩) 4 4,cond b3 (.int .i64 (x3:Int)) u0,.pointer (Y ⟨q,5,I⟩),.slice (Y ⟨g,o+12,I⟩) m m,.int .i64 (m:Int),.int .i64 (N:Int),cond b4 (.slice (Y ⟨g1,0,I⟩) N N) u0,.pointer (Y ⟨q,6,I⟩),.slice (Y ⟨g,o+12+m,I⟩) d d,.int .i64 (d:Int),cond b5 (.slice (Y ⟨g2,0,I⟩) d d) u0,cond b6 (.agg #[.int .u8 (kn:Int),.int .i64 (x1:Int),.int .i64 (x2:Int),.int .i64 (x3:Int),.slice (Y ⟨g1,0,I⟩) N N,.slice (Y ⟨g2,0,I⟩) d d]) u0,u0,u0,u0,u0,u0,u0,u0,u0,u0,u0,u0,u0,u0,u0,u0,u0,u0,u0,u0,u0,u0],[]⟩
theorem nM(w1:H)(q g o m d N kn x1 x2 x3:Nat)(Z1 Z2:Array B)(a0 u0:B)
  (hS:∀ v,R w1.heap.size w1 v->(v.cell? ⟨q,1,I⟩=Y (U (Y ⟨g,o+2,I⟩) 1 1)/\v.cell? ⟨q,2,I⟩=Y (U (Y ⟨g,o+3,I⟩) 1 1)/\v.cell? ⟨q,3,I⟩=Y (U (Y ⟨g,o+4,I⟩) 4 4)/\v.cell? ⟨q,4,I⟩=Y (U (Y ⟨g,o+8,I⟩) 4 4)/\v.cell? ⟨q,5,I⟩=Y (U (Y ⟨g,o+12,I⟩) m m)/\v.cell? ⟨q,6,I⟩=Y (U (Y ⟨g,o+12+m,I⟩) d d)/\v.cell? ⟨g,o+2,I⟩=Y (G C (kn:Int))))
  (P1:∀ v,R w1.heap.size w1 v->Calls V 277 #[U (Y ⟨g,o+3,I⟩) 1 1] v fun e w'=>e=F (G P (x1:Int))/\w'=v)
  (P2:∀ v,R w1.heap.size w1 v->Calls V 277 #[U (Y ⟨g,o+4,I⟩) 4 4] v fun e w'=>e=F (G P (x2:Int))/\w'=v)
  (P3:∀ v,R w1.heap.size w1 v->Calls V 277 #[U (Y ⟨g,o+8,I⟩) 4 4] v fun e w'=>e=F (G P (x3:Int))/\w'=v)
  (Js:∀ w,(Instr.makeSlice 27 (G P (N:Int)) (G P (N:Int))).run V w=.ok (U (Y ⟨w.heap.size,0,I⟩) N N) (w.alloc (A Z1 3)))
  (Ga:∀ w,(Instr.makeSlice 36 (G P (d:Int)) (G P (d:Int))).run V w=.ok (U (Y ⟨w.heap.size,0,I⟩) d d) (w.alloc (A Z2 5)))
  (Pg:IntKind.i64.wrap (N:Int)=(N:Int)) (KF:(m:Int) / 4=(N:Int))
  (Q:Exit->Act->H->Prop) (g7:∀ ch a v,Q (.panic ch) a v->False) (hQ:∀ g1 g2 g3 v,R w1.heap.size w1 v->At w1 v g1 Z1 3->At w1 v g2 Z2 5->At w1 v g3 #[G C (kn:Int),G P (x1:Int),G P (x2:Int),G P (x3:Int),U (Y ⟨g1,0,I⟩) N N,U (Y ⟨g2,0,I⟩) d d] 107->Q .normal ⟨#[a0,D (Y ⟨q,0,I⟩),D (Y ⟨q+1,0,I⟩),D (Y ⟨g3,0,I⟩),u0,D (Y ⟨q,1,I⟩),U (Y ⟨g,o+2,I⟩) 1 1,D (Y ⟨g,o+2,I⟩),G C (kn:Int),D (Y ⟨q,2,I⟩),U (Y ⟨g,o+3,I⟩) 1 1,G P (x1:Int),D (Y ⟨q,3,I⟩),U (Y ⟨g,o+4,I⟩) 4 4,G P (x2:Int),D (Y ⟨q,4,I⟩),U (Y ⟨g,o+8,I⟩) 4 4,G P (x3:Int),D (Y ⟨q,5,I⟩),U (Y ⟨g,o+12,I⟩) m m,G P (m:Int),G P (N:Int),U (Y ⟨g1,0,I⟩) N N,D (Y ⟨q,6,I⟩),U (Y ⟨g,o+12+m,I⟩) d d,G P (d:Int),U (Y ⟨g2,0,I⟩) d d,.agg #[G C (kn:Int),G P (x1:Int),G P (x2:Int),G P (x3:Int),U (Y ⟨g1,0,I⟩) N N,U (Y ⟨g2,0,I⟩) d d],u0,u0,u0,u0,u0,u0,u0,u0,u0,u0,u0,u0,u0,u0,u0,u0,u0,u0,u0,u0,u0],[]⟩ v) :
  Code.wp V (Code.region 1 rops J) Q ⟨#[a0,D (Y ⟨q,0,I⟩),D (Y ⟨q+1,0,I⟩),u0,u0,u0,u0,u0,u0,u0,u0,u0,u0,u0,u0,u0,u0,u0,u0,u0,u0,u0,u0,u0,u0,u0,u0,u0,u0,u0,u0,u0,u0,u0,u0,u0,u0,u0,u0,u0,u0,u0,u0,u0,u0,u0,u0,u0,u0],[]⟩ w1:=by
 have HQ:W _:=hQ;obtain⟨S,ip,HS⟩:∃ S:H->Prop,W (∀ v,S v->(v.cell? ⟨q,1,I⟩=Y (U (Y ⟨g,o+2,I⟩) 1 1)/\v.cell? ⟨q,2,I⟩=Y (U (Y ⟨g,o+3,I⟩) 1 1)/\v.cell? ⟨q,3,I⟩=Y (U (Y ⟨g,o+4,I⟩) 4 4)/\v.cell? ⟨q,4,I⟩=Y (U (Y ⟨g,o+8,I⟩) 4 4)/\v.cell? ⟨q,5,I⟩=Y (U (Y ⟨g,o+12,I⟩) m m)/\v.cell? ⟨q,6,I⟩=Y (U (Y ⟨g,o+12+m,I⟩) d d)/\v.cell? ⟨g,o+2,I⟩=Y (G C (kn:Int))))/\W (∀ v,R w1.heap.size w1 v->S v):=⟨fun v=>v.cell? ⟨q,1,I⟩=Y (U (Y ⟨g,o+2,I⟩) 1 1)/\v.cell? ⟨q,2,I⟩=Y (U (Y ⟨g,o+3,I⟩) 1 1)/\v.cell? ⟨q,3,I⟩=Y (U (Y ⟨g,o+4,I⟩) 4 4)/\v.cell? ⟨q,4,I⟩=Y (U (Y ⟨g,o+8,I⟩) 4 4)/\v.cell? ⟨q,5,I⟩=Y (U (Y ⟨g,o+12,I⟩) m m)/\v.cell? ⟨q,6,I⟩=Y (U (Y ⟨g,o+12+m,I⟩) d d)/\v.cell? ⟨g,o+2,I⟩=Y (G C (kn:Int)),fun v h=>h,hS⟩
 have kp:W _:=P1;have D7:W _:=P2;have ES:W _:=P3;clear hS P1 P2 P3 hQ;have HF:W (∀(v:H) (g1 g2 g3:Nat),R w1.heap.size w1 v->At w1 v g1 Z1 3->At w1 v g2 Z2 5->At w1 v g3 #[G C 0,G P 0,G P 0,G P 0,U I 0 0,U I 0 0] 107->T V .any rops Q S 1 #[J,J,J,J,J,J,J,J,J,J,J,J,J,J,J,J,J,J,J,J,J,J,J,J,O] (rfr a0 u0 q g o m d N kn x1 x2 x3 g1 g2 g3 J J J J J J J) v):=fun v g1 g2 g3 hb f1 f2 f3=>by
  dsimp only [rfr,cond_true,cond_false];have Hs:=f1.ne f3 zb;have IA:=f2.ne f3 zb;have c0:=f3.cell (i:=0) rfl;have c1:=f3.cell (i:=1) rfl;have c2:=f3.cell (i:=2) rfl;have c3:=f3.cell (i:=3) rfl;have c4:=f3.cell (i:=4) rfl;have c5:=f3.cell (i:=5) rfl;have cf:=f3.free;refine wpAnyH_ready (rs:=[24]) zh zi ?_;refine AllReadyH.cons (o:=⟨I,.store 107 (X 3) (X 27),0,"parts.go:49",#[⟨23,Z⟩,⟨22,Z⟩,⟨12,.chain⟩,⟨0,L⟩,⟨1,L⟩,⟨2,L⟩,⟨3,L⟩,⟨4,L⟩,⟨5,L⟩,⟨6,L⟩,⟨7,L⟩,⟨8,L⟩,⟨9,L⟩,⟨10,L⟩,⟨11,L⟩,⟨12,L⟩,⟨13,L⟩,⟨14,L⟩,⟨15,L⟩,⟨16,L⟩,⟨17,L⟩,⟨18,L⟩,⟨19,L⟩,⟨20,L⟩,⟨21,L⟩,⟨22,L⟩,⟨23,L⟩],I⟩) rfl (fun K hK=>?_) AllReadyH.nil;go_simp;refine hK.out _ _ (HS.out _ (bg (bg (bg (bg (bg (bg hb f3.1 _) f3.1 _) f3.1 _) f3.1 _) f3.1 _) f3.1 _)) (fun d9=>?_);refine wpAnyH_done zh ?_ _;refine HQ.out g1 g2 g3 _ (bg (bg (bg (bg (bg (bg hb f3.1 _) f3.1 _) f3.1 _) f3.1 _) f3.1 _) f3.1 _) ?_ ?_ ?_
  ·exact(((((f1.far Hs _ _).far Hs _ _).far Hs _ _).far Hs _ _).far Hs _ _).far Hs _ _
  ·exact(((((f2.far IA _ _).far IA _ _).far IA _ _).far IA _ _).far IA _ _).far IA _ _
  ·exact(((((f3.set 0 _).set 1 _).set 2 _).set 3 _).set 4 _).set 5 _
 have Gc:W (∀(v:H) (g1 g2 g3:Nat),R w1.heap.size w1 v->At w1 v g1 Z1 3->At w1 v g2 Z2 5->At w1 v g3 #[G C 0,G P 0,G P 0,G P 0,U I 0 0,U I 0 0] 107->T V .any rops Q S 2 #[J,J,J,J,J,J,J,J,J,J,J,J,J,J,J,J,J,J,J,J,J,J,O,J,O] (rfr a0 u0 q g o m d N kn x1 x2 x3 g1 g2 g3 J J J J J J O) v):=fun v g1 g2 g3 hb f1 f2 f3=>by
  dsimp only [rfr,cond_true,cond_false];refine tkq g7 ip 22 ⟨Y 27,.build 107 #[(0,X 8),(1,X 11),(2,X 14),(3,X 17),(4,X 22),(5,X 26)],107,"parts.go:49",#[⟨3,Z⟩,⟨6,Z⟩,⟨9,Z⟩,⟨12,Z⟩,⟨17,Z⟩,⟨21,Z⟩],I⟩ (.agg #[G C (kn:Int),G P (x1:Int),G P (x2:Int),G P (x3:Int),U (Y ⟨g1,0,I⟩) N N,U (Y ⟨g2,0,I⟩) d d]) (HS.out _ hb) ?_;simp only [Act.put];exact HF.out _ g1 g2 g3 hb f1 f2 f3
 have Gd:W (∀(v:H) (g2 g3:Nat),R w1.heap.size w1 v->At w1 v g2 Z2 5->At w1 v g3 #[G C 0,G P 0,G P 0,G P 0,U I 0 0,U I 0 0] 107->T V .any rops Q S 3 #[J,J,J,J,J,J,J,J,J,J,J,J,J,J,J,J,J,O,J,J,J,J,O,J,O] (rfr a0 u0 q g o m d N kn x1 x2 x3 0 g2 g3 J J J J O J O) v):=fun v g2 g3 hb f2 f3=>by
  dsimp only [rfr,cond_true,cond_false];refine wpAnyH_ready (rs:=[17]) zh zi ?_;refine AllReadyH.cons (o:=⟨Y 22,.makeSlice 27 (X 21) (X 21),27,"parts.go:49",#[⟨16,Z⟩,⟨16,Z⟩],I⟩) rfl (fun K hK=>?_) AllReadyH.nil;rotate_left

  ·skip
   go_simp;refine hK.out _ _ (HS.out _ (aa hb _)) (fun d9=>?_);exact Gc.out _ _ g2 g3 (aa hb _) (an hb _ _) (f2.alloc _) (f3.alloc _)
 have Ge:W (∀(v:H) (g1 g3:Nat),R w1.heap.size w1 v->At w1 v g1 Z1 3->At w1 v g3 #[G C 0,G P 0,G P 0,G P 0,U I 0 0,U I 0 0] 107->T V .any rops Q S 3 #[J,J,J,J,J,J,J,J,J,J,J,J,J,J,J,J,J,J,J,J,J,O,O,J,O] (rfr a0 u0 q g o m d N kn x1 x2 x3 g1 0 g3 J J J J J O O) v):=fun v g1 g3 hb f1 f3=>by
  dsimp only [rfr,cond_true,cond_false];refine wpAnyH_ready (rs:=[21]) zh zi ?_;refine AllReadyH.cons (o:=⟨Y 26,.makeSlice 36 (X 25) (X 25),36,"parts.go:49",#[⟨20,Z⟩,⟨20,Z⟩],I⟩) rfl (fun K hK=>?_) AllReadyH.nil;rotate_left

  ·skip
   go_simp;refine hK.out _ _ (HS.out _ (aa hb _)) (fun d9=>?_);exact Gc.out _ g1 _ g3 (aa hb _) (f1.alloc _) (an hb _ _) (f3.alloc _)
 have Gg:W (∀(v:H) (g1 g2:Nat),R w1.heap.size w1 v->At w1 v g1 Z1 3->At w1 v g2 Z2 5->T V .any rops Q S 3 #[J,J,J,J,J,J,J,J,J,J,J,J,J,J,J,J,J,J,J,J,J,J,O,O,O] (rfr a0 u0 q g o m d N kn x1 x2 x3 g1 g2 0 O J J J J J O) v):=fun v g1 g2 hb f1 f2=>by
  dsimp only [rfr,cond_true,cond_false];refine tkq g7 ip 22 ⟨Y 27,.build 107 #[(0,X 8),(1,X 11),(2,X 14),(3,X 17),(4,X 22),(5,X 26)],107,"parts.go:49",#[⟨3,Z⟩,⟨6,Z⟩,⟨9,Z⟩,⟨12,Z⟩,⟨17,Z⟩,⟨21,Z⟩],I⟩ (.agg #[G C (kn:Int),G P (x1:Int),G P (x2:Int),G P (x3:Int),U (Y ⟨g1,0,I⟩) N N,U (Y ⟨g2,0,I⟩) d d]) (HS.out _ hb) ?_;simp only [Act.put];refine wpAnyH_ready (rs:=[23]) zh zi ?_;refine AllReadyH.cons (o:=⟨Y 3,.alloc 107,0,"parts.go:49",#[],I⟩) rfl (fun K hK=>?_) AllReadyH.nil;go_simp;refine hK.out _ _ (HS.out _ (aa hb _)) (fun d9=>?_);exact HF.out _ g1 g2 _ (aa hb _) (f1.alloc _) (f2.alloc _) (an hb _ _)
 have IB:W (∀(v:H) (g3:Nat),R w1.heap.size w1 v->At w1 v g3 #[G C 0,G P 0,G P 0,G P 0,U I 0 0,U I 0 0] 107->T V .any rops Q S 4 #[J,J,J,J,J,J,J,J,J,J,J,J,J,J,J,J,J,O,J,J,J,O,O,J,O] (rfr a0 u0 q g o m d N kn x1 x2 x3 0 0 g3 J J J J O O O) v):=fun v g3 hb f3=>by
  dsimp only [rfr,cond_true,cond_false];refine wpAnyH_ready (rs:=[17,21]) zh zi ?_;refine AllReadyH.cons (o:=⟨Y 22,.makeSlice 27 (X 21) (X 21),27,"parts.go:49",#[⟨16,Z⟩,⟨16,Z⟩],I⟩) rfl (fun K hK=>?_) ?_;rotate_left;refine AllReadyH.cons (o:=⟨Y 26,.makeSlice 36 (X 25) (X 25),36,"parts.go:49",#[⟨20,Z⟩,⟨20,Z⟩],I⟩) rfl (fun K hK=>?_) AllReadyH.nil;rotate_left

  ·skip
   go_simp;refine hK.out _ _ (HS.out _ (aa hb _)) (fun d9=>?_);exact Ge.out _ _ g3 (aa hb _) (an hb _ _) (f3.alloc _)
  ·skip
   go_simp;refine hK.out _ _ (HS.out _ (aa hb _)) (fun d9=>?_);exact Gd.out _ _ g3 (aa hb _) (an hb _ _) (f3.alloc _)
 have IC:W (∀(v:H) (g2:Nat),R w1.heap.size w1 v->At w1 v g2 Z2 5->T V .any rops Q S 4 #[J,J,J,J,J,J,J,J,J,J,J,J,J,J,J,J,J,O,J,J,J,J,O,O,O] (rfr a0 u0 q g o m d N kn x1 x2 x3 0 g2 0 O J J J O J O) v):=fun v g2 hb f2=>by
  dsimp only [rfr,cond_true,cond_false];refine wpAnyH_ready (rs:=[17,23]) zh zi ?_;refine AllReadyH.cons (o:=⟨Y 22,.makeSlice 27 (X 21) (X 21),27,"parts.go:49",#[⟨16,Z⟩,⟨16,Z⟩],I⟩) rfl (fun K hK=>?_) ?_;rotate_left;refine AllReadyH.cons (o:=⟨Y 3,.alloc 107,0,"parts.go:49",#[],I⟩) rfl (fun K hK=>?_) AllReadyH.nil;rotate_left

  ·skip
   go_simp;refine hK.out _ _ (HS.out _ (aa hb _)) (fun d9=>?_);exact Gg.out _ _ g2 (aa hb _) (an hb _ _) (f2.alloc _)
  ·skip
   go_simp;refine hK.out _ _ (HS.out _ (aa hb _)) (fun d9=>?_);exact Gd.out _ g2 _ (aa hb _) (f2.alloc _) (an hb _ _)
 have ID:W (∀(v:H) (g1:Nat),R w1.heap.size w1 v->At w1 v g1 Z1 3->T V .any rops Q S 4 #[J,J,J,J,J,J,J,J,J,J,J,J,J,J,J,J,J,J,J,J,J,O,O,O,O] (rfr a0 u0 q g o m d N kn x1 x2 x3 g1 0 0 O J J J J O O) v):=fun v g1 hb f1=>by
  dsimp only [rfr,cond_true,cond_false];refine wpAnyH_ready (rs:=[21,23]) zh zi ?_;refine AllReadyH.cons (o:=⟨Y 26,.makeSlice 36 (X 25) (X 25),36,"parts.go:49",#[⟨20,Z⟩,⟨20,Z⟩],I⟩) rfl (fun K hK=>?_) ?_;rotate_left;refine AllReadyH.cons (o:=⟨Y 3,.alloc 107,0,"parts.go:49",#[],I⟩) rfl (fun K hK=>?_) AllReadyH.nil;rotate_left

  ·skip
   go_simp;refine hK.out _ _ (HS.out _ (aa hb _)) (fun d9=>?_);exact Gg.out _ g1 _ (aa hb _) (f1.alloc _) (an hb _ _)
  ·skip
   go_simp;refine hK.out _ _ (HS.out _ (aa hb _)) (fun d9=>?_);exact Ge.out _ g1 _ (aa hb _) (f1.alloc _) (an hb _ _)
 have LF:W (∀(v:H),R w1.heap.size w1 v->T V .any rops Q S 5 #[J,J,J,J,J,J,J,J,J,J,J,J,J,J,J,J,J,O,J,J,J,O,O,O,O] (rfr a0 u0 q g o m d N kn x1 x2 x3 0 0 0 O J J J O O O) v):=fun v hb=>by
  dsimp only [rfr,cond_true,cond_false];refine wpAnyH_ready (rs:=[17,21,23]) zh zi ?_;refine AllReadyH.cons (o:=⟨Y 22,.makeSlice 27 (X 21) (X 21),27,"parts.go:49",#[⟨16,Z⟩,⟨16,Z⟩],I⟩) rfl (fun K hK=>?_) ?_;rotate_left;refine AllReadyH.cons (o:=⟨Y 26,.makeSlice 36 (X 25) (X 25),36,"parts.go:49",#[⟨20,Z⟩,⟨20,Z⟩],I⟩) rfl (fun K hK=>?_) ?_;rotate_left;refine AllReadyH.cons (o:=⟨Y 3,.alloc 107,0,"parts.go:49",#[],I⟩) rfl (fun K hK=>?_) AllReadyH.nil;rotate_left

  ·skip
   go_simp;refine hK.out _ _ (HS.out _ (aa hb _)) (fun d9=>?_);exact ID.out _ _ (aa hb _) (an hb _ _)
  ·skip
   go_simp;refine hK.out _ _ (HS.out _ (aa hb _)) (fun d9=>?_);exact IC.out _ _ (aa hb _) (an hb _ _)
  ·skip
   go_simp;refine hK.out _ _ (HS.out _ (aa hb _)) (fun d9=>?_);exact IB.out _ _ (aa hb _) (an hb _ _)
 have ET:W (∀(v:H) (g1 g2 g3:Nat),R w1.heap.size w1 v->At w1 v g1 Z1 3->At w1 v g2 Z2 5->At w1 v g3 #[G C 0,G P 0,G P 0,G P 0,U I 0 0,U I 0 0] 107->T V .any rops Q S 3 #[J,J,J,J,J,J,J,J,J,J,J,J,O,J,J,J,J,J,J,J,J,J,O,J,O] (rfr a0 u0 q g o m d N kn x1 x2 x3 g1 g2 g3 J J J O J J O) v):=fun v g1 g2 g3 hb f1 f2 f3=>by
  dsimp only [rfr,cond_true,cond_false];refine wpAnyH_ready (rs:=[12]) zh zi ?_;refine AllReadyH.cons (o:=⟨Y 17,.call { callee:=.value (.func 277),args:=#[X 16],argTypes:=#[36]},3,"parts.go:53",#[⟨11,Z⟩,⟨9,.chain⟩],I⟩) rfl (fun K hK=>?_) AllReadyH.nil;rotate_left

  ·skip
   go_simp;refine(ES.out _ hb).mono ?_;rintro e w' ⟨rfl,rfl⟩;refine hK.out _ _ (HS.out _ hb) (fun d9=>?_);exact Gc.out _ g1 g2 g3 hb f1 f2 f3
 have Gh:W (∀(v:H) (g2 g3:Nat),R w1.heap.size w1 v->At w1 v g2 Z2 5->At w1 v g3 #[G C 0,G P 0,G P 0,G P 0,U I 0 0,U I 0 0] 107->T V .any rops Q S 4 #[J,J,J,J,J,J,J,J,J,J,J,J,O,J,J,J,J,O,J,J,J,J,O,J,O] (rfr a0 u0 q g o m d N kn x1 x2 x3 0 g2 g3 J J J O O J O) v):=fun v g2 g3 hb f2 f3=>by
  dsimp only [rfr,cond_true,cond_false];refine wpAnyH_ready (rs:=[12,17]) zh zi ?_;refine AllReadyH.cons (o:=⟨Y 17,.call { callee:=.value (.func 277),args:=#[X 16],argTypes:=#[36]},3,"parts.go:53",#[⟨11,Z⟩,⟨9,.chain⟩],I⟩) rfl (fun K hK=>?_) ?_;rotate_left;refine AllReadyH.cons (o:=⟨Y 22,.makeSlice 27 (X 21) (X 21),27,"parts.go:49",#[⟨16,Z⟩,⟨16,Z⟩],I⟩) rfl (fun K hK=>?_) AllReadyH.nil;rotate_left

  ·skip
   go_simp;refine(ES.out _ hb).mono ?_;rintro e w' ⟨rfl,rfl⟩;refine hK.out _ _ (HS.out _ hb) (fun d9=>?_);exact Gd.out _ g2 g3 hb f2 f3
  ·skip
   go_simp;refine hK.out _ _ (HS.out _ (aa hb _)) (fun d9=>?_);exact ET.out _ _ g2 g3 (aa hb _) (an hb _ _) (f2.alloc _) (f3.alloc _)
 have Gi:W (∀(v:H) (g1 g3:Nat),R w1.heap.size w1 v->At w1 v g1 Z1 3->At w1 v g3 #[G C 0,G P 0,G P 0,G P 0,U I 0 0,U I 0 0] 107->T V .any rops Q S 4 #[J,J,J,J,J,J,J,J,J,J,J,J,O,J,J,J,J,J,J,J,J,O,O,J,O] (rfr a0 u0 q g o m d N kn x1 x2 x3 g1 0 g3 J J J O J O O) v):=fun v g1 g3 hb f1 f3=>by
  dsimp only [rfr,cond_true,cond_false];refine wpAnyH_ready (rs:=[12,21]) zh zi ?_;refine AllReadyH.cons (o:=⟨Y 17,.call { callee:=.value (.func 277),args:=#[X 16],argTypes:=#[36]},3,"parts.go:53",#[⟨11,Z⟩,⟨9,.chain⟩],I⟩) rfl (fun K hK=>?_) ?_;rotate_left;refine AllReadyH.cons (o:=⟨Y 26,.makeSlice 36 (X 25) (X 25),36,"parts.go:49",#[⟨20,Z⟩,⟨20,Z⟩],I⟩) rfl (fun K hK=>?_) AllReadyH.nil;rotate_left

  ·skip
   go_simp;refine(ES.out _ hb).mono ?_;rintro e w' ⟨rfl,rfl⟩;refine hK.out _ _ (HS.out _ hb) (fun d9=>?_);exact Ge.out _ g1 g3 hb f1 f3
  ·skip
   go_simp;refine hK.out _ _ (HS.out _ (aa hb _)) (fun d9=>?_);exact ET.out _ g1 _ g3 (aa hb _) (f1.alloc _) (an hb _ _) (f3.alloc _)
 have Gj:W (∀(v:H) (g1 g2:Nat),R w1.heap.size w1 v->At w1 v g1 Z1 3->At w1 v g2 Z2 5->T V .any rops Q S 4 #[J,J,J,J,J,J,J,J,J,J,J,J,O,J,J,J,J,J,J,J,J,J,O,O,O] (rfr a0 u0 q g o m d N kn x1 x2 x3 g1 g2 0 O J J O J J O) v):=fun v g1 g2 hb f1 f2=>by
  dsimp only [rfr,cond_true,cond_false];refine wpAnyH_ready (rs:=[12,23]) zh zi ?_;refine AllReadyH.cons (o:=⟨Y 17,.call { callee:=.value (.func 277),args:=#[X 16],argTypes:=#[36]},3,"parts.go:53",#[⟨11,Z⟩,⟨9,.chain⟩],I⟩) rfl (fun K hK=>?_) ?_;rotate_left;refine AllReadyH.cons (o:=⟨Y 3,.alloc 107,0,"parts.go:49",#[],I⟩) rfl (fun K hK=>?_) AllReadyH.nil;rotate_left

  ·skip
   go_simp;refine(ES.out _ hb).mono ?_;rintro e w' ⟨rfl,rfl⟩;refine hK.out _ _ (HS.out _ hb) (fun d9=>?_);exact Gg.out _ g1 g2 hb f1 f2
  ·skip
   go_simp;refine hK.out _ _ (HS.out _ (aa hb _)) (fun d9=>?_);exact ET.out _ g1 g2 _ (aa hb _) (f1.alloc _) (f2.alloc _) (an hb _ _)
 have IE:W (∀(v:H) (g3:Nat),R w1.heap.size w1 v->At w1 v g3 #[G C 0,G P 0,G P 0,G P 0,U I 0 0,U I 0 0] 107->T V .any rops Q S 5 #[J,J,J,J,J,J,J,J,J,J,J,J,O,J,J,J,J,O,J,J,J,O,O,J,O] (rfr a0 u0 q g o m d N kn x1 x2 x3 0 0 g3 J J J O O O O) v):=fun v g3 hb f3=>by
  dsimp only [rfr,cond_true,cond_false];refine wpAnyH_ready (rs:=[12,17,21]) zh zi ?_;refine AllReadyH.cons (o:=⟨Y 17,.call { callee:=.value (.func 277),args:=#[X 16],argTypes:=#[36]},3,"parts.go:53",#[⟨11,Z⟩,⟨9,.chain⟩],I⟩) rfl (fun K hK=>?_) ?_;rotate_left;refine AllReadyH.cons (o:=⟨Y 22,.makeSlice 27 (X 21) (X 21),27,"parts.go:49",#[⟨16,Z⟩,⟨16,Z⟩],I⟩) rfl (fun K hK=>?_) ?_;rotate_left;refine AllReadyH.cons (o:=⟨Y 26,.makeSlice 36 (X 25) (X 25),36,"parts.go:49",#[⟨20,Z⟩,⟨20,Z⟩],I⟩) rfl (fun K hK=>?_) AllReadyH.nil;rotate_left

  ·skip
   go_simp;refine(ES.out _ hb).mono ?_;rintro e w' ⟨rfl,rfl⟩;refine hK.out _ _ (HS.out _ hb) (fun d9=>?_);exact IB.out _ g3 hb f3
  ·skip
   go_simp;refine hK.out _ _ (HS.out _ (aa hb _)) (fun d9=>?_);exact Gi.out _ _ g3 (aa hb _) (an hb _ _) (f3.alloc _)
  ·skip
   go_simp;refine hK.out _ _ (HS.out _ (aa hb _)) (fun d9=>?_);exact Gh.out _ _ g3 (aa hb _) (an hb _ _) (f3.alloc _)
 have IF:W (∀(v:H) (g2:Nat),R w1.heap.size w1 v->At w1 v g2 Z2 5->T V .any rops Q S 5 #[J,J,J,J,J,J,J,J,J,J,J,J,O,J,J,J,J,O,J,J,J,J,O,O,O] (rfr a0 u0 q g o m d N kn x1 x2 x3 0 g2 0 O J J O O J O) v):=fun v g2 hb f2=>by
  dsimp only [rfr,cond_true,cond_false];refine wpAnyH_ready (rs:=[12,17,23]) zh zi ?_;refine AllReadyH.cons (o:=⟨Y 17,.call { callee:=.value (.func 277),args:=#[X 16],argTypes:=#[36]},3,"parts.go:53",#[⟨11,Z⟩,⟨9,.chain⟩],I⟩) rfl (fun K hK=>?_) ?_;rotate_left;refine AllReadyH.cons (o:=⟨Y 22,.makeSlice 27 (X 21) (X 21),27,"parts.go:49",#[⟨16,Z⟩,⟨16,Z⟩],I⟩) rfl (fun K hK=>?_) ?_;rotate_left;refine AllReadyH.cons (o:=⟨Y 3,.alloc 107,0,"parts.go:49",#[],I⟩) rfl (fun K hK=>?_) AllReadyH.nil;rotate_left

  ·skip
   go_simp;refine(ES.out _ hb).mono ?_;rintro e w' ⟨rfl,rfl⟩;refine hK.out _ _ (HS.out _ hb) (fun d9=>?_);exact IC.out _ g2 hb f2
  ·skip
   go_simp;refine hK.out _ _ (HS.out _ (aa hb _)) (fun d9=>?_);exact Gj.out _ _ g2 (aa hb _) (an hb _ _) (f2.alloc _)
  ·skip
   go_simp;refine hK.out _ _ (HS.out _ (aa hb _)) (fun d9=>?_);exact Gh.out _ g2 _ (aa hb _) (f2.alloc _) (an hb _ _)
 have IG:W (∀(v:H) (g1:Nat),R w1.heap.size w1 v->At w1 v g1 Z1 3->T V .any rops Q S 5 #[J,J,J,J,J,J,J,J,J,J,J,J,O,J,J,J,J,J,J,J,J,O,O,O,O] (rfr a0 u0 q g o m d N kn x1 x2 x3 g1 0 0 O J J O J O O) v):=fun v g1 hb f1=>by
  dsimp only [rfr,cond_true,cond_false];refine wpAnyH_ready (rs:=[12,21,23]) zh zi ?_;refine AllReadyH.cons (o:=⟨Y 17,.call { callee:=.value (.func 277),args:=#[X 16],argTypes:=#[36]},3,"parts.go:53",#[⟨11,Z⟩,⟨9,.chain⟩],I⟩) rfl (fun K hK=>?_) ?_;rotate_left;refine AllReadyH.cons (o:=⟨Y 26,.makeSlice 36 (X 25) (X 25),36,"parts.go:49",#[⟨20,Z⟩,⟨20,Z⟩],I⟩) rfl (fun K hK=>?_) ?_;rotate_left;refine AllReadyH.cons (o:=⟨Y 3,.alloc 107,0,"parts.go:49",#[],I⟩) rfl (fun K hK=>?_) AllReadyH.nil;rotate_left

  ·skip
   go_simp;refine(ES.out _ hb).mono ?_;rintro e w' ⟨rfl,rfl⟩;refine hK.out _ _ (HS.out _ hb) (fun d9=>?_);exact ID.out _ g1 hb f1
  ·skip
   go_simp;refine hK.out _ _ (HS.out _ (aa hb _)) (fun d9=>?_);exact Gj.out _ g1 _ (aa hb _) (f1.alloc _) (an hb _ _)
  ·skip
   go_simp;refine hK.out _ _ (HS.out _ (aa hb _)) (fun d9=>?_);exact Gi.out _ g1 _ (aa hb _) (f1.alloc _) (an hb _ _)
 have LG:W (∀(v:H),R w1.heap.size w1 v->T V .any rops Q S 6 #[J,J,J,J,J,J,J,J,J,J,J,J,O,J,J,J,J,O,J,J,J,O,O,O,O] (rfr a0 u0 q g o m d N kn x1 x2 x3 0 0 0 O J J O O O O) v):=fun v hb=>by
  dsimp only [rfr,cond_true,cond_false];refine wpAnyH_ready (rs:=[12,17,21,23]) zh zi ?_;refine AllReadyH.cons (o:=⟨Y 17,.call { callee:=.value (.func 277),args:=#[X 16],argTypes:=#[36]},3,"parts.go:53",#[⟨11,Z⟩,⟨9,.chain⟩],I⟩) rfl (fun K hK=>?_) ?_;rotate_left;refine AllReadyH.cons (o:=⟨Y 22,.makeSlice 27 (X 21) (X 21),27,"parts.go:49",#[⟨16,Z⟩,⟨16,Z⟩],I⟩) rfl (fun K hK=>?_) ?_;rotate_left;refine AllReadyH.cons (o:=⟨Y 26,.makeSlice 36 (X 25) (X 25),36,"parts.go:49",#[⟨20,Z⟩,⟨20,Z⟩],I⟩) rfl (fun K hK=>?_) ?_;rotate_left;refine AllReadyH.cons (o:=⟨Y 3,.alloc 107,0,"parts.go:49",#[],I⟩) rfl (fun K hK=>?_) AllReadyH.nil;rotate_left

  ·skip
   go_simp;refine(ES.out _ hb).mono ?_;rintro e w' ⟨rfl,rfl⟩;refine hK.out _ _ (HS.out _ hb) (fun d9=>?_);exact LF.out _  hb 
  ·skip
   go_simp;refine hK.out _ _ (HS.out _ (aa hb _)) (fun d9=>?_);exact IG.out _ _ (aa hb _) (an hb _ _)
  ·skip
   go_simp;refine hK.out _ _ (HS.out _ (aa hb _)) (fun d9=>?_);exact IF.out _ _ (aa hb _) (an hb _ _)
  ·skip
   go_simp;refine hK.out _ _ (HS.out _ (aa hb _)) (fun d9=>?_);exact IE.out _ _ (aa hb _) (an hb _ _)
 have EU:W (∀(v:H) (g1 g2 g3:Nat),R w1.heap.size w1 v->At w1 v g1 Z1 3->At w1 v g2 Z2 5->At w1 v g3 #[G C 0,G P 0,G P 0,G P 0,U I 0 0,U I 0 0] 107->T V .any rops Q S 4 #[J,J,J,J,J,J,J,J,J,O,J,J,O,J,J,J,J,J,J,J,J,J,O,J,O] (rfr a0 u0 q g o m d N kn x1 x2 x3 g1 g2 g3 J J O O J J O) v):=fun v g1 g2 g3 hb f1 f2 f3=>by
  dsimp only [rfr,cond_true,cond_false];refine wpAnyH_ready (rs:=[9]) zh zi ?_;refine AllReadyH.cons (o:=⟨Y 14,.call { callee:=.value (.func 277),args:=#[X 13],argTypes:=#[36]},3,"parts.go:52",#[⟨8,Z⟩,⟨6,.chain⟩],I⟩) rfl (fun K hK=>?_) AllReadyH.nil;rotate_left

  ·skip
   go_simp;refine(D7.out _ hb).mono ?_;rintro e w' ⟨rfl,rfl⟩;refine hK.out _ _ (HS.out _ hb) (fun d9=>?_);exact ET.out _ g1 g2 g3 hb f1 f2 f3
 have Gk:W (∀(v:H) (g2 g3:Nat),R w1.heap.size w1 v->At w1 v g2 Z2 5->At w1 v g3 #[G C 0,G P 0,G P 0,G P 0,U I 0 0,U I 0 0] 107->T V .any rops Q S 5 #[J,J,J,J,J,J,J,J,J,O,J,J,O,J,J,J,J,O,J,J,J,J,O,J,O] (rfr a0 u0 q g o m d N kn x1 x2 x3 0 g2 g3 J J O O O J O) v):=fun v g2 g3 hb f2 f3=>by
  dsimp only [rfr,cond_true,cond_false];refine wpAnyH_ready (rs:=[9,17]) zh zi ?_;refine AllReadyH.cons (o:=⟨Y 14,.call { callee:=.value (.func 277),args:=#[X 13],argTypes:=#[36]},3,"parts.go:52",#[⟨8,Z⟩,⟨6,.chain⟩],I⟩) rfl (fun K hK=>?_) ?_;rotate_left;refine AllReadyH.cons (o:=⟨Y 22,.makeSlice 27 (X 21) (X 21),27,"parts.go:49",#[⟨16,Z⟩,⟨16,Z⟩],I⟩) rfl (fun K hK=>?_) AllReadyH.nil;rotate_left

  ·skip
   go_simp;refine(D7.out _ hb).mono ?_;rintro e w' ⟨rfl,rfl⟩;refine hK.out _ _ (HS.out _ hb) (fun d9=>?_);exact Gh.out _ g2 g3 hb f2 f3
  ·skip
   go_simp;refine hK.out _ _ (HS.out _ (aa hb _)) (fun d9=>?_);exact EU.out _ _ g2 g3 (aa hb _) (an hb _ _) (f2.alloc _) (f3.alloc _)
 have Gl:W (∀(v:H) (g1 g3:Nat),R w1.heap.size w1 v->At w1 v g1 Z1 3->At w1 v g3 #[G C 0,G P 0,G P 0,G P 0,U I 0 0,U I 0 0] 107->T V .any rops Q S 5 #[J,J,J,J,J,J,J,J,J,O,J,J,O,J,J,J,J,J,J,J,J,O,O,J,O] (rfr a0 u0 q g o m d N kn x1 x2 x3 g1 0 g3 J J O O J O O) v):=fun v g1 g3 hb f1 f3=>by
  dsimp only [rfr,cond_true,cond_false];refine wpAnyH_ready (rs:=[9,21]) zh zi ?_;refine AllReadyH.cons (o:=⟨Y 14,.call { callee:=.value (.func 277),args:=#[X 13],argTypes:=#[36]},3,"parts.go:52",#[⟨8,Z⟩,⟨6,.chain⟩],I⟩) rfl (fun K hK=>?_) ?_;rotate_left;refine AllReadyH.cons (o:=⟨Y 26,.makeSlice 36 (X 25) (X 25),36,"parts.go:49",#[⟨20,Z⟩,⟨20,Z⟩],I⟩) rfl (fun K hK=>?_) AllReadyH.nil;rotate_left

  ·skip
   go_simp;refine(D7.out _ hb).mono ?_;rintro e w' ⟨rfl,rfl⟩;refine hK.out _ _ (HS.out _ hb) (fun d9=>?_);exact Gi.out _ g1 g3 hb f1 f3
  ·skip
   go_simp;refine hK.out _ _ (HS.out _ (aa hb _)) (fun d9=>?_);exact EU.out _ g1 _ g3 (aa hb _) (f1.alloc _) (an hb _ _) (f3.alloc _)
 have Gm:W (∀(v:H) (g1 g2:Nat),R w1.heap.size w1 v->At w1 v g1 Z1 3->At w1 v g2 Z2 5->T V .any rops Q S 5 #[J,J,J,J,J,J,J,J,J,O,J,J,O,J,J,J,J,J,J,J,J,J,O,O,O] (rfr a0 u0 q g o m d N kn x1 x2 x3 g1 g2 0 O J O O J J O) v):=fun v g1 g2 hb f1 f2=>by
  dsimp only [rfr,cond_true,cond_false];refine wpAnyH_ready (rs:=[9,23]) zh zi ?_;refine AllReadyH.cons (o:=⟨Y 14,.call { callee:=.value (.func 277),args:=#[X 13],argTypes:=#[36]},3,"parts.go:52",#[⟨8,Z⟩,⟨6,.chain⟩],I⟩) rfl (fun K hK=>?_) ?_;rotate_left;refine AllReadyH.cons (o:=⟨Y 3,.alloc 107,0,"parts.go:49",#[],I⟩) rfl (fun K hK=>?_) AllReadyH.nil;rotate_left

  ·skip
   go_simp;refine(D7.out _ hb).mono ?_;rintro e w' ⟨rfl,rfl⟩;refine hK.out _ _ (HS.out _ hb) (fun d9=>?_);exact Gj.out _ g1 g2 hb f1 f2
  ·skip
   go_simp;refine hK.out _ _ (HS.out _ (aa hb _)) (fun d9=>?_);exact EU.out _ g1 g2 _ (aa hb _) (f1.alloc _) (f2.alloc _) (an hb _ _)
 have IH:W (∀(v:H) (g3:Nat),R w1.heap.size w1 v->At w1 v g3 #[G C 0,G P 0,G P 0,G P 0,U I 0 0,U I 0 0] 107->T V .any rops Q S 6 #[J,J,J,J,J,J,J,J,J,O,J,J,O,J,J,J,J,O,J,J,J,O,O,J,O] (rfr a0 u0 q g o m d N kn x1 x2 x3 0 0 g3 J J O O O O O) v):=fun v g3 hb f3=>by
  dsimp only [rfr,cond_true,cond_false];refine wpAnyH_ready (rs:=[9,17,21]) zh zi ?_;refine AllReadyH.cons (o:=⟨Y 14,.call { callee:=.value (.func 277),args:=#[X 13],argTypes:=#[36]},3,"parts.go:52",#[⟨8,Z⟩,⟨6,.chain⟩],I⟩) rfl (fun K hK=>?_) ?_;rotate_left;refine AllReadyH.cons (o:=⟨Y 22,.makeSlice 27 (X 21) (X 21),27,"parts.go:49",#[⟨16,Z⟩,⟨16,Z⟩],I⟩) rfl (fun K hK=>?_) ?_;rotate_left;refine AllReadyH.cons (o:=⟨Y 26,.makeSlice 36 (X 25) (X 25),36,"parts.go:49",#[⟨20,Z⟩,⟨20,Z⟩],I⟩) rfl (fun K hK=>?_) AllReadyH.nil;rotate_left

  ·skip
   go_simp;refine(D7.out _ hb).mono ?_;rintro e w' ⟨rfl,rfl⟩;refine hK.out _ _ (HS.out _ hb) (fun d9=>?_);exact IE.out _ g3 hb f3
  ·skip
   go_simp;refine hK.out _ _ (HS.out _ (aa hb _)) (fun d9=>?_);exact Gl.out _ _ g3 (aa hb _) (an hb _ _) (f3.alloc _)
  ·skip
   go_simp;refine hK.out _ _ (HS.out _ (aa hb _)) (fun d9=>?_);exact Gk.out _ _ g3 (aa hb _) (an hb _ _) (f3.alloc _)
 have II:W (∀(v:H) (g2:Nat),R w1.heap.size w1 v->At w1 v g2 Z2 5->T V .any rops Q S 6 #[J,J,J,J,J,J,J,J,J,O,J,J,O,J,J,J,J,O,J,J,J,J,O,O,O] (rfr a0 u0 q g o m d N kn x1 x2 x3 0 g2 0 O J O O O J O) v):=fun v g2 hb f2=>by
  dsimp only [rfr,cond_true,cond_false];refine wpAnyH_ready (rs:=[9,17,23]) zh zi ?_;refine AllReadyH.cons (o:=⟨Y 14,.call { callee:=.value (.func 277),args:=#[X 13],argTypes:=#[36]},3,"parts.go:52",#[⟨8,Z⟩,⟨6,.chain⟩],I⟩) rfl (fun K hK=>?_) ?_;rotate_left;refine AllReadyH.cons (o:=⟨Y 22,.makeSlice 27 (X 21) (X 21),27,"parts.go:49",#[⟨16,Z⟩,⟨16,Z⟩],I⟩) rfl (fun K hK=>?_) ?_;rotate_left;refine AllReadyH.cons (o:=⟨Y 3,.alloc 107,0,"parts.go:49",#[],I⟩) rfl (fun K hK=>?_) AllReadyH.nil;rotate_left

  ·skip
   go_simp;refine(D7.out _ hb).mono ?_;rintro e w' ⟨rfl,rfl⟩;refine hK.out _ _ (HS.out _ hb) (fun d9=>?_);exact IF.out _ g2 hb f2
  ·skip
   go_simp;refine hK.out _ _ (HS.out _ (aa hb _)) (fun d9=>?_);exact Gm.out _ _ g2 (aa hb _) (an hb _ _) (f2.alloc _)
  ·skip
   go_simp;refine hK.out _ _ (HS.out _ (aa hb _)) (fun d9=>?_);exact Gk.out _ g2 _ (aa hb _) (f2.alloc _) (an hb _ _)
 have IJ:W (∀(v:H) (g1:Nat),R w1.heap.size w1 v->At w1 v g1 Z1 3->T V .any rops Q S 6 #[J,J,J,J,J,J,J,J,J,O,J,J,O,J,J,J,J,J,J,J,J,O,O,O,O] (rfr a0 u0 q g o m d N kn x1 x2 x3 g1 0 0 O J O O J O O) v):=fun v g1 hb f1=>by
  dsimp only [rfr,cond_true,cond_false];refine wpAnyH_ready (rs:=[9,21,23]) zh zi ?_;refine AllReadyH.cons (o:=⟨Y 14,.call { callee:=.value (.func 277),args:=#[X 13],argTypes:=#[36]},3,"parts.go:52",#[⟨8,Z⟩,⟨6,.chain⟩],I⟩) rfl (fun K hK=>?_) ?_;rotate_left;refine AllReadyH.cons (o:=⟨Y 26,.makeSlice 36 (X 25) (X 25),36,"parts.go:49",#[⟨20,Z⟩,⟨20,Z⟩],I⟩) rfl (fun K hK=>?_) ?_;rotate_left;refine AllReadyH.cons (o:=⟨Y 3,.alloc 107,0,"parts.go:49",#[],I⟩) rfl (fun K hK=>?_) AllReadyH.nil;rotate_left

  ·skip
   go_simp;refine(D7.out _ hb).mono ?_;rintro e w' ⟨rfl,rfl⟩;refine hK.out _ _ (HS.out _ hb) (fun d9=>?_);exact IG.out _ g1 hb f1
  ·skip
   go_simp;refine hK.out _ _ (HS.out _ (aa hb _)) (fun d9=>?_);exact Gm.out _ g1 _ (aa hb _) (f1.alloc _) (an hb _ _)
  ·skip
   go_simp;refine hK.out _ _ (HS.out _ (aa hb _)) (fun d9=>?_);exact Gl.out _ g1 _ (aa hb _) (f1.alloc _) (an hb _ _)
 have LH:W (∀(v:H),R w1.heap.size w1 v->T V .any rops Q S 7 #[J,J,J,J,J,J,J,J,J,O,J,J,O,J,J,J,J,O,J,J,J,O,O,O,O] (rfr a0 u0 q g o m d N kn x1 x2 x3 0 0 0 O J O O O O O) v):=fun v hb=>by
  dsimp only [rfr,cond_true,cond_false];refine wpAnyH_ready (rs:=[9,17,21,23]) zh zi ?_;refine AllReadyH.cons (o:=⟨Y 14,.call { callee:=.value (.func 277),args:=#[X 13],argTypes:=#[36]},3,"parts.go:52",#[⟨8,Z⟩,⟨6,.chain⟩],I⟩) rfl (fun K hK=>?_) ?_;rotate_left;refine AllReadyH.cons (o:=⟨Y 22,.makeSlice 27 (X 21) (X 21),27,"parts.go:49",#[⟨16,Z⟩,⟨16,Z⟩],I⟩) rfl (fun K hK=>?_) ?_;rotate_left;refine AllReadyH.cons (o:=⟨Y 26,.makeSlice 36 (X 25) (X 25),36,"parts.go:49",#[⟨20,Z⟩,⟨20,Z⟩],I⟩) rfl (fun K hK=>?_) ?_;rotate_left;refine AllReadyH.cons (o:=⟨Y 3,.alloc 107,0,"parts.go:49",#[],I⟩) rfl (fun K hK=>?_) AllReadyH.nil;rotate_left

  ·skip
   go_simp;refine(D7.out _ hb).mono ?_;rintro e w' ⟨rfl,rfl⟩;refine hK.out _ _ (HS.out _ hb) (fun d9=>?_);exact LG.out _  hb 
  ·skip
   go_simp;refine hK.out _ _ (HS.out _ (aa hb _)) (fun d9=>?_);exact IJ.out _ _ (aa hb _) (an hb _ _)
  ·skip
   go_simp;refine hK.out _ _ (HS.out _ (aa hb _)) (fun d9=>?_);exact II.out _ _ (aa hb _) (an hb _ _)
  ·skip
   go_simp;refine hK.out _ _ (HS.out _ (aa hb _)) (fun d9=>?_);exact IH.out _ _ (aa hb _) (an hb _ _)
 have Gn:W (∀(v:H) (g1 g2 g3:Nat),R w1.heap.size w1 v->At w1 v g1 Z1 3->At w1 v g2 Z2 5->At w1 v g3 #[G C 0,G P 0,G P 0,G P 0,U I 0 0,U I 0 0] 107->T V .any rops Q S 5 #[J,J,J,J,J,J,O,J,J,O,J,J,O,J,J,J,J,J,J,J,J,J,O,J,O] (rfr a0 u0 q g o m d N kn x1 x2 x3 g1 g2 g3 J O O O J J O) v):=fun v g1 g2 g3 hb f1 f2 f3=>by
  dsimp only [rfr,cond_true,cond_false];refine wpAnyH_ready (rs:=[6]) zh zi ?_;refine AllReadyH.cons (o:=⟨Y 11,.call { callee:=.value (.func 277),args:=#[X 10],argTypes:=#[36]},3,"parts.go:51",#[⟨5,Z⟩],I⟩) rfl (fun K hK=>?_) AllReadyH.nil;rotate_left

  ·skip
   go_simp;refine(kp.out _ hb).mono ?_;rintro e w' ⟨rfl,rfl⟩;refine hK.out _ _ (HS.out _ hb) (fun d9=>?_);exact EU.out _ g1 g2 g3 hb f1 f2 f3
 have IK:W (∀(v:H) (g2 g3:Nat),R w1.heap.size w1 v->At w1 v g2 Z2 5->At w1 v g3 #[G C 0,G P 0,G P 0,G P 0,U I 0 0,U I 0 0] 107->T V .any rops Q S 6 #[J,J,J,J,J,J,O,J,J,O,J,J,O,J,J,J,J,O,J,J,J,J,O,J,O] (rfr a0 u0 q g o m d N kn x1 x2 x3 0 g2 g3 J O O O O J O) v):=fun v g2 g3 hb f2 f3=>by
  dsimp only [rfr,cond_true,cond_false];refine wpAnyH_ready (rs:=[6,17]) zh zi ?_;refine AllReadyH.cons (o:=⟨Y 11,.call { callee:=.value (.func 277),args:=#[X 10],argTypes:=#[36]},3,"parts.go:51",#[⟨5,Z⟩],I⟩) rfl (fun K hK=>?_) ?_;rotate_left;refine AllReadyH.cons (o:=⟨Y 22,.makeSlice 27 (X 21) (X 21),27,"parts.go:49",#[⟨16,Z⟩,⟨16,Z⟩],I⟩) rfl (fun K hK=>?_) AllReadyH.nil;rotate_left

  ·skip
   go_simp;refine(kp.out _ hb).mono ?_;rintro e w' ⟨rfl,rfl⟩;refine hK.out _ _ (HS.out _ hb) (fun d9=>?_);exact Gk.out _ g2 g3 hb f2 f3
  ·skip
   go_simp;refine hK.out _ _ (HS.out _ (aa hb _)) (fun d9=>?_);exact Gn.out _ _ g2 g3 (aa hb _) (an hb _ _) (f2.alloc _) (f3.alloc _)
 have IL:W (∀(v:H) (g1 g3:Nat),R w1.heap.size w1 v->At w1 v g1 Z1 3->At w1 v g3 #[G C 0,G P 0,G P 0,G P 0,U I 0 0,U I 0 0] 107->T V .any rops Q S 6 #[J,J,J,J,J,J,O,J,J,O,J,J,O,J,J,J,J,J,J,J,J,O,O,J,O] (rfr a0 u0 q g o m d N kn x1 x2 x3 g1 0 g3 J O O O J O O) v):=fun v g1 g3 hb f1 f3=>by
  dsimp only [rfr,cond_true,cond_false];refine wpAnyH_ready (rs:=[6,21]) zh zi ?_;refine AllReadyH.cons (o:=⟨Y 11,.call { callee:=.value (.func 277),args:=#[X 10],argTypes:=#[36]},3,"parts.go:51",#[⟨5,Z⟩],I⟩) rfl (fun K hK=>?_) ?_;rotate_left;refine AllReadyH.cons (o:=⟨Y 26,.makeSlice 36 (X 25) (X 25),36,"parts.go:49",#[⟨20,Z⟩,⟨20,Z⟩],I⟩) rfl (fun K hK=>?_) AllReadyH.nil;rotate_left

  ·skip
   go_simp;refine(kp.out _ hb).mono ?_;rintro e w' ⟨rfl,rfl⟩;refine hK.out _ _ (HS.out _ hb) (fun d9=>?_);exact Gl.out _ g1 g3 hb f1 f3
  ·skip
   go_simp;refine hK.out _ _ (HS.out _ (aa hb _)) (fun d9=>?_);exact Gn.out _ g1 _ g3 (aa hb _) (f1.alloc _) (an hb _ _) (f3.alloc _)
 have IM:W (∀(v:H) (g1 g2:Nat),R w1.heap.size w1 v->At w1 v g1 Z1 3->At w1 v g2 Z2 5->T V .any rops Q S 6 #[J,J,J,J,J,J,O,J,J,O,J,J,O,J,J,J,J,J,J,J,J,J,O,O,O] (rfr a0 u0 q g o m d N kn x1 x2 x3 g1 g2 0 O O O O J J O) v):=fun v g1 g2 hb f1 f2=>by
  dsimp only [rfr,cond_true,cond_false];refine wpAnyH_ready (rs:=[6,23]) zh zi ?_;refine AllReadyH.cons (o:=⟨Y 11,.call { callee:=.value (.func 277),args:=#[X 10],argTypes:=#[36]},3,"parts.go:51",#[⟨5,Z⟩],I⟩) rfl (fun K hK=>?_) ?_;rotate_left;refine AllReadyH.cons (o:=⟨Y 3,.alloc 107,0,"parts.go:49",#[],I⟩) rfl (fun K hK=>?_) AllReadyH.nil;rotate_left

  ·skip
   go_simp;refine(kp.out _ hb).mono ?_;rintro e w' ⟨rfl,rfl⟩;refine hK.out _ _ (HS.out _ hb) (fun d9=>?_);exact Gm.out _ g1 g2 hb f1 f2
  ·skip
   go_simp;refine hK.out _ _ (HS.out _ (aa hb _)) (fun d9=>?_);exact Gn.out _ g1 g2 _ (aa hb _) (f1.alloc _) (f2.alloc _) (an hb _ _)
 have LI:W (∀(v:H) (g3:Nat),R w1.heap.size w1 v->At w1 v g3 #[G C 0,G P 0,G P 0,G P 0,U I 0 0,U I 0 0] 107->T V .any rops Q S 7 #[J,J,J,J,J,J,O,J,J,O,J,J,O,J,J,J,J,O,J,J,J,O,O,J,O] (rfr a0 u0 q g o m d N kn x1 x2 x3 0 0 g3 J O O O O O O) v):=fun v g3 hb f3=>by
  dsimp only [rfr,cond_true,cond_false];refine wpAnyH_ready (rs:=[6,17,21]) zh zi ?_;refine AllReadyH.cons (o:=⟨Y 11,.call { callee:=.value (.func 277),args:=#[X 10],argTypes:=#[36]},3,"parts.go:51",#[⟨5,Z⟩],I⟩) rfl (fun K hK=>?_) ?_;rotate_left;refine AllReadyH.cons (o:=⟨Y 22,.makeSlice 27 (X 21) (X 21),27,"parts.go:49",#[⟨16,Z⟩,⟨16,Z⟩],I⟩) rfl (fun K hK=>?_) ?_;rotate_left;refine AllReadyH.cons (o:=⟨Y 26,.makeSlice 36 (X 25) (X 25),36,"parts.go:49",#[⟨20,Z⟩,⟨20,Z⟩],I⟩) rfl (fun K hK=>?_) AllReadyH.nil;rotate_left

  ·skip
   go_simp;refine(kp.out _ hb).mono ?_;rintro e w' ⟨rfl,rfl⟩;refine hK.out _ _ (HS.out _ hb) (fun d9=>?_);exact IH.out _ g3 hb f3
  ·skip
   go_simp;refine hK.out _ _ (HS.out _ (aa hb _)) (fun d9=>?_);exact IL.out _ _ g3 (aa hb _) (an hb _ _) (f3.alloc _)
  ·skip
   go_simp;refine hK.out _ _ (HS.out _ (aa hb _)) (fun d9=>?_);exact IK.out _ _ g3 (aa hb _) (an hb _ _) (f3.alloc _)
 have LJ:W (∀(v:H) (g2:Nat),R w1.heap.size w1 v->At w1 v g2 Z2 5->T V .any rops Q S 7 #[J,J,J,J,J,J,O,J,J,O,J,J,O,J,J,J,J,O,J,J,J,J,O,O,O] (rfr a0 u0 q g o m d N kn x1 x2 x3 0 g2 0 O O O O O J O) v):=fun v g2 hb f2=>by
  dsimp only [rfr,cond_true,cond_false];refine wpAnyH_ready (rs:=[6,17,23]) zh zi ?_;refine AllReadyH.cons (o:=⟨Y 11,.call { callee:=.value (.func 277),args:=#[X 10],argTypes:=#[36]},3,"parts.go:51",#[⟨5,Z⟩],I⟩) rfl (fun K hK=>?_) ?_;rotate_left;refine AllReadyH.cons (o:=⟨Y 22,.makeSlice 27 (X 21) (X 21),27,"parts.go:49",#[⟨16,Z⟩,⟨16,Z⟩],I⟩) rfl (fun K hK=>?_) ?_;rotate_left;refine AllReadyH.cons (o:=⟨Y 3,.alloc 107,0,"parts.go:49",#[],I⟩) rfl (fun K hK=>?_) AllReadyH.nil;rotate_left

  ·skip
   go_simp;refine(kp.out _ hb).mono ?_;rintro e w' ⟨rfl,rfl⟩;refine hK.out _ _ (HS.out _ hb) (fun d9=>?_);exact II.out _ g2 hb f2
  ·skip
   go_simp;refine hK.out _ _ (HS.out _ (aa hb _)) (fun d9=>?_);exact IM.out _ _ g2 (aa hb _) (an hb _ _) (f2.alloc _)
  ·skip
   go_simp;refine hK.out _ _ (HS.out _ (aa hb _)) (fun d9=>?_);exact IK.out _ g2 _ (aa hb _) (f2.alloc _) (an hb _ _)
 have LK:W (∀(v:H) (g1:Nat),R w1.heap.size w1 v->At w1 v g1 Z1 3->T V .any rops Q S 7 #[J,J,J,J,J,J,O,J,J,O,J,J,O,J,J,J,J,J,J,J,J,O,O,O,O] (rfr a0 u0 q g o m d N kn x1 x2 x3 g1 0 0 O O O O J O O) v):=fun v g1 hb f1=>by
  dsimp only [rfr,cond_true,cond_false];refine wpAnyH_ready (rs:=[6,21,23]) zh zi ?_;refine AllReadyH.cons (o:=⟨Y 11,.call { callee:=.value (.func 277),args:=#[X 10],argTypes:=#[36]},3,"parts.go:51",#[⟨5,Z⟩],I⟩) rfl (fun K hK=>?_) ?_;rotate_left;refine AllReadyH.cons (o:=⟨Y 26,.makeSlice 36 (X 25) (X 25),36,"parts.go:49",#[⟨20,Z⟩,⟨20,Z⟩],I⟩) rfl (fun K hK=>?_) ?_;rotate_left;refine AllReadyH.cons (o:=⟨Y 3,.alloc 107,0,"parts.go:49",#[],I⟩) rfl (fun K hK=>?_) AllReadyH.nil;rotate_left

  ·skip
   go_simp;refine(kp.out _ hb).mono ?_;rintro e w' ⟨rfl,rfl⟩;refine hK.out _ _ (HS.out _ hb) (fun d9=>?_);exact IJ.out _ g1 hb f1
  ·skip
   go_simp;refine hK.out _ _ (HS.out _ (aa hb _)) (fun d9=>?_);exact IM.out _ g1 _ (aa hb _) (f1.alloc _) (an hb _ _)
  ·skip
   go_simp;refine hK.out _ _ (HS.out _ (aa hb _)) (fun d9=>?_);exact IL.out _ g1 _ (aa hb _) (f1.alloc _) (an hb _ _)
 have LL:W (∀(v:H),R w1.heap.size w1 v->T V .any rops Q S 8 #[J,J,J,J,J,J,O,J,J,O,J,J,O,J,J,J,J,O,J,J,J,O,O,O,O] (rfr a0 u0 q g o m d N kn x1 x2 x3 0 0 0 O O O O O O O) v):=fun v hb=>by
  dsimp only [rfr,cond_true,cond_false];refine wpAnyH_ready (rs:=[6,17,21,23]) zh zi ?_;refine AllReadyH.cons (o:=⟨Y 11,.call { callee:=.value (.func 277),args:=#[X 10],argTypes:=#[36]},3,"parts.go:51",#[⟨5,Z⟩],I⟩) rfl (fun K hK=>?_) ?_;rotate_left;refine AllReadyH.cons (o:=⟨Y 22,.makeSlice 27 (X 21) (X 21),27,"parts.go:49",#[⟨16,Z⟩,⟨16,Z⟩],I⟩) rfl (fun K hK=>?_) ?_;rotate_left;refine AllReadyH.cons (o:=⟨Y 26,.makeSlice 36 (X 25) (X 25),36,"parts.go:49",#[⟨20,Z⟩,⟨20,Z⟩],I⟩) rfl (fun K hK=>?_) ?_;rotate_left;refine AllReadyH.cons (o:=⟨Y 3,.alloc 107,0,"parts.go:49",#[],I⟩) rfl (fun K hK=>?_) AllReadyH.nil;rotate_left

  ·skip
   go_simp;refine(kp.out _ hb).mono ?_;rintro e w' ⟨rfl,rfl⟩;refine hK.out _ _ (HS.out _ hb) (fun d9=>?_);exact LH.out _  hb 
  ·skip
   go_simp;refine hK.out _ _ (HS.out _ (aa hb _)) (fun d9=>?_);exact LK.out _ _ (aa hb _) (an hb _ _)
  ·skip
   go_simp;refine hK.out _ _ (HS.out _ (aa hb _)) (fun d9=>?_);exact LJ.out _ _ (aa hb _) (an hb _ _)
  ·skip
   go_simp;refine hK.out _ _ (HS.out _ (aa hb _)) (fun d9=>?_);exact LI.out _ _ (aa hb _) (an hb _ _)
 refine wp_region_held_drew (S:=S) zh (HS.out _ (bdw _ _)) (fun d9=>?_);have hb:R w1.heap.size w1 w1.drew:=bdw _ _;rw [show rops.size=25 from by kernel_rfl,show Array.replicate 25 O=#[O,O,O,O,O,O,O,O,O,O,O,O,O,O,O,O,O,O,O,O,O,O,O,O,O] from by kernel_rfl];refine tkq g7 ip 0 ⟨Y 5,.fieldAddr 247 (X 1) 1,0,"parts.go:49",#[],I⟩ (D (Y ⟨q,1,I⟩)) (HS.out _ hb) ?_;show T V .any rops Q S 24 #[J,O,O,O,O,O,O,O,O,O,O,O,O,O,O,O,O,O,O,O,O,O,O,O,O] ⟨#[a0,D (Y ⟨q,0,I⟩),D (Y ⟨q+1,0,I⟩),u0,u0,D (Y ⟨q,1,I⟩),u0,u0,u0,u0,u0,u0,u0,u0,u0,u0,u0,u0,u0,u0,u0,u0,u0,u0,u0,u0,u0,u0,u0,u0,u0,u0,u0,u0,u0,u0,u0,u0,u0,u0,u0,u0,u0,u0,u0,u0,u0,u0,u0],[]⟩ w1.drew;refine tkq g7 ip 1 ⟨Y 6,.load 36 (X 5),36,"parts.go:49",#[⟨0,Z⟩],I⟩ (U (Y ⟨g,o+2,I⟩) 1 1) (HS.out _ hb) ?_;refine tkq g7 ip 2 ⟨Y 7,.indexAddr 36 (X 6) (.const (G P 0)),0,"parts.go:49",#[⟨1,Z⟩],I⟩ (D (Y ⟨g,o+2,I⟩)) (HS.out _ hb) ?_;refine tkq g7 ip 3 ⟨Y 8,.load 5 (X 7),5,"parts.go:49",#[⟨2,Z⟩],I⟩ (G C (kn:Int)) (HS.out _ hb) ?_;refine tkq g7 ip 4 ⟨Y 9,.fieldAddr 247 (X 1) 2,0,"parts.go:49",#[],I⟩ (D (Y ⟨q,2,I⟩)) (HS.out _ hb) ?_;show T V .any rops Q S 20 #[J,J,J,J,J,O,O,O,O,O,O,O,O,O,O,O,O,O,O,O,O,O,O,O,O] ⟨#[a0,D (Y ⟨q,0,I⟩),D (Y ⟨q+1,0,I⟩),u0,u0,D (Y ⟨q,1,I⟩),U (Y ⟨g,o+2,I⟩) 1 1,D (Y ⟨g,o+2,I⟩),G C (kn:Int),D (Y ⟨q,2,I⟩),u0,u0,u0,u0,u0,u0,u0,u0,u0,u0,u0,u0,u0,u0,u0,u0,u0,u0,u0,u0,u0,u0,u0,u0,u0,u0,u0,u0,u0,u0,u0,u0,u0,u0,u0,u0,u0,u0,u0],[]⟩ w1.drew;refine tkq g7 ip 5 ⟨Y 10,.load 36 (X 9),36,"parts.go:49",#[⟨4,Z⟩],I⟩ (U (Y ⟨g,o+3,I⟩) 1 1) (HS.out _ hb) ?_;refine tkq g7 ip 7 ⟨Y 12,.fieldAddr 247 (X 1) 3,0,"parts.go:49",#[],I⟩ (D (Y ⟨q,3,I⟩)) (HS.out _ hb) ?_;refine tkq g7 ip 8 ⟨Y 13,.load 36 (X 12),36,"parts.go:49",#[⟨7,Z⟩],I⟩ (U (Y ⟨g,o+4,I⟩) 4 4) (HS.out _ hb) ?_;refine tkq g7 ip 10 ⟨Y 15,.fieldAddr 247 (X 1) 4,0,"parts.go:49",#[],I⟩ (D (Y ⟨q,4,I⟩)) (HS.out _ hb) ?_;show T V .any rops Q S 16 #[J,J,J,J,J,J,O,J,J,O,J,O,O,O,O,O,O,O,O,O,O,O,O,O,O] ⟨#[a0,D (Y ⟨q,0,I⟩),D (Y ⟨q+1,0,I⟩),u0,u0,D (Y ⟨q,1,I⟩),U (Y ⟨g,o+2,I⟩) 1 1,D (Y ⟨g,o+2,I⟩),G C (kn:Int),D (Y ⟨q,2,I⟩),U (Y ⟨g,o+3,I⟩) 1 1,u0,D (Y ⟨q,3,I⟩),U (Y ⟨g,o+4,I⟩) 4 4,u0,D (Y ⟨q,4,I⟩),u0,u0,u0,u0,u0,u0,u0,u0,u0,u0,u0,u0,u0,u0,u0,u0,u0,u0,u0,u0,u0,u0,u0,u0,u0,u0,u0,u0,u0,u0,u0,u0,u0],[]⟩ w1.drew;refine tkq g7 ip 11 ⟨Y 16,.load 36 (X 15),36,"parts.go:49",#[⟨10,Z⟩],I⟩ (U (Y ⟨g,o+8,I⟩) 4 4) (HS.out _ hb) ?_;refine tkq g7 ip 13 ⟨Y 18,.fieldAddr 247 (X 1) 5,0,"parts.go:49",#[],I⟩ (D (Y ⟨q,5,I⟩)) (HS.out _ hb) ?_;refine tkq g7 ip 14 ⟨Y 19,.load 36 (X 18),36,"parts.go:49",#[⟨13,Z⟩],I⟩ (U (Y ⟨g,o+12,I⟩) m m) (HS.out _ hb) ?_
 refine tkq g7 ip 15 ⟨Y 20,.call { callee:=Callee.builtin Builtin.len,args:=#[X 19],argTypes:=#[36]},3,"parts.go:49",#[⟨14,Z⟩],I⟩ (G P (m:Int)) (HS.out _ hb) ?_;show T V .any rops Q S 12 #[J,J,J,J,J,J,O,J,J,O,J,J,O,J,J,J,O,O,O,O,O,O,O,O,O] ⟨#[a0,D (Y ⟨q,0,I⟩),D (Y ⟨q+1,0,I⟩),u0,u0,D (Y ⟨q,1,I⟩),U (Y ⟨g,o+2,I⟩) 1 1,D (Y ⟨g,o+2,I⟩),G C (kn:Int),D (Y ⟨q,2,I⟩),U (Y ⟨g,o+3,I⟩) 1 1,u0,D (Y ⟨q,3,I⟩),U (Y ⟨g,o+4,I⟩) 4 4,u0,D (Y ⟨q,4,I⟩),U (Y ⟨g,o+8,I⟩) 4 4,u0,D (Y ⟨q,5,I⟩),U (Y ⟨g,o+12,I⟩) m m,G P (m:Int),u0,u0,u0,u0,u0,u0,u0,u0,u0,u0,u0,u0,u0,u0,u0,u0,u0,u0,u0,u0,u0,u0,u0,u0,u0,u0,u0,u0],[]⟩ w1.drew;refine tkq g7 ip 16 ⟨Y 21,.binOp BinOp.quo 3 (X 20) (.const (G P 4)) 3,3,"parts.go:49",#[⟨15,Z⟩],I⟩ (G P (N:Int)) (HS.out _ hb) ?_;refine tkq g7 ip 18 ⟨Y 23,.fieldAddr 247 (X 1) 6,0,"parts.go:49",#[],I⟩ (D (Y ⟨q,6,I⟩)) (HS.out _ hb) ?_;refine tkq g7 ip 19 ⟨Y 24,.load 36 (X 23),36,"parts.go:49",#[⟨18,Z⟩],I⟩ (U (Y ⟨g,o+12+m,I⟩) d d) (HS.out _ hb) ?_;refine tkq g7 ip 20 ⟨Y 25,.call { callee:=Callee.builtin Builtin.len,args:=#[X 24],argTypes:=#[36]},3,"parts.go:49",#[⟨19,Z⟩],I⟩ (G P (d:Int)) (HS.out _ hb) ?_;show T V .any rops Q S 8 #[J,J,J,J,J,J,O,J,J,O,J,J,O,J,J,J,J,O,J,J,J,O,O,O,O] ⟨#[a0,D (Y ⟨q,0,I⟩),D (Y ⟨q+1,0,I⟩),u0,u0,D (Y ⟨q,1,I⟩),U (Y ⟨g,o+2,I⟩) 1 1,D (Y ⟨g,o+2,I⟩),G C (kn:Int),D (Y ⟨q,2,I⟩),U (Y ⟨g,o+3,I⟩) 1 1,u0,D (Y ⟨q,3,I⟩),U (Y ⟨g,o+4,I⟩) 4 4,u0,D (Y ⟨q,4,I⟩),U (Y ⟨g,o+8,I⟩) 4 4,u0,D (Y ⟨q,5,I⟩),U (Y ⟨g,o+12,I⟩) m m,G P (m:Int),G P (N:Int),u0,D (Y ⟨q,6,I⟩),U (Y ⟨g,o+12+m,I⟩) d d,G P (d:Int),u0,u0,u0,u0,u0,u0,u0,u0,u0,u0,u0,u0,u0,u0,u0,u0,u0,u0,u0,u0,u0,u0,u0],[]⟩ w1.drew;exact LL.out _ hb
end Go.Proofs.YtemlojjkokooeaaGreat
