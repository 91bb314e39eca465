import Derived.Test.YtemlojjkokooeaaGreatTk
import Derived.Test.YtemlojjkokooeaaGreatTm35
open Go.Value renaming slice->J,pointer->U,string->D,int->R,agg->m
open Option renaming some->O,none->I
open Bool renaming true->Y,false->Z
open Go.Proofs.Tryz renaming prog->X
open Go.Ground renaming phase->G,data->H
open Go.Operand renaming tmp->V
open Go.RowKit renaming Below->T,Hid->p
open Go.IntKind renaming i64->N
open Go renaming Addr->W,World->B,Value->z,wpAnyH->q
set_option maxHeartbeats 16000000
set_option maxRecDepth 100000
namespace Go.Proofs.YtemlojjkokooeaaGreat
open Go.RowKit Go.ChangeShapes
theorem Am:(Tryz.prog.info? 97).map (fun i=>(i.zero,i.size,i.bytes))=O (O (m #[J I 0 0,J I 0 0]),2,48):=zh
theorem Bc(w:B)(x y:z)(t:TypeId):∀ j u,[x,y][j]? = O u->(w.alloc (.cells #[x,y] t)).cell? ((⟨w.heap.size,0,I⟩:W).add j)=O u:=by
 intro j u hj
 match j,hj with
 | 0,hj =>
  simp at hj;subst hj;simp [Addr.add]
 | 1,hj =>
  simp at hj;subst hj;simp [Addr.add]
theorem tK(v:B)(n:Nat)(F:Nat->UInt8):∃ v' cc,(convert 9 36 (D (sOf (lsF n F)))).run X v=.ok (J (O ⟨v.heap.size,0,I⟩) n cc) v'/\Bec v' (O ⟨v.heap.size,0,I⟩) n cc F/\b7 v v'/\v.heap.size<v'.heap.size:=by
 have l9:=run_bytes_of_string (P:=X) v 9 36 5 (sOf (lsF n F)) Tryz.underlying9 Tryz.underlying36 Tryz.underlying5;have xJ:(sOf (lsF n F)).size=n:=by simp [sOf,ByteArray.size,cC]
 rw [xJ] at l9;refine⟨_,_,l9,⟨fun _=>⟨_,0,rfl,fun j hj=>?_⟩,(fun e=>by cases e),grownCap_ge _ _ _ _⟩,ap (bdw _ _) (bal v.drew _),zi⟩;rw [cell_of_row _ v.heap.size (0+j) _ 5 _ (heap_alloc_new v.drew _),Nat.zero_add];have kt:j<(sOf (lsF n F)).data.size:=by simp [sOf,cC];exact hj
 rw [bytesRow_at _ _ _ kt];have:(sOf (lsF n F)).data[j]=F j:=by simp [sOf,lsF]
 rw [this]
theorem eJ{pm:Array Oper}{o:Oper}{a:Act}{w:B}{K:Act->B->Prop}{Q:Exit->Act->B->Prop}{E:Prop}(qN:o.guard=I)(s:Operand)(ho:o.op=.convert 9 36 s)(n:Nat)(F:Nat->UInt8)(hs:a.eval s=D (sOf (lsF n F)))
  (h:∀ cc w',Bec w' (O ⟨w.heap.size,0,I⟩) n cc F->b7 w w'->w.heap.size<w'.heap.size->K (a.put o.dst (J (O ⟨w.heap.size,0,I⟩) n cc)) w'):if Region.wanted o (yielded pm a.tmps)=Y then Oper.wp X o a w K Q else E:=by
 have hw:Region.wanted o (yielded pm a.tmps)=Y:=by simp [Region.wanted,qN]
 rw [zk hw];obtain⟨v',cc,hr,h1,h2,h3⟩:=tK w n F;unfold Oper.wp execOp;simp only [ho,Sem.run_bind,Sem.run_pure,Result.andThen_ok,hs,hr];exact h cc v' h1 h2 h3
theorem gW{w w':B}{ao:Option W}{n b8:Nat}{F:Nat->UInt8}(h:Bec w ao n b8 F)(hb:∀ a,ao=O a->w'.heap[a.block]? = w.heap[a.block]?):Bec w' ao n b8 F :=
 ⟨fun hn=>by obtain⟨b,off,rfl,hc⟩:=h.rd hn;exact⟨b,off,rfl,fun j hj=>(World.cell?_of_block (show w'.heap[(⟨b,off+j,I⟩:W).block]? = w.heap[(⟨b,off+j,I⟩:W).block]? from hb ⟨b,off,I⟩ rfl)).trans (hc j hj)⟩,h.nil,h.room⟩
def cJ {α:Type} (j:Nat) (x:α) (f:Nat->α):Nat->α:=fun i=>if i=j then x else f i
theorem fz{α:Type}(j:Nat)(x:α)(f:Nat->α):cJ j x f j=x:=zk rfl
theorem ns{α:Type}{i j:Nat}(x:α)(f:Nat->α)(h:i ≠ j):cJ j x f i=f i:=zl h
def svp (A:Nat->Option W) (L C:Nat->Nat):Nat->List z
  | 0=>[]
  | n+1=>svp A L C n ++ [.slice (A (2*n)) (L (2*n)) (C (2*n)),.slice (A (2*n+1)) (L (2*n+1)) (C (2*n+1))]
theorem bJ(A:Nat->Option W)(L C:Nat->Nat):∀ n,(svp A L C n).length=n*2
 | 0=>rfl
 | n+1=>by rw [svp,List.length_append,bJ A L C n];simp;omega
theorem sy(A:Nat->Option W)(L C:Nat->Nat):∀ n i,i<n->(svp A L C n)[i*2]? = O (J (A (2*i)) (L (2*i)) (C (2*i)))/\(svp A L C n)[i*2+1]? = O (J (A (2*i+1)) (L (2*i+1)) (C (2*i+1)))
 | 0,i,h=>absurd h (Nat.not_lt_zero i)
 | n+1,i,h=>by
  rw [svp];by_cases e:i=n
  ·subst e;rw [List.getElem?_append_right (by rw [bJ];omega),bJ,Nat.sub_self,List.getElem?_append_right (by rw [bJ];omega),bJ,Nat.add_sub_cancel_left];exact⟨rfl,rfl⟩
  ·rw [List.getElem?_append_left (by rw [bJ];omega),List.getElem?_append_left (by rw [bJ];omega)];exact sy A L C n i za
theorem lZ{A A':Nat->Option W}{L C C':Nat->Nat}:∀ n,(∀ i,i<2*n->A i=A' i/\C i=C' i)->svp A L C n=svp A' L C' n
 | 0,_=>rfl
 | n+1,h=>by rw [svp,svp,lZ n (fun i hi=>h i za),(h (2*n) za).1,(h (2*n) za).2,(h (2*n+1) za).1,(h (2*n+1) za).2]
structure Tw (w wr:World) (ao:Option Addr) (i b8:Nat) (A:Nat->Option Addr) (L C:Nat->Nat) (F:Nat->Nat->UInt8):Prop where
  row:wr.ownsRow w.heap.size 97 2 (.slice ao i b8) i (svp A L C i)
  bec:∀ j,j<2*i->Bec wr (A j) (L j) (C j) (F j)/\∀ a,A j=some a->w.heap.size<=a.block/\a.block<wr.heap.size/\∀ d,ao=some d->a.block ≠ d.block
  bel:Below w.heap.size w wr
theorem Tw.step{w wr wb wn:B}{ao:Option W}{i b8 g0 g1 d0 d1 g2 jK:Nat}{A:Nat->Option W}{L C:Nat->Nat}{F:Nat->Nat->UInt8}{XS:List z}(h:Tw w wr ao i b8 A L C F)
  (hX:XS=svp A L C i) (xv:b7 wr wb) (h0:Bec wb (O ⟨g0,0,I⟩) (L (2*i)) d0 (F (2*i))) (h1:Bec wb (O ⟨g1,0,I⟩) (L (2*i+1)) d1 (F (2*i+1)))
  (k0:wr.heap.size<=g0/\g0<wb.heap.size) (k1:wr.heap.size<=g1/\g1<wb.heap.size)
  (ho:wn.ownsRow w.heap.size 97 2 (J (O ⟨g2,0,I⟩) (i+1) jK) (i+1) (XS ++ [J (O ⟨g0,0,I⟩) (L (2*i)) d0,J (O ⟨g1,0,I⟩) (L (2*i+1)) d1]))
  (hg:∀ x,x<wb.heap.size->(∀ a,ao=O a->x ≠ a.block)->wn.heap[x]? = wb.heap[x]?) (hw:(∃ a,ao=O a/\a.block=g2)\/g2=wb.heap.size+1) (hz:wb.heap.size+1<=wn.heap.size) (hf:wn.os=wb.os/\wn.tape=wb.tape/\wn.output=wb.output) :
  Tw w wn (O ⟨g2,0,I⟩) (i+1) jK (cJ (2*i) (O ⟨g0,0,I⟩) (cJ (2*i+1) (O ⟨g1,0,I⟩) A)) L (cJ (2*i) d0 (cJ (2*i+1) d1 C)) F:=by
 have hs:=xv.size;have QO:∀ a,ao=O a->w.heap.size<=a.block/\a.block<wr.heap.size:=fun a ha=>h.row.lt a.block (by subst ha;rfl);have hz0:=h.bel.size;have e1:∀ {α:Type} (x y:α) (f:Nat->α),cJ (2*i) x (cJ (2*i+1) y f) (2*i+1)=y:=fun x y f=>by rw [ns _ _ za,fz]
 have e2:∀ {α:Type} (x y:α) (f:Nat->α) (j:Nat),j<2*i->cJ (2*i) x (cJ (2*i+1) y f) j=f j:=fun x y f j hj=>by rw [ns _ _ za,ns _ _ za]
 have Gy:∀ g,wr.heap.size<=g/\g<wb.heap.size->wn.heap[g]? = wb.heap[g]?:=fun g k=>hg g k.2 (fun a ha e=>by have:=(QO a ha).2;omega);have M3:∀ g,wr.heap.size<=g/\g<wb.heap.size->∀ d:W,O (⟨g2,0,I⟩:W)=O d->g ≠ d.block:=fun g k d hd e=>by
  cases hd
  simp only at e;rcases hw with ⟨x,ex,e3⟩ | e3
  ·have:=(QO x ex).2;omega
  ·omega
 refine⟨?_,fun j hj=>?_,?_⟩
 ·rw [show svp (cJ (2*i) (O ⟨g0,0,I⟩) (cJ (2*i+1) (O ⟨g1,0,I⟩) A)) L (cJ (2*i) d0 (cJ (2*i+1) d1 C)) (i+1)=XS ++ [J (O ⟨g0,0,I⟩) (L (2*i)) d0,J (O ⟨g1,0,I⟩) (L (2*i+1)) d1] by
   rw [svp,fz,fz,e1,e1,hX,lZ i fun j hj=>⟨e2 _ _ _ j hj,e2 _ _ _ j hj⟩]]
  exact ho
 ·by_cases c0:j=2*i
  ·subst c0;rw [fz,fz];exact⟨gW h0 (fun a ha=>by cases ha;exact Gy _ k0),fun a ha=>by cases ha;exact⟨by show w.heap.size<=g0;omega,by show g0<_;omega,M3 _ k0⟩⟩
  ·by_cases c1:j=2*i+1
   ·subst c1;rw [e1,e1];exact⟨gW h1 (fun a ha=>by cases ha;exact Gy _ k1),fun a ha=>by cases ha;exact⟨by show w.heap.size<=g1;omega,by show g1<_;omega,M3 _ k1⟩⟩
   ·rw [e2 _ _ _ j za,e2 _ _ _ j za];obtain⟨q1,q2⟩:=h.bec j za;refine⟨gW q1 (fun a ha=>?_),fun a ha=>?_⟩
    ·obtain⟨q3,q4,q5⟩:=q2 a ha;rw [hg _ za q5,xv.block _ q4]
    ·obtain⟨q3,q4,q5⟩:=q2 a ha;refine⟨q3,za,fun d hd e=>?_⟩;cases hd
     simp only at e;rcases hw with ⟨x,ex,e3⟩ | e3
     ·exact q5 x ex za
     ·omega
 ·refine⟨hf.1.trans (xv.os.trans h.bel.os),hf.2.1.trans (xv.tape.trans h.bel.tape),hf.2.2.trans (xv.output.trans h.bel.output),za,fun x hx=>?_⟩;rw [hg x za (fun a ha e=>by have:=(QO a ha).1;omega),xv.block x za,h.bel.block x hx]
theorem Tw.rw{w wr:B}{ao:Option W}{i b8:Nat}{A:Nat->Option W}{L C:Nat->Nat}{F:Nat->Nat->UInt8}(h:Tw w wr ao i b8 A L C F):Rw wr ao i A L C F:=by
 refine⟨fun hp=>?_,fun j hj=>(h.bec j hj).1⟩;rcases h.row.2 with ⟨_,h2⟩ | ⟨g,cp,jw,h2,h3,h4,_⟩
 ·omega
 ·simp only [Value.slice.injEq] at h2;obtain⟨rfl,_,rfl⟩:=h2;refine⟨g,0,rfl,fun j hj=>?_⟩;rw [Nat.zero_add,World.ownsRow.cellAt h.row (j*2) za,World.ownsRow.cellAt h.row (j*2+1) za];exact sy A L C i j hj
def tops:Array Oper:=#[⟨O 11,.move (.tmp 3),24,"ref.go:289",#[],I⟩,⟨O 12,.move (.tmp 0),24,"ref.go:289",#[],I⟩,⟨O 13,.move (.tmp 4),3,"ref.go:289",#[],I⟩,⟨O 14,.indexAddr 24 (.tmp 12) (.tmp 13),0,"ref.go:289",#[⟨1,.data⟩,⟨2,.data⟩],I⟩,⟨O 15,.indexAddr 97 (.tmp 14) (.const (.int .i64 0)),0,"ref.go:289",#[⟨3,.data⟩],I⟩,⟨O 16,.load 36 (.tmp 15),36,"ref.go:289",#[⟨4,.data⟩],I⟩,⟨O 17,.convert 36 9 (.tmp 16),9,"ref.go:289",#[⟨5,.data⟩],I⟩,⟨O 18,.convert 9 36 (.tmp 17),36,"ref.go:289",#[⟨6,.data⟩],I⟩,⟨O 19,.move (.tmp 0),24,"ref.go:289",#[],I⟩,⟨O 20,.move (.tmp 4),3,"ref.go:289",#[],I⟩,⟨O 21,.indexAddr 24 (.tmp 19) (.tmp 20),0,"ref.go:289",#[⟨8,.data⟩,⟨9,.data⟩],I⟩,⟨O 22,.indexAddr 97 (.tmp 21) (.const (.int .i64 1)),0,"ref.go:289",#[⟨10,.data⟩],I⟩,⟨O 23,.load 36 (.tmp 22),36,"ref.go:289",#[⟨11,.data⟩],I⟩,⟨O 24,.convert 36 9 (.tmp 23),9,"ref.go:289",#[⟨12,.data⟩],I⟩,⟨O 25,.convert 9 36 (.tmp 24),36,"ref.go:289",#[⟨13,.data⟩],I⟩,⟨O 26,.build 97 #[(0,.tmp 18),(1,.tmp 25)],97,"ref.go:289",#[⟨7,.data⟩,⟨14,.data⟩],I⟩,⟨O 27,.buildSlice 24 1 #[(0,.tmp 26)],24,"ref.go:289",#[⟨15,.data⟩],I⟩,⟨O 28,.call { callee:=Callee.builtin Builtin.append,args:=#[.tmp 11,.tmp 27],argTypes:=#[24,24]},24,"ref.go:289",#[⟨0,.data⟩,⟨16,.data⟩],I⟩,⟨O 3,.assign (.tmp 28),24,"ref.go:289",#[⟨17,.data⟩,⟨17,.chain⟩,⟨0,.phase⟩,⟨1,.phase⟩,⟨2,.phase⟩,⟨3,.phase⟩,⟨4,.phase⟩,⟨5,.phase⟩,⟨6,.phase⟩,⟨7,.phase⟩,⟨8,.phase⟩,⟨9,.phase⟩,⟨10,.phase⟩,⟨11,.phase⟩,⟨12,.phase⟩,⟨13,.phase⟩,⟨14,.phase⟩,⟨15,.phase⟩,⟨16,.phase⟩,⟨17,.phase⟩],I⟩]
abbrev aF (b:Nat) (off:Nat) (n:Nat) (rc:Nat) (x1:z) (x2:z) (i:Nat) (x5:z) (x6:z) (x7:z) (x8:z) (x9:z) (kq:z) (ao:Option W) (b8:Nat) (kO:z) (e1 e2 e3 e4 e5 e6 e7 e8 e9 Gs Gt Gu Hu Hv JB:z):Act:=⟨#[.slice (O ⟨b,off,I⟩) n rc,x1,x2,e1,.int .i64 (i:Int),x5,x6,x7,x8,x9,kq,.slice ao i b8,.slice (O ⟨b,off,I⟩) n rc,.int .i64 (i:Int),.pointer (O ⟨b,off+i*2,I⟩),e2,e3,e4,e5,e6,e7,e8,e9,Gs,Gt,Gu,Hu,Hv,JB,kO],[]⟩
theorem vp{x1 x2 x5 x6 x7 x8 x9 kq ya qG qO xr qM qn qH qp qr qI qt qk qu ql o8 m8 lw l5 kO:z}(w wr:B)(b off n rc i:Nat)(ao:Option W)(b8:Nat)(a0:Option W)(n0 c0:Nat)(F0:Nat->UInt8)(a1:Option W)(n1 c1:Nat)(F1:Nat->UInt8)(XS:List z)(Tt:B->Nat->Nat->Nat->Nat->Nat->Nat->Prop)
  (hS:∀ v,T w.heap.size w v->(v.cell? ⟨b,off+i*2,I⟩=O (J a0 n0 c0)/\v.cell? ⟨b,off+i*2+1,I⟩=O (J a1 n1 c1)/\(convert 36 9 (J a0 n0 c0)).run X v=.ok (D (sOf (lsF n0 F0))) v/\(convert 36 9 (J a1 n1 c1)).run X v=.ok (D (sOf (lsF n1 F1))) v)) (jB:T w.heap.size w wr) (Je:∀ wb wn g0 g1 d0 d1 g2 jK,T wr.heap.size wr wb->Bec wb (O ⟨g0,0,I⟩) n0 d0 F0->Bec wb (O ⟨g1,0,I⟩) n1 d1 F1->(wr.heap.size<=g0/\g0<wb.heap.size)->(wr.heap.size<=g1/\g1<wb.heap.size)->wn.ownsRow w.heap.size 97 2 (J (O ⟨g2,0,I⟩) (i+1) jK) (i+1) (XS ++ [J (O ⟨g0,0,I⟩) n0 d0,J (O ⟨g1,0,I⟩) n1 d1])->(∀ x,x<wb.heap.size->(∀ a,ao=O a->x ≠ a.block)->wn.heap[x]? = wb.heap[x]?)->((∃ a,ao=O a/\a.block=g2)\/g2=wb.heap.size+1)->wb.heap.size+1<=wn.heap.size->(wn.os=wb.os/\wn.tape=wb.tape/\wn.output=wb.output)->Tt wn g0 g1 d0 d1 g2 jK/\T w.heap.size w wn) (yU:∀ v o,T wr.heap.size wr v->(v.alloc o).ownsRow w.heap.size 97 2 (J ao i b8) i XS) (hi:(0:Int)<=(i:Int)) (hi2:(i:Int)<(n:Int)) (hn:n*48<=140737488351232)
  (Q:Exit->Act->B->Prop) (g7:∀ ch a v,Q (.panic ch) a v->False) (hQ:∀(wb wn:B) (g0 g1 d0 d1 g2 jK:Nat),Tt wn g0 g1 d0 d1 g2 jK->Q .normal ⟨#[J (O ⟨b,off,I⟩) n rc,x1,x2,J (O ⟨g2,0,I⟩) (i+1) jK,R N (i:Int),x5,x6,x7,x8,x9,kq,J ao i b8,J (O ⟨b,off,I⟩) n rc,R N (i:Int),U (O ⟨b,off+i*2,I⟩),U (O ⟨b,off+i*2,I⟩),J a0 n0 c0,D (sOf (lsF n0 F0)),J (O ⟨g0,0,I⟩) n0 d0,J (O ⟨b,off,I⟩) n rc,R N (i:Int),U (O ⟨b,off+i*2,I⟩),U (O ⟨b,off+i*2+1,I⟩),J a1 n1 c1,D (sOf (lsF n1 F1)),J (O ⟨g1,0,I⟩) n1 d1,m #[J (O ⟨g0,0,I⟩) n0 d0,J (O ⟨g1,0,I⟩) n1 d1],J (O ⟨wb.heap.size,0,I⟩) 1 1,J (O ⟨g2,0,I⟩) (i+1) jK,kO],[]⟩ wn) :
  Code.wp X (Code.region 5 tops Y) Q ⟨#[J (O ⟨b,off,I⟩) n rc,x1,x2,J ao i b8,R N (i:Int),x5,x6,x7,x8,x9,kq,ya,qG,qO,xr,qM,qn,qH,qp,qr,qI,qt,qk,qu,ql,o8,m8,lw,l5,kO],[]⟩ wr:=by
 obtain⟨i0,GR,hz0,yb,yP⟩:=info_parts Am;have HQ:p _:=hQ;have D1:=am Je;have FM:=am yU;have yD:=am jB;obtain⟨S,ip,Kc⟩:∃ S:B->Prop,p (∀ v,S v->(v.cell? ⟨b,off+i*2,I⟩=O (J a0 n0 c0)/\v.cell? ⟨b,off+i*2+1,I⟩=O (J a1 n1 c1)/\(convert 36 9 (J a0 n0 c0)).run X v=.ok (D (sOf (lsF n0 F0))) v/\(convert 36 9 (J a1 n1 c1)).run X v=.ok (D (sOf (lsF n1 F1))) v))/\p (∀ v,T w.heap.size w v->S v):=⟨fun v=>v.cell? ⟨b,off+i*2,I⟩=O (J a0 n0 c0)/\v.cell? ⟨b,off+i*2+1,I⟩=O (J a1 n1 c1)/\(convert 36 9 (J a0 n0 c0)).run X v=.ok (D (sOf (lsF n0 F0))) v/\(convert 36 9 (J a1 n1 c1)).run X v=.ok (D (sOf (lsF n1 F1))) v,fun v h=>h,hS⟩
 have HS:=am fun v (hv:T wr.heap.size wr v)=>Kc.out v (ap yD.out hv);clear hS hQ Je yU jB;have K7:p (∀ wb g0 g1 d0 d1,T wr.heap.size wr wb->Bec wb (O ⟨g0,0,I⟩) n0 d0 F0->Bec wb (O ⟨g1,0,I⟩) n1 d1 F1->(wr.heap.size<=g0/\g0<wb.heap.size)->(wr.heap.size<=g1/\g1<wb.heap.size)->q X .any tops Q S 4 #[Y,Y,Y,Y,Y,Y,Y,Y,Y,Y,Y,Y,Y,Y,Y,Z,Z,Z,Z] ⟨#[J (O ⟨b,off,I⟩) n rc,x1,x2,J ao i b8,R N (i:Int),x5,x6,x7,x8,x9,kq,J ao i b8,J (O ⟨b,off,I⟩) n rc,R N (i:Int),U (O ⟨b,off+i*2,I⟩),U (O ⟨b,off+i*2,I⟩),J a0 n0 c0,D (sOf (lsF n0 F0)),J (O ⟨g0,0,I⟩) n0 d0,J (O ⟨b,off,I⟩) n rc,R N (i:Int),U (O ⟨b,off+i*2,I⟩),U (O ⟨b,off+i*2+1,I⟩),J a1 n1 c1,D (sOf (lsF n1 F1)),J (O ⟨g1,0,I⟩) n1 d1,m8,lw,l5,kO],[]⟩ wb):=by
  intro wb g0 g1 d0 d1 hb h0 h1 k0 k1;have HB:=am hb;have HK:p (Bec wb (O ⟨g0,0,I⟩) n0 d0 F0/\Bec wb (O ⟨g1,0,I⟩) n1 d1 F1/\(wr.heap.size<=g0/\g0<wb.heap.size)/\(wr.heap.size<=g1/\g1<wb.heap.size)):=⟨h0,h1,k0,k1⟩
  clear h0 h1 k0 k1;refine tkq g7 ip 15 ⟨O 26,.build 97 #[(0,V 18),(1,V 25)],97,"ref.go:289",#[⟨7,H⟩,⟨14,H⟩],I⟩ (m #[J (O ⟨g0,0,I⟩) n0 d0,J (O ⟨g1,0,I⟩) n1 d1]) (HS.out _ hb) ?_;show q X .any tops Q S 3 #[Y,Y,Y,Y,Y,Y,Y,Y,Y,Y,Y,Y,Y,Y,Y,Y,Z,Z,Z] (aF b off n rc x1 x2 i x5 x6 x7 x8 x9 kq ao b8 kO (J ao i b8) (U (O ⟨b,off+i*2,I⟩)) (J a0 n0 c0) (D (sOf (lsF n0 F0))) (J (O ⟨g0,0,I⟩) n0 d0) (J (O ⟨b,off,I⟩) n rc) (R N (i:Int)) (U (O ⟨b,off+i*2,I⟩)) (U (O ⟨b,off+i*2+1,I⟩)) (J a1 n1 c1) (D (sOf (lsF n1 F1))) (J (O ⟨g1,0,I⟩) n1 d1) (m #[J (O ⟨g0,0,I⟩) n0 d0,J (O ⟨g1,0,I⟩) n1 d1]) lw l5) wb;dsimp only [aF];refine wpAnyH_ready (rs:=[16]) zh zi ?_;refine AllReadyH.cons (o:=⟨O 27,.buildSlice 24 1 #[(0,V 26)],24,"ref.go:289",#[⟨15,H⟩],I⟩) rfl (fun K hK=>?_) AllReadyH.nil;go_simp;refine hK.out _ _ (HS.out _ (ap hb (bal wb _))) (fun d9=>?_);clear hK K d9;show q X .any tops Q S 2 #[Y,Y,Y,Y,Y,Y,Y,Y,Y,Y,Y,Y,Y,Y,Y,Y,Y,Z,Z] (aF b off n rc x1 x2 i x5 x6 x7 x8 x9 kq ao b8 kO (J ao i b8) (U (O ⟨b,off+i*2,I⟩)) (J a0 n0 c0) (D (sOf (lsF n0 F0))) (J (O ⟨g0,0,I⟩) n0 d0) (J (O ⟨b,off,I⟩) n rc) (R N (i:Int)) (U (O ⟨b,off+i*2,I⟩)) (U (O ⟨b,off+i*2+1,I⟩)) (J a1 n1 c1) (D (sOf (lsF n1 F1))) (J (O ⟨g1,0,I⟩) n1 d1) (m #[J (O ⟨g0,0,I⟩) n0 d0,J (O ⟨g1,0,I⟩) n1 d1]) (J (O ⟨wb.heap.size,0,I⟩) 1 1) l5) (wb.alloc (.cells #[J (O ⟨g0,0,I⟩) n0 d0,J (O ⟨g1,0,I⟩) n1 d1] 97));dsimp only [aF];refine wpAnyH_ready (rs:=[17]) zh zi ?_;refine AllReadyH.cons (o:=⟨O 28,.call { callee:=Callee.builtin Builtin.append,args:=#[V 11,V 27],argTypes:=#[24,24]},24,"ref.go:289",#[⟨0,H⟩,⟨16,H⟩],I⟩) rfl (fun K hK=>?_) AllReadyH.nil;refine Go.step_append_lies _ zg (V 11) (V 27) 24 zg w.heap.size 97 i0 (m #[J I 0 0,J I 0 0]) 2 48 Tryz.underlying24 GR hz0 yb yP zg zb (J ao i b8) i XS (by simp [Act.eval]) (FM.out wb _ hb) ⟨wb.heap.size,0,I⟩ 1 1 [J (O ⟨g0,0,I⟩) n0 d0,J (O ⟨g1,0,I⟩) n1 d1] (by simp [Act.eval]) zg (Bc wb _ _ 97) (by simp [Value.oneCell']) zb (by unfold maxLen;omega) za (by have:=yD.out.size;have:=HB.out.size;simp;omega) (wb.heap.size+1) zi ?_;intro g2 jK w2 jF jH GN hlt2;have B3:p (Tt w2 g0 g1 d0 d1 g2 jK/\T w.heap.size w w2):=D1.out wb w2 g0 g1 d0 d1 g2 jK hb HK.out.1 HK.out.2.1 HK.out.2.2.1 HK.out.2.2.2 jF
   (fun x hx f9=>(jH.block x zj (fun e=>by cases ao with | none=>cases e | some a=>cases e;exact f9 _ rfl rfl)).trans (Below.heap_alloc _ _ _ hx))
   (by
    rcases GN with e | e
    ·cases ao with
     | none=>cases e
     | some a=>exact .inl ⟨a,rfl,Option.some.inj e⟩
    ·exact .inr e)
   (by have:=jH.size;simp at this;omega) ⟨jH.os,jH.tape,jH.output⟩
  clear jF jH GN;refine hK.out _ _ (Kc.out _ B3.out.2) (fun d9=>?_);clear hK K d9;show q X .any tops Q S 1 #[Y,Y,Y,Y,Y,Y,Y,Y,Y,Y,Y,Y,Y,Y,Y,Y,Y,Y,Z] (aF b off n rc x1 x2 i x5 x6 x7 x8 x9 kq ao b8 kO (J ao i b8) (U (O ⟨b,off+i*2,I⟩)) (J a0 n0 c0) (D (sOf (lsF n0 F0))) (J (O ⟨g0,0,I⟩) n0 d0) (J (O ⟨b,off,I⟩) n rc) (R N (i:Int)) (U (O ⟨b,off+i*2,I⟩)) (U (O ⟨b,off+i*2+1,I⟩)) (J a1 n1 c1) (D (sOf (lsF n1 F1))) (J (O ⟨g1,0,I⟩) n1 d1) (m #[J (O ⟨g0,0,I⟩) n0 d0,J (O ⟨g1,0,I⟩) n1 d1]) (J (O ⟨wb.heap.size,0,I⟩) 1 1) (J (O ⟨g2,0,I⟩) (i+1) jK)) w2;dsimp only [aF];refine wpAnyH_take (i:=18) (oi:=⟨O 3,.assign (V 28),24,"ref.go:289",#[⟨17,H⟩,⟨17,.chain⟩,⟨0,G⟩,⟨1,G⟩,⟨2,G⟩,⟨3,G⟩,⟨4,G⟩,⟨5,G⟩,⟨6,G⟩,⟨7,G⟩,⟨8,G⟩,⟨9,G⟩,⟨10,G⟩,⟨11,G⟩,⟨12,G⟩,⟨13,G⟩,⟨14,G⟩,⟨15,G⟩,⟨16,G⟩,⟨17,G⟩],I⟩) (v:=J (O ⟨g2,0,I⟩) (i+1) jK) rfl zh zh zh (fun _ _ _ h=>(g7 _ _ _ h).elim) (Or.inl ⟨zh,?_⟩) (Kc.out _ B3.out.2) ?_
  ·intro w' hSw;go_simp <;> first | with_reducible rfl | assumption
  show q X .any tops Q S 0 #[Y,Y,Y,Y,Y,Y,Y,Y,Y,Y,Y,Y,Y,Y,Y,Y,Y,Y,Y] (aF b off n rc x1 x2 i x5 x6 x7 x8 x9 kq ao b8 kO (J (O ⟨g2,0,I⟩) (i+1) jK) (U (O ⟨b,off+i*2,I⟩)) (J a0 n0 c0) (D (sOf (lsF n0 F0))) (J (O ⟨g0,0,I⟩) n0 d0) (J (O ⟨b,off,I⟩) n rc) (R N (i:Int)) (U (O ⟨b,off+i*2,I⟩)) (U (O ⟨b,off+i*2+1,I⟩)) (J a1 n1 c1) (D (sOf (lsF n1 F1))) (J (O ⟨g1,0,I⟩) n1 d1) (m #[J (O ⟨g0,0,I⟩) n0 d0,J (O ⟨g1,0,I⟩) n1 d1]) (J (O ⟨wb.heap.size,0,I⟩) 1 1) (J (O ⟨g2,0,I⟩) (i+1) jK)) w2;dsimp only [aF];refine wpAnyH_done zh ?_ _;exact HQ.out wb w2 g0 g1 d0 d1 g2 jK B3.out.1
 refine wp_region_held_drew (S:=S) zh (HS.out _ (bdw _ _)) (fun d9=>?_);have hb:T wr.heap.size wr wr.drew:=bdw _ _;rw [show tops.size=19 from by kernel_rfl,show Array.replicate 19 Z=#[Z,Z,Z,Z,Z,Z,Z,Z,Z,Z,Z,Z,Z,Z,Z,Z,Z,Z,Z] from by kernel_rfl];refine tkq g7 ip 0 ⟨O 11,.move (V 3),24,"ref.go:289",#[],I⟩ (J ao i b8) (HS.out _ hb) ?_;refine tkq g7 ip 1 ⟨O 12,.move (V 0),24,"ref.go:289",#[],I⟩ (J (O ⟨b,off,I⟩) n rc) (HS.out _ hb) ?_;refine tkq g7 ip 2 ⟨O 13,.move (V 4),3,"ref.go:289",#[],I⟩ (R N (i:Int)) (HS.out _ hb) ?_;refine tkq g7 ip 3 ⟨O 14,.indexAddr 24 (V 12) (V 13),0,"ref.go:289",#[⟨1,H⟩,⟨2,H⟩],I⟩ (U (O ⟨b,off+i*2,I⟩)) (HS.out _ hb) ?_;show q X .any tops Q S 15 #[Y,Y,Y,Y,Z,Z,Z,Z,Z,Z,Z,Z,Z,Z,Z,Z,Z,Z,Z] (aF b off n rc x1 x2 i x5 x6 x7 x8 x9 kq ao b8 kO (J ao i b8) qM qn qH qp qr qI qt qk qu ql o8 m8 lw l5) wr.drew;dsimp only [aF];refine tkq g7 ip 4 ⟨O 15,.indexAddr 97 (V 14) (.const (R N 0)),0,"ref.go:289",#[⟨3,H⟩],I⟩ (U (O ⟨b,off+i*2,I⟩)) (HS.out _ hb) ?_;refine tkq g7 ip 5 ⟨O 16,.load 36 (V 15),36,"ref.go:289",#[⟨4,H⟩],I⟩ (J a0 n0 c0) (HS.out _ hb) ?_;refine tkq g7 ip 6 ⟨O 17,.convert 36 9 (V 16),9,"ref.go:289",#[⟨5,H⟩],I⟩ (D (sOf (lsF n0 F0))) (HS.out _ hb) ?_;refine tkq g7 ip 8 ⟨O 19,.move (V 0),24,"ref.go:289",#[],I⟩ (J (O ⟨b,off,I⟩) n rc) (HS.out _ hb) ?_;show q X .any tops Q S 11 #[Y,Y,Y,Y,Y,Y,Y,Z,Y,Z,Z,Z,Z,Z,Z,Z,Z,Z,Z] (aF b off n rc x1 x2 i x5 x6 x7 x8 x9 kq ao b8 kO (J ao i b8) (U (O ⟨b,off+i*2,I⟩)) (J a0 n0 c0) (D (sOf (lsF n0 F0))) qp (J (O ⟨b,off,I⟩) n rc) qI qt qk qu ql o8 m8 lw l5) wr.drew;dsimp only [aF];refine tkq g7 ip 9 ⟨O 20,.move (V 4),3,"ref.go:289",#[],I⟩ (R N (i:Int)) (HS.out _ hb) ?_;refine tkq g7 ip 10 ⟨O 21,.indexAddr 24 (V 19) (V 20),0,"ref.go:289",#[⟨8,H⟩,⟨9,H⟩],I⟩ (U (O ⟨b,off+i*2,I⟩)) (HS.out _ hb) ?_;refine tkq g7 ip 11 ⟨O 22,.indexAddr 97 (V 21) (.const (R N 1)),0,"ref.go:289",#[⟨10,H⟩],I⟩ (U (O ⟨b,off+i*2+1,I⟩)) (HS.out _ hb) ?_;refine tkq g7 ip 12 ⟨O 23,.load 36 (V 22),36,"ref.go:289",#[⟨11,H⟩],I⟩ (J a1 n1 c1) (HS.out _ hb) ?_;show q X .any tops Q S 7 #[Y,Y,Y,Y,Y,Y,Y,Z,Y,Y,Y,Y,Y,Z,Z,Z,Z,Z,Z] (aF b off n rc x1 x2 i x5 x6 x7 x8 x9 kq ao b8 kO (J ao i b8) (U (O ⟨b,off+i*2,I⟩)) (J a0 n0 c0) (D (sOf (lsF n0 F0))) qp (J (O ⟨b,off,I⟩) n rc) (R N (i:Int)) (U (O ⟨b,off+i*2,I⟩)) (U (O ⟨b,off+i*2+1,I⟩)) (J a1 n1 c1) ql o8 m8 lw l5) wr.drew;dsimp only [aF];refine tkq g7 ip 13 ⟨O 24,.convert 36 9 (V 23),9,"ref.go:289",#[⟨12,H⟩],I⟩ (D (sOf (lsF n1 F1))) (HS.out _ hb) ?_;show q X .any tops Q S 6 #[Y,Y,Y,Y,Y,Y,Y,Z,Y,Y,Y,Y,Y,Y,Z,Z,Z,Z,Z] (aF b off n rc x1 x2 i x5 x6 x7 x8 x9 kq ao b8 kO (J ao i b8) (U (O ⟨b,off+i*2,I⟩)) (J a0 n0 c0) (D (sOf (lsF n0 F0))) qp (J (O ⟨b,off,I⟩) n rc) (R N (i:Int)) (U (O ⟨b,off+i*2,I⟩)) (U (O ⟨b,off+i*2+1,I⟩)) (J a1 n1 c1) (D (sOf (lsF n1 F1))) o8 m8 lw l5) wr.drew
 dsimp only [aF];refine wpAnyH_ready (rs:=[7,14]) zh zi ?_;refine AllReadyH.cons (o:=⟨O 18,.convert 9 36 (V 17),36,"ref.go:289",#[⟨6,H⟩],I⟩) rfl (fun K hK=>?_) ?_
 ·refine eJ zg (V 17) zg n0 F0 (by simp [Act.eval]) ?_;intro d0 wa hx hl hs;obtain⟨gA,Kd⟩:∃ g,g=wr.drew.heap.size:=⟨_,rfl⟩
  rw [<- Kd] at hx ⊢;have HX:p (Bec wa (O ⟨gA,0,I⟩) n0 d0 F0/\gA=wr.heap.size/\wr.heap.size<wa.heap.size):=⟨hx,Kd,hs⟩
  have Ke:T wr.heap.size wr wa:=aG hl;clear hx Kd hs hl;refine hK.out _ _ (HS.out _ Ke) (fun ju=>?_);clear hK K d9 ju;show q X .any tops Q S 5 #[Y,Y,Y,Y,Y,Y,Y,Y,Y,Y,Y,Y,Y,Y,Z,Z,Z,Z,Z] (aF b off n rc x1 x2 i x5 x6 x7 x8 x9 kq ao b8 kO (J ao i b8) (U (O ⟨b,off+i*2,I⟩)) (J a0 n0 c0) (D (sOf (lsF n0 F0))) (J (O ⟨gA,0,I⟩) n0 d0) (J (O ⟨b,off,I⟩) n rc) (R N (i:Int)) (U (O ⟨b,off+i*2,I⟩)) (U (O ⟨b,off+i*2+1,I⟩)) (J a1 n1 c1) (D (sOf (lsF n1 F1))) o8 m8 lw l5) wa;dsimp only [aF];refine wpAnyH_ready (rs:=[14]) zh zi ?_;refine AllReadyH.cons (o:=⟨O 25,.convert 9 36 (V 24),36,"ref.go:289",#[⟨13,H⟩],I⟩) rfl (fun K hK=>?_) AllReadyH.nil;refine eJ zg (V 24) zg n1 F1 (by simp [Act.eval]) ?_;intro d1 wb hx hl hs;obtain⟨gB,OK⟩:∃ g,g=wa.heap.size:=⟨_,rfl⟩
  rw [<- OK] at hx ⊢;have xv:T wr.heap.size wr wb:=ap Ke hl;refine hK.out _ _ (HS.out _ xv) (fun ju=>?_);exact K7.out wb gA gB d0 d1 xv (HX.out.1.below hl) hx (by have:=hl.size;have:=HX.out.2.2;have:=HX.out.2.1;omega) (by have:=Ke.size;omega)
 refine AllReadyH.cons (o:=⟨O 25,.convert 9 36 (V 24),36,"ref.go:289",#[⟨13,H⟩],I⟩) rfl (fun K hK=>?_) AllReadyH.nil
 ·refine eJ zg (V 24) zg n1 F1 (by simp [Act.eval]) ?_;intro d1 wa hx hl hs;obtain⟨gA,Kd⟩:∃ g,g=wr.drew.heap.size:=⟨_,rfl⟩
  rw [<- Kd] at hx ⊢;have HX:p (Bec wa (O ⟨gA,0,I⟩) n1 d1 F1/\gA=wr.heap.size/\wr.heap.size<wa.heap.size):=⟨hx,Kd,hs⟩
  have Ke:T wr.heap.size wr wa:=aG hl;clear hx Kd hs hl;refine hK.out _ _ (HS.out _ Ke) (fun ju=>?_);clear hK K d9 ju;show q X .any tops Q S 5 #[Y,Y,Y,Y,Y,Y,Y,Z,Y,Y,Y,Y,Y,Y,Y,Z,Z,Z,Z] (aF b off n rc x1 x2 i x5 x6 x7 x8 x9 kq ao b8 kO (J ao i b8) (U (O ⟨b,off+i*2,I⟩)) (J a0 n0 c0) (D (sOf (lsF n0 F0))) qp (J (O ⟨b,off,I⟩) n rc) (R N (i:Int)) (U (O ⟨b,off+i*2,I⟩)) (U (O ⟨b,off+i*2+1,I⟩)) (J a1 n1 c1) (D (sOf (lsF n1 F1))) (J (O ⟨gA,0,I⟩) n1 d1) m8 lw l5) wa;dsimp only [aF];refine wpAnyH_ready (rs:=[7]) zh zi ?_;refine AllReadyH.cons (o:=⟨O 18,.convert 9 36 (V 17),36,"ref.go:289",#[⟨6,H⟩],I⟩) rfl (fun K hK=>?_) AllReadyH.nil;refine eJ zg (V 17) zg n0 F0 (by simp [Act.eval]) ?_;intro d0 wb hx hl hs;obtain⟨gB,OK⟩:∃ g,g=wa.heap.size:=⟨_,rfl⟩
  rw [<- OK] at hx ⊢;have xv:T wr.heap.size wr wb:=ap Ke hl;refine hK.out _ _ (HS.out _ xv) (fun ju=>?_);exact K7.out wb gB gA d0 d1 xv hx (HX.out.1.below hl) (by have:=Ke.size;omega) (by have:=hl.size;have:=HX.out.2.2;have:=HX.out.2.1;omega)
theorem wE(w:B)(ro:Option W)(n rc:Nat)(A:Nat->Option W)(L C:Nat->Nat)(F:Nat->Nat->UInt8)(hr:Rw w ro n A L C F)(hn:n*48<=140737488351232):
  Calls X 10 #[J ro n rc] w fun e w'=>∃ ao b8 A' C',e=.returned (J ao n b8)/\Tw w w' ao n b8 A' L C' F:=by
 obtain⟨i0,GR,hz0,yb,yP⟩:=info_parts Am;have HR:=am hr;clear hr;go_enter Tryz.func10,Tryz.ntmps10
 go_wp2_with fail
 go_loopw [3,4] (fun l x wr=>∃(i:Nat) (ao:Option W) (b8:Nat) (A':Nat->Option W) (C':Nat->Nat),i<=n/\x=R N i/\l=J ao i b8/\p (Tw w wr ao i b8 A' L C' F)) (fun _ x _=>n-(intOf x).toNat)
 case atStart=>exact⟨0,I,0,fun _=>I,fun _=>0,Nat.zero_le _,rfl,rfl,⟨World.ownsRow_nil _ _ _ _,fun j hj=>absurd hj (Nat.not_lt_zero j),Below.refl _ _⟩⟩
 case round =>
  obtain⟨i,ao,b8,A',C',hi,rfl,rfl,FX⟩:=hrel;by_cases hlt:i<n
  ·obtain⟨b,off,rfl,hc⟩:=HR.out.at_ za;obtain⟨a0,zZ⟩:∃ t,t=A (2*i):=⟨_,rfl⟩
   obtain⟨a1,M4⟩:∃ t,t=A (2*i+1):=⟨_,rfl⟩
   obtain⟨n0,hn0⟩:∃ t,t=L (2*i):=⟨_,rfl⟩
   obtain⟨n1,A8⟩:∃ t,t=L (2*i+1):=⟨_,rfl⟩
   obtain⟨c0,Ff⟩:∃ t,t=C (2*i):=⟨_,rfl⟩
   obtain⟨c1,k9⟩:∃ t,t=C (2*i+1):=⟨_,rfl⟩
   obtain⟨F0,hF0⟩:∃ t,t=F (2*i):=⟨_,rfl⟩
   obtain⟨F1,hF1⟩:∃ t,t=F (2*i+1):=⟨_,rfl⟩
   have k0:=(hc i hlt).1;have k1:=(hc i hlt).2;have q0:=HR.out.bec (2*i) za;have q1:=HR.out.bec (2*i+1) za;rw [<- zZ,<- hn0,<- Ff] at k0;rw [<- M4,<- A8,<- k9] at k1;rw [<- zZ,<- hn0,<- Ff,<- hF0] at q0;rw [<- M4,<- A8,<- k9,<- hF1] at q1;have Kc:p (∀ v,b7 w v->(v.cell? ⟨b,off+i*2,I⟩=O (J a0 n0 c0)/\v.cell? ⟨b,off+i*2+1,I⟩=O (J a1 n1 c1)/\(convert 36 9 (J a0 n0 c0)).run X v=.ok (D (sOf (lsF n0 F0))) v/\(convert 36 9 (J a1 n1 c1)).run X v=.ok (D (sOf (lsF n1 F1))) v)):=fun v hv=>⟨held k0 hv,held k1 hv,bm (q0.below hv),bm (q1.below hv)⟩
   have zA:=am fun v (hv:b7 wr v)=>Kc.out v (ap FX.out.bel hv);obtain⟨XS,kh⟩:=fd (svp A' L C' i)
   have GS:p (∀ wb wn g0 g1 d0 d1 g2 jK,b7 wr wb->Bec wb (O ⟨g0,0,I⟩) n0 d0 F0->Bec wb (O ⟨g1,0,I⟩) n1 d1 F1->(wr.heap.size<=g0/\g0<wb.heap.size)->(wr.heap.size<=g1/\g1<wb.heap.size)->wn.ownsRow w.heap.size 97 2 (J (O ⟨g2,0,I⟩) (i+1) jK) (i+1) (XS ++ [J (O ⟨g0,0,I⟩) n0 d0,J (O ⟨g1,0,I⟩) n1 d1])->(∀ x,x<wb.heap.size->(∀ a,ao=O a->x ≠ a.block)->wn.heap[x]? = wb.heap[x]?)->((∃ a,ao=O a/\a.block=g2)\/g2=wb.heap.size+1)->wb.heap.size+1<=wn.heap.size->(wn.os=wb.os/\wn.tape=wb.tape/\wn.output=wb.output)->Tw w wn (O ⟨g2,0,I⟩) (i+1) jK (cJ (2*i) (O ⟨g0,0,I⟩) (cJ (2*i+1) (O ⟨g1,0,I⟩) A')) L (cJ (2*i) d0 (cJ (2*i+1) d1 C')) F):=by
    intro wb wn g0 g1 d0 d1 g2 jK t1 t2 t3 t4 t5 t6 t7 t8 t9 OL;rw [hn0] at t2 t6;rw [hF0] at t2;rw [A8] at t3 t6;rw [hF1] at t3;exact FX.out.step kh t1 t2 t3 t4 t5 t6 t7 t8 t9 OL
   have FM:p (∀ v o,b7 wr v->(v.alloc o).ownsRow w.heap.size 97 2 (J ao i b8) i XS):=fun v o hv=>by
    rw [kh];exact(ar FX.out.row hv).alloc o
   have i1:(0:Int)<=(i:Int):=za;have i2:(i:Int)<(n:Int):=za;clear hc k0 k1 q0 q1 zZ M4 hn0 A8 Ff k9 hF0 hF1 kh;have HN:=am hn;go_wp2_with fail
   refine wp_region_noPanic (vp w wr b off n rc i ao b8 a0 n0 c0 F0 a1 n1 c1 F1 XS (fun wn g0 g1 d0 d1 g2 jK=>Tw w wn (O ⟨g2,0,I⟩) (i+1) jK (cJ (2*i) (O ⟨g0,0,I⟩) (cJ (2*i+1) (O ⟨g1,0,I⟩) A')) L (cJ (2*i) d0 (cJ (2*i+1) d1 C')) F) Kc.out FX.out.bel (fun wb wn g0 g1 d0 d1 g2 jK t1 t2 t3 t4 t5 t6 t7 t8 t9 OL=>⟨GS.out wb wn g0 g1 d0 d1 g2 jK t1 t2 t3 t4 t5 t6 t7 t8 t9 OL,(GS.out wb wn g0 g1 d0 d1 g2 jK t1 t2 t3 t4 t5 t6 t7 t8 t9 OL).bel⟩) FM.out i1 i2 HN.out _ (fun _ _ _ h=>h) (fun wb wn g0 g1 d0 d1 g2 jK ht=>NoPanic.normal ?_));have B3:=am ht;clear ht GS Kc zA FM;go_wp2_with fail
   go_roundw
   case rel=>exact⟨i+1,O ⟨g2,0,I⟩,jK,_,_,za,by go_num,rfl,B3⟩
   case measure=>simp [intOf];omega
  ·have i2:¬ (i:Int)<(n:Int):=za;have Xg:p (i=n):=by show _=_;omega
   go_wp2_with fail
   go_ret;obtain rfl:i=n:=Xg.out;exact⟨ao,b8,rfl,A',C',FX.out⟩
end Go.Proofs.YtemlojjkokooeaaGreat
