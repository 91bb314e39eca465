import Derived.Maps.OwnSet
import Derived.DeepKeys4
import Derived.Laws.Cover3
import Derived.Test.YtemlojjkokooeaaGreatTm20
open Go.Value renaming slice->J,int->P,tuple->jm
open Option renaming some->O,none->Z
open Go.Proofs.Tryz renaming prog->I
open Go.RowKit renaming Hid->V,Below->jd
open Go.IntKind renaming i64->S
open Go renaming World->N,Addr->je,Value->jg,Calls->jj
open Nat renaming le_refl->W,zero_le->jc
open Go.Ending renaming returned->p
open Bool renaming true->ja,false->jf
open Go.RowKit.Below renaming refl->jb
open Go.Obj renaming cells->jh
open Int renaming toNat_natCast->ji
open Go.Operand renaming tmp->jk
set_option maxHeartbeats 16000000
set_option maxRecDepth 100000
namespace Go.Proofs.YtemlojjkokooeaaGreat.Cod
open Go.RowKit
open Go.Maps (Keyed)
theorem laidOut:laidOutB I=ja:=zh
theorem row54:(269:TypeId)<Tryz.prog.types.size:=of_decide_eq_true zh
theorem Ew:(match Tryz.prog.underlying 269 with | some (.array _ _) | some (.struct _)=>ja | _=>jf)=ja:=zh
theorem keyed:Keyed I 269:=Keyed.of_law (deep_law_laid laidOut (m:=3) za row54 zh Ew)
def key (k r c:Nat):jg:=.agg #[.int .i64 (k:Int),.int .i64 (r:Int),.int .i64 (c:Int)]
def aS (k r c:Nat):Lit:=.string (keyBytes [.int .i64 (k:Int),.int .i64 (r:Int),.int .i64 (c:Int)])
theorem uk:Tryz.prog.keyType 269=ja:=zh
theorem sd:Tryz.prog.cellsOf 269=3:=zh
theorem la:Tryz.prog.cellsOf 3=1:=zh
theorem rZ:Tryz.prog.types.size=416:=zh
theorem Bn{n:Nat}(h:n<=1000):(Lit.int S (n:Int)).wf=ja:=WalkArith.wf_i64 za
theorem vz(d n:Nat)(h:n<=1000):Tryz.prog.keyLits (d+1) 3 [.int .i64 (n:Int)]=O [.int .i64 (n:Int)]:=by
 unfold Program.keyLits;rw [Tryz.underlying3];simp [Bn h]
theorem dG(k r c:Nat)(hk:k<=1000)(hr:r<=1000)(hc:c<=1000):keyOf I 269 (key k r c)=O (aS k r c):=by
 have hf:(key k r c).formed I 269=ja:=by
  obtain⟨fs,hu⟩:∃ fs,Tryz.prog.underlying 269=O (.struct fs):=⟨_,Tryz.underlying269⟩
  simp [Value.formed,key,hu,sd]
 obtain⟨d,hd⟩:∃ d,Tryz.prog.types.size+1=d+1+1:=⟨415,by rw [rZ]⟩
 have e1:=vz d k hk;have e2:=vz d r hr;have e3:=vz d c hc;have hl:Tryz.prog.keyLits (d+1+1) 269 [.int .i64 (k:Int),.int .i64 (r:Int),.int .i64 (c:Int)]=O [.int .i64 (k:Int),.int .i64 (r:Int),.int .i64 (c:Int)]:=by
  unfold Program.keyLits;rw [Tryz.underlying269];simp [sd,la,e1,e2,e3]
 unfold keyOf;rw [Tryz.underlying269];simp only [uk,hf,Bool.and_self,if_true,hd];show Option.map _ (Tryz.prog.keyLits (d+1+1) 269 [.int .i64 (k:Int),.int .i64 (r:Int),.int .i64 (c:Int)])=_;rw [hl];rfl
theorem iQ{k r c c':Nat}(hk:k<=1000)(hr:r<=1000)(hc:c<=1000)(hc':c'<=1000)(h:aS k r c=aS k r c'):c=c':=by
 have h1:=dG k r c hk hr hc;have h2:=dG k r c' hk hr hc';rw [<- h] at h2;have:=keyed.inj h1 h2;simp [key] at this;omega
theorem uy(k r c:Nat)(hk:k<=1000)(hr:r<=1000)(hc:c<=1000):WideAt.IsKeyLit (aS k r c):=keyed.key (dG k r c hk hr hc)
def told (g n u:Nat):DataW Unit:=.agg [.lit (.int .i64 (g:Int)),.lit (.int .i64 (n:Int)),.lit (.int .i64 (u:Int))]
def elem:jg->Option (DataW Unit × List MemPlace)
  | .slice (O ⟨g,0,Z⟩) n u=>O (told g n u,[])
  | .slice Z 0 0=>O (.agg [],[])
  | _=>Z
theorem CC(g n u:Nat):elem (J (O ⟨g,0,Z⟩) n u)=O (told g n u,[]):=rfl
theorem elem_nil:elem (.slice Z 0 0)=O (.agg [],[]):=rfl
theorem nA{v:jg}{g n u:Nat}{ps:List MemPlace}(h:elem v=O (told g n u,ps)):v=J (O ⟨g,0,Z⟩) n u:=by
 unfold elem at h;split at h
 ·rename_i g' n' u'
  simp only [told,Option.some.injEq,Prod.mk.injEq,DataW.agg.injEq,List.cons.injEq,DataW.lit.injEq,Lit.int.injEq,true_and,and_true,Int.natCast_inj] at h;obtain⟨⟨rfl,rfl,rfl⟩,_⟩:=h;rfl
 ·simp [told] at h
 ·cases h
theorem pC(w:N):(zeroValue 36).run I w=.ok (J Z 0 0) w:=zh
def Kept (w:N) (b B k r n c0 c1:Nat):Prop :=
  ∃ D,w.ownsMap I 269 elem b n D/\(∀ c,c<k+r->Maps.has D (aS k r c)=ja->∃ g u,D.atKey (aS k r c) (.agg [])=told g k u/\B<=g/\Own w g k u (gen k c))/\∀ c,c0<=c->c<c1->Maps.has D (aS k r c)=ja
theorem Kept.lt{w:N}{b B k r n c0 c1:Nat}(h:Kept w b B k r n c0 c1):b<w.heap.size:=by obtain⟨D,h1,_⟩:=h;exact h1.lt
theorem Kept.ne{w:N}{b B k r n c0 c1 g e m:Nat}{f:Nat->jg}(h:Kept w b B k r n c0 c1)(hr:w.rowIs g e m f):g ≠ b:=by
 rintro rfl;obtain⟨D,⟨es,qz,hb,_⟩,_⟩:=h;obtain⟨c,hc,_⟩:=hr;rw [hb] at hc;cases hc
theorem lC{w w':N}{b n:Nat}{D:DataW Unit}(h:w.ownsMap I 269 elem b n D)(hb:w'.heap[b]? = w.heap[b]?):w'.ownsMap I 269 elem b n D:=by
 obtain⟨es,qz,h1,h2⟩:=h;exact⟨es,qz,hb.trans h1,h2⟩
theorem Kept.blocks{w w':N}{b B k r n c0 c1:Nat}(h:Kept w b B k r n c0 c1)(hb:w'.heap[b]? = w.heap[b]?)(hg:∀ g m f,w.rowIs g 5 m f->w'.heap[g]? = w.heap[g]?):Kept w' b B k r n c0 c1:=by
 obtain⟨D,h1,h2,h3⟩:=h;refine⟨D,lC h1 hb,fun c hc hh=>?_,h3⟩;obtain⟨g,u,e1,e2,e3⟩:=h2 c hc hh;refine⟨g,u,e1,e2,e3.of_block ?_⟩;obtain⟨_,_,f,hr,_⟩:=e3;exact hg g _ _ hr
theorem Kept.below{w w':N}{b B k r n c0 c1:Nat}(h:Kept w b B k r n c0 c1)(hb:b7 w w'):Kept w' b B k r n c0 c1 :=
 h.blocks (hb.block b h.lt) fun g _ _ hr=>hb.block g hr.lt
theorem Kept.any{w:N}{b B k r n c0 c1:Nat}(h:Kept w b B k r n c0 c1)(c:Nat):Kept w b B k r n c c:=by
 obtain⟨D,h1,h2,_⟩:=h;exact⟨D,h1,h2,fun x h3 h4=>absurd h4 za⟩
theorem Kept.mono{w:N}{b B k r n c0 c1 n':Nat}(h:Kept w b B k r n c0 c1)(hn:n<=n'):Kept w b B k r n' c0 c1:=by
 obtain⟨D,h1,h2,h3⟩:=h;exact⟨D,h1.mono hn,h2,h3⟩
theorem Kept.put{w w':N}{b B k r n c0 c1 g u:Nat}{D:DataW Unit}(em:w.ownsMap I 269 elem b n D)(hgood:∀ c,c<k+r->Maps.has D (aS k r c)=ja->∃ g u,D.atKey (aS k r c) (.agg [])=told g k u/\B<=g/\Own w g k u (gen k c))(hall:∀ c,c0<=c->c<c1->Maps.has D (aS k r c)=ja)
  (qd:w'.ownsMap I 269 elem b (n+1) (D.put (aS k r c1) (told g k u))) (IX:w.grownBy w' (O b)) (hk:k<=500) (hr:r<=500) (hc:c1<k+r) (hB:B<=g) (ho:Own w g k u (gen k c1)):Kept w' b B k r (n+1) c0 (c1+1):=by
 have old:∀ g u f,Own w g k u f->Own w' g k u f:=fun g u f h=>h.of_block (IX.block g h.lt fun e=>by
  obtain⟨_,_,f,jA,_⟩:=h;exact(Kept.ne (k:=k) (r:=r) (B:=0) (c0:=0) (c1:=0) ⟨D,em,fun c hc hh=>by
   obtain⟨g,u,e1,e2,e3⟩:=hgood c hc hh;exact⟨g,u,e1,jc _,e3⟩,fun c _ h=>absurd h (Nat.not_lt_zero c)⟩ jA) (Option.some.inj e))
 have L8:=uy k r c1 za za za;refine⟨_,qd,fun c jU hh=>?_,fun c h1 h2=>?_⟩
 ·by_cases e:c=c1
  ·subst e;exact⟨g,u,Maps.atKey_put_same em.isMap L8 _ _,hB,old g u _ ho⟩
  ·have f9:aS k r c ≠ aS k r c1:=fun e'=>e (iQ za za za za e');rw [Maps.has_put_other f9] at hh;obtain⟨g',u',e1,e2,e3⟩:=hgood c jU hh;exact⟨g',u',by rw [Maps.atKey_put_other f9];exact e1,e2,old _ _ _ e3⟩
 ·by_cases e:c=c1
  ·subst e;exact Maps.has_put_same em.isMap L8 _
  ·have f9:aS k r c ≠ aS k r c1:=fun e'=>e (iQ za za za za e');rw [Maps.has_put_other f9];exact hall c h1 za
theorem Keeps.map{w w':N}{b:Nat}(hg:w.grownBy w' (O b)):Keeps b (b+1) w w':=⟨hg.os,hg.tape,hg.output,hg.size,fun k hk hb=>hg.block k hk fun e=>by have:=Option.some.inj e;omega⟩
theorem Keeps.fresh{B T g:Nat}{a w:N}(h:Keeps B T a w)(hg:a.heap.size<=g)(i:Nat)(u:jg):Keeps B T a (w.setCell ⟨g,i,Z⟩ u) :=
 ⟨h.os,h.tape,h.output,by simp only [World.setCell,Array.size_modify];exact h.size,fun k hk hb=>by rw [Below.heap_setCell _ _ _ _ zj];exact h.block k hk hb⟩
theorem CQ{w:N}{g:Nat}{x y z v:jg}(h:w.heap[g]? = O (jh #[x,y,z] 269 (0,0))):(w.setCell ⟨g,2,Z⟩ v).heap[g]? = O (jh #[x,y,v] 269 (0,0)):=by
 unfold World.setCell;simp [Array.getElem?_modify,h]
theorem om(w:N)(b B k r n c0 l cl m T:Nat)(G U:Nat->Nat)(H:M)(hk:k<=12)(hr:r<=4)(hm:c0+m<=k+r)(hn:n<=1000000)(jJ:Kept w b B k r n c0 c0)(jE:Mat w B T l cl m k G U H)(hH:∀ i j,i<m->j<k->H i j=gen k (c0+i) j):
    jj I 292 #[.map (O b),key k r c0,.slice (O ⟨l,0,Z⟩) m cl] w fun e w'=>e=.returned (.tuple #[])/\Kept w' b B k r (n+m) c0 (c0+m)/\Keeps b (b+1) w w':=by
  have HK:=am jJ
  have HM:=am jE
  have HH:=am hH
  have JG:l ≠ b:=by obtain⟨f,jA,_⟩:=jE.lst;exact jJ.ne jA
  have V5:l<w.heap.size:=jE.lt_l
  have jB:b<w.heap.size:=jJ.lt
  clear jJ jE hH
  unfold key
  go_enter Tryz.func292,Tryz.ntmps292
  go_wp2
  go_loopw [10] (fun i wr=>∃ j:Nat,j<=m/\i=.int .i64 j/\V (Kept wr b B k r (n+j) c0 (c0+j))/\V (wr.heap[w.heap.size]? = O (.cells #[.int .i64 (k:Int),.int .i64 (r:Int),.int .i64 ((c0+j:Nat):Int)] 269 (0,0)))/\V (Keeps b (b+1) w wr)) (fun i _=>m-(intOf i).toNat)
  case atStart=>exact⟨0,jc _,rfl,HK.out.below ((jb _ _).alloc (W _) _),heap_alloc_new w _,(Keeps.refl _ _ _).alloc _⟩
  case round =>
    obtain⟨j,hj,rfl,jJ,xQ,i8⟩:=hrel
    by_cases hlt:j<m
    · obtain⟨D,em,hgood,hall⟩:=jJ.out
      have L9:=am hgood
      have yi:=am hall
      have xR:=am em
      have HB:V (wr.heap[w.heap.size]? = O (.cells #[.int .i64 (k:Int),.int .i64 (r:Int),.int .i64 ((c0+j:Nat):Int)] 269 (0,0))):=xQ.out
      obtain⟨c,hc⟩:=fd (c0+j)
      have d0:wr.cell? ⟨w.heap.size,0,Z⟩=O (.int .i64 (k:Int)):=by simp [World.cell?,xQ.out]
      have d1:wr.cell? ⟨w.heap.size,1,Z⟩=O (.int .i64 (r:Int)):=by simp [World.cell?,xQ.out]
      have d2:wr.cell? ⟨w.heap.size,2,Z⟩=O (.int .i64 (c:Int)):=by simp [World.cell?,xQ.out,hc]
      have c1:wr.cell? ⟨l,j,Z⟩=O (.slice (O ⟨G j,0,Z⟩) k (U j)):=i8.out.cell (HM.out.cell_l hlt) (by simp only;omega)
      have lm:=dG k r c za za za
      unfold key at lm
      have HC:=am hc
      have Gw:(c:Int)<=100:=za;clear em hgood hall xQ hc
      have i1:(0:Int)<=(j:Int):=za;have i2:(j:Int)<(m:Int):=za
      go_wp2_with (at_mapUpdate;refine wpList_mapUpdate_own _ rfl _ _ _ 183 rfl 269 36 keyed Tryz.underlying183 elem b (n + j) D rfl xR.out (by unfold maxLen;omega) _ _ (aS k r c) rfl rfl lm (told (G j) k (U j)) [] (CC _ _ _) ?_;intro w1 I6 EA
                   have kU:=EA.block w.heap.size (World.block_lt_of_cell? wr _ d0) zj
                   have d3:w1.cell? ⟨w.heap.size,2,Z⟩=O (.int .i64 (c:Int)):=(World.cell?_of_block kU).trans d2
                   have z3:w1.frozen? ⟨w.heap.size,2,Z⟩=jf:=by simp [World.frozen?,kU,HB.out]
                   have jZ:V (w1.heap[w.heap.size]? = O (.cells #[.int .i64 (k:Int),.int .i64 (r:Int),.int .i64 ((c0+j:Nat):Int)] 269 (0,0))):=kU.trans HB.out
                   have xZ:=am EA
                   have qi:=am I6
                   clear EA I6 kU)
      have HW:V (Kept (w1.setCell ⟨w.heap.size,2,Z⟩ (.int .i64 ((c:Int)+1))) b B k r (n+(j+1)) c0 (c0+(j+1))):=by
        have jI:=HC.out
        have ho:Own wr (G j) k (U j) (gen k c):=((HM.out.row j hlt).keeps i8.out (by have:=HM.out.row j hlt;obtain⟨_,_,f,jA,_⟩:=this;have:=HK.out.ne jA;omega)).congr fun i hi=>by rw [HH.out j i hlt hi,jI]
        have hp:Kept w1 b B k r (n+j+1) c0 (c+1):=Kept.put xR.out L9.out (by rw [jI];exact yi.out) qi.out xZ.out za za za (HM.out.los j hlt) ho
        rw [show c0+(j+1)=c+1 by omega]
        refine hp.blocks (Below.heap_setCell _ _ _ _ zj) fun g m' f jA=>Below.heap_setCell _ _ _ _ ?_
        rintro rfl
        obtain⟨cs,kY,_⟩:=jA
        rw [jZ.out] at kY
        cases kY
      have HX:V ((w1.setCell ⟨w.heap.size,2,Z⟩ (.int .i64 ((c:Int)+1))).heap[w.heap.size]? = O (.cells #[.int .i64 (k:Int),.int .i64 (r:Int),.int .i64 ((c0+(j+1):Nat):Int)] 269 (0,0))):=by
        rw [show ((c0+(j+1):Nat):Int)=(c:Int)+1 by have:=HC.out;omega]
        exact CQ jZ.out
      have HY:V (Keeps b (b+1) w (w1.setCell ⟨w.heap.size,2,Z⟩ (.int .i64 ((c:Int)+1)))):=(i8.out.trans (Keeps.map xZ.out)).fresh (W _) 2 _
      go_roundw
      case rel=>exact⟨j+1,za,by go_num,HW.out,HX.out,HY.out⟩
      case measure=>simp [intOf];omega
    · obtain rfl:j=m:=za
      go_wp2
      go_end0
      exact⟨rfl,jJ.out,i8.out⟩
theorem nk{v:jg}{ps:List MemPlace}(h:elem v=O (.agg [],ps)):v=.slice Z 0 0:=by
 unfold elem at h;split at h
 ·simp [told] at h
 ·rfl
 ·cases h
theorem gP{w:N}{pm:Array Oper}{kg:List Oper}{o:Oper}{a:Act}{Q:Exit->Act->N->Prop}(hg:o.guard=Z)(m x:Operand)(Ma:o.op=Op.lookup 183 m x ja)(b n:Nat)(D:DataW Unit)
  (hm:a.eval m=.map (O b)) (em:w.ownsMap I 269 elem b n D) (key:jg) (kl:Lit) (hx:a.eval x=key) (lm:keyOf I 269 key=O kl) (g q u:Nat) (hh:Maps.has D kl=ja) (jx:D.atKey kl (.agg [])=told g q u)
  (hK:wpList I pm Q kg (a.put o.dst (.tuple #[.slice (O ⟨g,0,Z⟩) q u,.bool ja])) w):wpList I pm Q (o :: kg) a w:=by
 refine wpList_lookup_own_ok w hg m x 183 Ma 269 36 keyed Tryz.underlying183 elem (pC w) (.agg []) [] elem_nil b n D hm em key kl hx lm fun v ps hv=>?_;rw [jx] at hv;obtain rfl:=nA hv;rw [hh];exact hK
theorem eh{w:N}{pm:Array Oper}{kg:List Oper}{o:Oper}{a:Act}{Q:Exit->Act->N->Prop}(hg:o.guard=Z)(m x:Operand)(Ma:o.op=Op.lookup 183 m x ja)(b n:Nat)(D:DataW Unit)
  (hm:a.eval m=.map (O b)) (em:w.ownsMap I 269 elem b n D) (key:jg) (kl:Lit) (hx:a.eval x=key) (lm:keyOf I 269 key=O kl) (hh:Maps.has D kl=jf)
  (hK:wpList I pm Q kg (a.put o.dst (.tuple #[.slice Z 0 0,.bool jf])) w):wpList I pm Q (o :: kg) a w:=by
 refine wpList_lookup_own_ok w hg m x 183 Ma 269 36 keyed Tryz.underlying183 elem (pC w) (.agg []) [] elem_nil b n D hm em key kl hx lm fun v ps hv=>?_;rw [Maps.atKey_of_not_has hh] at hv;obtain rfl:=nk hv;rw [hh];exact hK
theorem ew{w:N}{pm:Array Oper}{kg:List Oper}{o:Oper}{a:Act}{Q:Exit->Act->N->Prop}(hg:o.guard=Z)(m x:Operand)(Ma:o.op=Op.lookup 183 m x jf)(b n:Nat)(D:DataW Unit)
  (hm:a.eval m=.map (O b)) (em:w.ownsMap I 269 elem b n D) (key:jg) (kl:Lit) (hx:a.eval x=key) (lm:keyOf I 269 key=O kl) (g q u:Nat) (jx:D.atKey kl (.agg [])=told g q u)
  (hK:wpList I pm Q kg (a.put o.dst (.slice (O ⟨g,0,Z⟩) q u)) w):wpList I pm Q (o :: kg) a w:=by
 refine wpList_plain hg fun K' V6=>?_;obtain⟨v,ps,l9,hv⟩:=em.lookup keyed Tryz.underlying183 (pC w) elem_nil lm;rw [jx] at hv;obtain rfl:=nA hv;unfold Oper.wp;simp [execOp,Ma,hm,hx,l9,Result.andThen];exact V6 _ _ hK
theorem sA{k i j:Nat}(hi:i<k):gen k i j=one i j:=zk hi
theorem sJ(k i j:Nat):gen k (k+i) j=cau k i j:=by
 unfold gen;rw [zl za,Nat.add_sub_cancel_left]
def AD (w:N) (b B k r n c:Nat) (e:Ending) (w':N):Prop :=
  ∃ g u,e=.returned (.slice (O ⟨g,0,Z⟩) k u)/\B<=g/\Own w' g k u (gen k c)/\Kept w' b B k r (n+12) 0 0/\Keeps b (b+1) w w'
theorem td(w:N)(b B k r n c:Nat)(kD:1<=k)(hk:k<=12)(hr:r<=4)(hc:c<k+r)(hn:n<=10000)(hB:B<=w.heap.size)(jJ:Kept w b B k r n 0 0):
  jj I 218 #[.map (O b),key k r c] w (AD w b B k r n c):=by
 obtain⟨w1,ci⟩:=fd (w.alloc (.cells #[.int .i64 (k:Int),.int .i64 (r:Int),.int .i64 (c:Int)] 269))
 have b1:jd w.heap.size w w1:=by rw [ci];exact(jb _ _).alloc (W _) _
 have d0:w1.cell? ⟨w.heap.size,0,Z⟩=O (.int .i64 (k:Int)):=by rw [ci,cell_of_row _ _ _ _ _ _ (heap_alloc_new w _)];rfl
 have d1:w1.cell? ⟨w.heap.size,1,Z⟩=O (.int .i64 (r:Int)):=by rw [ci,cell_of_row _ _ _ _ _ _ (heap_alloc_new w _)];rfl
 have d2:w1.cell? ⟨w.heap.size,2,Z⟩=O (.int .i64 (c:Int)):=by rw [ci,cell_of_row _ _ _ _ _ _ (heap_alloc_new w _)];rfl
 have jB:=jJ.lt;have E7:V (Kept w1 b B k r n 0 0):=jJ.below b1;have lm:=dG k r c za za za;obtain⟨D,em,hgood,_⟩:=E7.out;have xR:=am em;clear em jJ;unfold key at lm ⊢;cases hh:Maps.has D (aS k r c)
 ·have KT:=am hh;clear hh hgood;by_cases hck:c<k
  ·go_enter Tryz.func218,Tryz.ntmps218
   go_wp2_with (at_lookup;refine eh rfl _ _ rfl b n D rfl (by rw [<- ci];exact xR.out) _ _ rfl lm KT.out ?_)
   rw [<- ci];clear ci;refine(BN w1 k kD za).mono ?_;rintro e w2 ⟨l,G,U,rfl,hm,b2⟩;have f0:=held d0 b2;have f1:=held d1 b2;have f2:=held d2 b2;have Mb:V (jj I 292 #[.map (O b),.agg #[.int .i64 (k:Int),.int .i64 (r:Int),.int .i64 0],.slice (O ⟨l,0,Z⟩) k k] w2 fun e w'=>e=.returned (.tuple #[])/\Kept w' b B k r (n+k) 0 (0+k)/\Keeps b (b+1) w2 w') :=
    om w2 b B k r n 0 l k k w2.heap.size G U one hk hr za za (E7.out.below b2) (hm.lower (Nat.le_trans hB b1.size)) (fun i j hi _=>by rw [Nat.zero_add];exact(sA hi).symm)
   have PO:=ag b1 b2 b1.size;have yF:w.heap.size<w1.heap.size:=World.block_lt_of_cell? w1 _ d0;clear hm d0 d1 d2 xR KT b2;go_wp2_with fail
   refine Mb.out.mono ?_;rintro e w3 ⟨rfl,Kx,A4⟩;obtain⟨D3,em,hgood,hall⟩:=Kx;have hh:=hall c (jc _) za;obtain⟨g,u,e1,e2,e3⟩:=hgood c hc hh;have zG:=am e1;have xR:=am em;have JM:V (Kept w3 b B k r (n+12) 0 0):=Kept.mono (n:=n+k) ⟨D3,em,hgood,fun x h3 h4=>absurd h4 za⟩ za;have g0:=A4.cell f0 (.inr (by show b+1<=w.heap.size;omega));have g1:=A4.cell f1 (.inr (by show b+1<=w.heap.size;omega));have g2:=A4.cell f2 (.inr (by show b+1<=w.heap.size;omega));clear hgood hall hh e1 em f0 f1 f2 Mb;go_wp2_with (at_lookup;refine ew rfl _ _ rfl b (n+k) D3 rfl xR.out _ _ rfl lm g k u zG.out ?_)
   go_ret;exact⟨g,u,rfl,e2,e3,JM.out,(Keeps.of_below PO).trans A4⟩
  ·have Mc:1<=r:=za;have CY:=rA w1 (k:Int) (r:Int);rw [show okN (k:Int) 12=ja from zm za,show okN (r:Int) 4=ja from zm za,ji,ji] at CY;go_enter Tryz.func218,Tryz.ntmps218
   go_wp2_with (at_lookup;refine eh rfl _ _ rfl b n D rfl (by rw [<- ci];exact xR.out) _ _ rfl lm KT.out ?_)
   rw [<- ci];clear ci;refine CY.mono ?_;intro e w2 hh;obtain⟨l,cl,G,U,rfl,hm,b2⟩:=mA hh za;have f0:=held d0 b2;have f1:=held d1 b2;have f2:=held d2 b2;have Mb:V (jj I 292 #[.map (O b),.agg #[.int .i64 (k:Int),.int .i64 (r:Int),.int .i64 (k:Int)],.slice (O ⟨l,0,Z⟩) r cl] w2 fun e w'=>e=.returned (.tuple #[])/\Kept w' b B k r (n+r) k (k+r)/\Keeps b (b+1) w2 w') :=
    om w2 b B k r n k l cl r w2.heap.size G U (cau k) hk hr za za ((E7.out.below b2).any k) (hm.lower (Nat.le_trans hB b1.size)) (fun i j _ _=>(sJ k i j).symm)
   have PO:=ag b1 b2 b1.size;have yF:w.heap.size<w1.heap.size:=World.block_lt_of_cell? w1 _ d0;clear hm d0 d1 d2 xR KT b2 hh CY;go_wp2_with fail
   refine Mb.out.mono ?_;rintro e w3 ⟨rfl,Kx,A4⟩;obtain⟨D3,em,hgood,hall⟩:=Kx;have hh:=hall c za hc;obtain⟨g,u,e1,e2,e3⟩:=hgood c hc hh;have zG:=am e1;have xR:=am em;have JM:V (Kept w3 b B k r (n+12) 0 0):=Kept.mono (n:=n+r) ⟨D3,em,hgood,fun x h3 h4=>absurd h4 za⟩ za;have g0:=A4.cell f0 (.inr (by show b+1<=w.heap.size;omega));have g1:=A4.cell f1 (.inr (by show b+1<=w.heap.size;omega));have g2:=A4.cell f2 (.inr (by show b+1<=w.heap.size;omega));clear hgood hall hh e1 em f0 f1 f2 Mb;go_wp2_with (at_lookup;refine ew rfl _ _ rfl b (n+r) D3 rfl xR.out _ _ rfl lm g k u zG.out ?_)
   go_ret;exact⟨g,u,rfl,e2,e3,JM.out,(Keeps.of_below PO).trans A4⟩
 ·obtain⟨g,u,e1,e2,e3⟩:=hgood c hc hh;have zG:=am e1;have KT:=am hh;clear hh hgood e1;go_enter Tryz.func218,Tryz.ntmps218
  go_wp2_with (at_lookup;refine gP rfl _ _ rfl b n D rfl (by rw [<- ci];exact xR.out) _ _ rfl lm g k u KT.out zG.out ?_)
  rw [<- ci];clear ci;go_ret;exact⟨g,u,rfl,e2,e3,E7.out.mono za,Keeps.of_below b1⟩
def fG (L:Nat->Nat):Nat->Nat × (Nat->Nat)
  | 0=>(0,fun _=>0)
  | n+1=>if L n=0 then fG L n else ((fG L n).1+1,put (fG L n).1 n (fG L n).2)
def cnt (L:Nat->Nat) (n:Nat):Nat:=(fG L n).1
def sel (L:Nat->Nat) (n:Nat):Nat->Nat:=(fG L n).2
theorem cnt_skip{L:Nat->Nat}{n:Nat}(h:L n=0):cnt L (n+1)=cnt L n:=by unfold cnt;rw [fG,zk h]
theorem cnt_take{L:Nat->Nat}{n:Nat}(h:L n ≠ 0):cnt L (n+1)=cnt L n+1:=by unfold cnt;rw [fG,zl h]
theorem sel_skip{L:Nat->Nat}{n:Nat}(h:L n=0):sel L (n+1)=sel L n:=by unfold sel;rw [fG,zk h]
theorem sel_take{L:Nat->Nat}{n:Nat}(h:L n ≠ 0):sel L (n+1)=put (cnt L n) n (sel L n):=by unfold sel cnt;rw [fG,zl h]
structure Sel (L:Nat->Nat) (n c:Nat) (R:Nat->Nat):Prop where
  lt:∀ t,t<c->R t<n
  there:∀ t,t<c->L (R t) ≠ 0
  rise:∀ t t',t<t'->t'<c->R t<R t'
  all:∀ i,i<n->L i ≠ 0->∃ t,t<c/\R t=i
theorem sel_is(L:Nat->Nat)(n:Nat):Sel L n (cnt L n) (sel L n):=by
 induction n with
 | zero=>exact⟨fun t h=>absurd h (Nat.not_lt_zero t),fun t h=>absurd h (Nat.not_lt_zero t),fun t t' _ h=>absurd h (Nat.not_lt_zero t'),fun i h=>absurd h (Nat.not_lt_zero i)⟩
 | succ n ih =>
  by_cases h:L n=0
  ·rw [cnt_skip h,sel_skip h];refine⟨fun t ht=>by have:=ih.lt t ht;omega,ih.there,ih.rise,fun i hi f9=>ih.all i ?_ f9⟩;have:i ≠ n:=fun e=>f9 (e ▸ h);omega
  ·rw [cnt_take h,sel_take h];refine⟨fun t ht=>?_,fun t ht=>?_,fun t t' h1 h2=>?_,fun i hi f9=>?_⟩
   ·by_cases e:t=cnt L n
    ·rw [e,put_at];omega
    ·rw [put_ne _ _ e];have:=ih.lt t za;omega
   ·by_cases e:t=cnt L n
    ·rw [e,put_at];exact h
    ·rw [put_ne _ _ e];exact ih.there t za
   ·rw [put_ne _ _ za];by_cases e:t'=cnt L n
    ·rw [e,put_at];exact ih.lt t za
    ·rw [put_ne _ _ e];exact ih.rise t t' h1 za
   ·by_cases e:i=n
    ·exact⟨cnt L n,za,by rw [put_at,e]⟩
    ·obtain⟨t,ht,hr⟩:=ih.all i za f9;exact⟨t,za,by rw [put_ne _ _ za];exact hr⟩
theorem cnt_le(L:Nat->Nat)(n:Nat):cnt L n<=n:=by
 induction n with
 | zero=>exact W _
 | succ n ih =>
  by_cases h:L n=0
  ·rw [cnt_skip h];omega
  ·rw [cnt_take h];omega
theorem oG(L:Nat->Nat){i n:Nat}(h:i<=n):cnt L i<=cnt L n:=by
 induction n with
 | zero=>rw [show i=0 by omega];exact W _
 | succ n ih =>
  by_cases e:i=n+1
  ·rw [e];exact W _
  ·have:=ih za;by_cases g:L n=0
   ·rw [cnt_skip g];omega
   ·rw [cnt_take g];omega
theorem iO(L:Nat->Nat){i n t:Nat}(h:i<=n)(ht:t<cnt L i):sel L n t=sel L i t:=by
 induction n with
 | zero=>rw [show i=0 by omega]
 | succ n ih =>
  by_cases e:i=n+1
  ·rw [e]
  ·have hm:=oG L (show i<=n by omega);by_cases g:L n=0
   ·rw [sel_skip g];exact ih za
   ·rw [sel_take g,put_ne _ _ za];exact ih za
theorem Sel.ge{L:Nat->Nat}{n c:Nat}{R:Nat->Nat}(h:Sel L n c R)(t:Nat)(ht:t<c):t<=R t:=by
 induction t with
 | zero=>exact jc _
 | succ t ih=>have:=ih za;have:=h.rise t (t+1) za ht;omega
theorem cnt_full{L:Nat->Nat}{n:Nat}(h:∀ i,i<n->L i ≠ 0):cnt L n=n:=by
 induction n with
 | zero=>rfl
 | succ n ih=>rw [cnt_take (h n za),ih (fun i hi=>h i za)]
theorem rB{L:Nat->Nat}{n i:Nat}(hi:i<n)(h:L i=0):cnt L n<n:=by
 have h1:=cnt_le L i;have h2:cnt L (i+1)=cnt L i:=cnt_skip h;have h3:∀ m,i+1<=m->cnt L m<m:=fun m=>by
  induction m with
  | zero=>intro g;omega
  | succ m ih =>
   intro g;by_cases e:i=m
   ·subst e;omega
   ·have:=ih za;by_cases q:L m=0
    ·rw [cnt_skip q];omega
    ·rw [cnt_take q];omega
 exact h3 n hi
theorem cnt_congr{L L':Nat->Nat}{n:Nat}(h:∀ i,i<n->(L i=0 ↔ L' i=0)):fG L n=fG L' n:=by
 induction n with
 | zero=>rfl
 | succ n ih =>
  rw [fG,fG,ih (fun i hi=>h i za)];have:=h n za;by_cases e:L n=0
  ·rw [zk e,zk (this.1 e)]
  ·rw [zl e,zl (fun g=>e (this.2 g))]
def len0 (L:Nat->Nat):Nat->Nat
  | 0=>0
  | n+1=>if len0 L n=0 then L n else len0 L n
theorem len0_sel(L:Nat->Nat)(n:Nat):(cnt L n=0/\len0 L n=0)\/(0<cnt L n/\len0 L n=L (sel L n 0)/\len0 L n ≠ 0):=by
 induction n with
 | zero=>exact .inl ⟨rfl,rfl⟩
 | succ n ih =>
  rw [len0];rcases ih with ⟨h1,h2⟩ | ⟨h1,h2,h3⟩
  ·rw [zk h2];by_cases h:L n=0
   ·exact .inl ⟨by rw [cnt_skip h,h1],h⟩
   ·refine .inr ⟨by rw [cnt_take h];omega,?_,h⟩;rw [sel_take h,h1,put_at]
  ·rw [zl h3];refine .inr ⟨?_,?_,h3⟩
   ·have:cnt L n<=cnt L (n+1):=oG L (Nat.le_succ n);omega
   ·rw [iO L (Nat.le_succ n) h1];exact h2
def okT (L:Nat->Nat):Nat->Bool
  | 0=>ja
  | n+1=>okT L n && (decide (L n=0) || (decide (L n<=65536) && decide (L n=len0 L (n+1))))
theorem my{L:Nat->Nat}{n:Nat}(h:okT L n=ja):∀ i,i<n->L i=0\/(L i<=65536/\L i=len0 L n):=by
 induction n with
 | zero=>intro i hi;omega
 | succ n ih =>
  rw [okT,Bool.and_eq_true,Bool.or_eq_true,Bool.and_eq_true,decide_eq_true_eq,decide_eq_true_eq,decide_eq_true_eq] at h;intro i hi;by_cases e:i=n
  ·rw [e];exact h.2
  ·rcases ih h.1 i za with g | ⟨g1,g2⟩
   ·exact .inl g
   ·by_cases q:len0 L n=0
    ·exact .inl (by rw [g2,q])
    ·exact .inr ⟨g1,by rw [g2,len0,zl q]⟩
theorem eo{L:Nat->Nat}{n:Nat}(h:okT L n=ja)(h2:L n=0\/(L n<=65536/\L n=len0 L (n+1))):okT L (n+1)=ja:=by
 rw [okT,h,Bool.true_and,Bool.or_eq_true,Bool.and_eq_true,decide_eq_true_eq,decide_eq_true_eq,decide_eq_true_eq];exact h2
theorem vq{L:Nat->Nat}{i n:Nat}(h:okT L n=ja)(hi:i<=n):okT L i=ja:=by
 induction n with
 | zero=>rw [show i=0 by omega];rfl
 | succ n ih =>
  by_cases e:i=n+1
  ·rw [e];exact h
  ·rw [okT,Bool.and_eq_true] at h;exact ih h.1 za
theorem tE{L:Nat->Nat}{n:Nat}(h:okT L n=jf):∃ q,q<n/\okT L q=ja/\L q ≠ 0/\(65536<L q\/L q ≠ len0 L (q+1)):=by
 induction n with
 | zero=>cases h
 | succ n ih =>
  cases g:okT L n
  ·obtain⟨q,h1,h2⟩:=ih g;exact⟨q,za,h2⟩
  ·refine⟨n,za,g,fun e=>?_,?_⟩
   ·rw [eo g (.inl e)] at h;cases h
   ·by_cases e1:L n<=65536
    ·exact .inr fun e2=>by rw [eo g (.inr ⟨e1,e2⟩)] at h;cases h
    ·exact .inl za
theorem iu{L:Nat->Nat}{n i:Nat}(h:okT L n=ja)(hi:i<n)(f9:L i ≠ 0):L i<=65536/\L i=len0 L (i+1):=by
 have:=my (vq h (show i+1<=n by omega)) i za;rcases this with g | g
 ·exact absurd g f9
 ·exact g
def bN (k:Nat) (R:Nat->Nat):M:=fun t j=>gen k (R t) j
def dec (k:Nat) (R:Nat->Nat) (H:M):M:=mm k (bX k (bN k R)) (fun t=>H (R t))
def enc (k:Nat) (D:M):M:=mm k (gen k) D
theorem iF{k n:Nat}{R:Nat->Nat}(hk:k<=12)(hn:n<=16)(hlt:∀ t,t<k->R t<n)(hr:∀ t t',t<t'->t'<k->R t<R t'):IsInv k (bN k R) (bX k (bN k R)):=by
 have h:=DJ k n R za hlt (fun i j h1 h2=>by have:=hr i j h1 h2;omega) za;exact sR (fr (uT h).choose_spec)
theorem Ba{k n:Nat}{R:Nat->Nat}(H:M)(hk:k<=12)(hn:n<=16)(hlt:∀ t,t<k->R t<n)(hr:∀ t t',t<t'->t'<k->R t<R t')(t b:Nat)(ht:t<k):enc k (dec k R H) (R t) b=H (R t) b:=by
 have hi:=iF hk hn hlt hr;show mm k (bN k R) (mm k (bX k (bN k R)) (fun t=>H (R t))) t b=_;rw [<- cG];show sum k (fun l=>K.mul (mm k (bN k R) (bX k (bN k R)) t l) (H (R l) b))=_;rw [aT (g:=fun l=>K.mul (one t l) (H (R l) b)) (fun l hl=>by rw [(hi t l ht hl).2])];exact dm (A:=fun t=>H (R t)) ht
theorem enc_data{k:Nat}(D:M){i b:Nat}(hi:i<k):enc k D i b=D i b:=by
 show sum k (fun l=>K.mul (gen k i l) (D l b))=_;rw [aT (g:=fun l=>K.mul (one i l) (D l b)) (fun l _=>by rw [show gen k i l=one i l from zk hi])];exact dm hi
theorem uR{k n:Nat}{R:Nat->Nat}(H:M)(hk:k<=12)(hn:n<=16)(hlt:∀ t,t<k->R t<n)(hr:∀ t t',t<t'->t'<k->R t<R t')(t b:Nat)(ht:t<k)(hi:R t<k):dec k R H (R t) b=H (R t) b:=by
 rw [<- enc_data (dec k R H) hi];exact Ba H hk hn hlt hr t b ht
def mayB (k r:Int):Bool:=decide (1<=k/\k<=12/\0<=r/\r<=4)
theorem dJ{k r:Int}(h:mayB k r=ja):1<=k/\k<=12/\0<=r/\r<=4:=of_decide_eq_true h
theorem sr(w:N)(k r:Int):jj I 143 #[P S k,P S r] w fun e w'=>e=p (.bool (mayB k r))/\w'=w:=by
 by_cases h1:1<=k
 ·by_cases h2:k<=12
  ·by_cases h3:0<=r
   ·by_cases h4:r<=4
    ·rw [show mayB k r=ja from zm ⟨h1,h2,h3,h4⟩];go_enter Tryz.func143,Tryz.ntmps143
     go_wp2;go_ret;exact⟨zi,rfl⟩
    ·rw [show mayB k r=jf from zp fun h=>h4 h.2.2.2];go_enter Tryz.func143,Tryz.ntmps143
     go_wp2;go_ret;exact⟨zi,rfl⟩
   ·rw [show mayB k r=jf from zp fun h=>h3 h.2.2.1];go_enter Tryz.func143,Tryz.ntmps143
    go_wp2;go_ret;exact⟨zi,rfl⟩
  ·rw [show mayB k r=jf from zp fun h=>h2 h.2.1];go_enter Tryz.func143,Tryz.ntmps143
   go_wp2;go_ret;exact⟨zi,rfl⟩
 ·rw [show mayB k r=jf from zp fun h=>h1 h.1];go_enter Tryz.func143,Tryz.ntmps143
  go_wp2;go_ret;exact⟨zi,rfl⟩
def okC (ll:Nat) (L:Nat->Nat) (many:Int):Bool:=decide ((ll:Int)=many) && okT L ll
def oV (w:N) (ll:Nat) (L:Nat->Nat) (many:Int) (e:Ending) (w':N):Prop :=
  ∃ ao b8,e=.returned (.tuple #[.slice ao (dS (okC ll L many) (cnt L ll)) b8,.int .i64 (dE (okC ll L many) 40)])/\RdI w' ao (dS (okC ll L many) (cnt L ll)) (fun t=>(sel L ll t:Int))/\dS (okC ll L many) (cnt L ll)<=b8/\b8<=maxLen/\b7 w w'
theorem mU(w:N)(ao:Option je)(R:Nat->Int):RdI w ao 0 R:=fun h=>absurd h (Nat.lt_irrefl 0)
theorem Ac{w:N}{base e n b8:Nat}{ao:Option je}{xs:List jg}(h:w.ownsRow base e 1 (J ao n b8) n xs):n<=b8/\b8<=maxLen:=by
 rcases h.2 with ⟨h1,h2⟩ | ⟨g,jy,jw,h1,_,_,h4,h5,_⟩
 ·cases h1;exact⟨W _,jc _⟩
 ·cases h1;exact⟨h4,h5⟩
theorem mh(w:N)(lo:Option je)(ll cl:Nat)(A:Nat->Option je)(C L:Nat->Nat)(H:M)(many:Int)(hm:many<=16)(hl:Lst w lo ll A C L H):
    jj I 144 #[J lo ll cl,P S many] w (oV w ll L many):=by
  have HL:=am hl
  clear hl
  by_cases hmany:(ll:Int)=many
  · subst hmany
    obtain⟨i0,hi,yJ,EW,hi2⟩:=info_parts gy
    have zM:((ll:Int) != (ll:Int))=jf:=zi;cases hok:okT L ll
    · obtain⟨q,hq,Gq,Fo,SD⟩:=tE hok
      have kN:V (okC ll L (ll:Int)=jf):=by show _=_;unfold okC;rw [hok,Bool.and_false]
      have Pm:=am Gq
      have Pn:=am Fo
      have V7:=am SD
      clear hok Gq Fo SD
      go_enter Tryz.func144,Tryz.ntmps144
      go_wp2
      go_loopw [6,15] (fun v x wr=>∃ i:Nat,i<=q/\x=P S i/\(∃ ao b8,v=J ao (cnt L i) b8)/\V (wr.ownsRow w.heap.size 3 1 v (cnt L i) (bE (cnt L i) (sel L i)))/\V (b7 w wr)) (fun _ x _=>ll-(intOf x).toNat)
      case atStart=>exact⟨0,jc _,rfl,⟨Z,0,rfl⟩,World.ownsRow_nil _ _ _ _,jb _ _⟩
      case round =>
        obtain⟨i,hiq,rfl,⟨ao,b8,rfl⟩,em,d8⟩:=hrel
        have hlt:i<ll:=za;by_cases hiq2:i<q
        · obtain⟨b,off,rfl,jU⟩:=HL.out.at_ za
          have JG:=World.block_lt_of_cell? w _ (jU i hlt)
          simp only at JG
          have ck:=held (jU i hlt) d8.out
          have j1:(0:Int)<=(i:Int):=za;have j2:(i:Int)<(ll:Int):=za;by_cases hz:L i=0
          · rw [hz] at ck
            have HS:V (cnt L (i+1)=cnt L i/\sel L (i+1)=sel L i):=⟨cnt_skip hz,sel_skip hz⟩
            clear hz jU
            go_wp2
            go_roundw
            case rel=>exact⟨i+1,za,by go_num,⟨ao,b8,by rw [HS.out.1]⟩,by rw [HS.out.1,HS.out.2];exact em,d8⟩
            case measure=>simp [intOf];omega
          · obtain⟨ct,xx⟩:=fd (cnt L i)
            obtain⟨XS,kh⟩:=fd (bE ct (sel L i))
            have qA:=d8.out.size
            have JN:ct<=i:=by rw [xx];exact cnt_le L i
            have hst:=iu Pm.out hiq2 hz
            have qe:L i<=65536:=hst.1
            have JO:0<L i:=za;obtain⟨s,hs⟩:=fd (sel L (i+1) 0)
            have k9:0<cnt L (i+1):=by rw [cnt_take hz];omega
            have JP:s<ll:=by rw [hs];have:=(sel_is L (i+1)).lt 0 k9;omega
            have Md:L s=L i:=by
              rcases len0_sel L (i+1) with ⟨h1,_⟩ | ⟨_,h2,_⟩
              · omega
              · rw [hs,<- h2];exact hst.2.symm
            have cs:w.cell? ⟨b,off+s,Z⟩=O (J (A s) (L s) (C s)):=jU s JP
            rw [Md] at cs
            have kR:V (∀ o,(wr.alloc o).ownsRow w.heap.size 3 1 (J ao ct b8) ct XS):=fun o=>by rw [kh,xx];exact em.out.alloc o
            have o7:V (XS ++ [P S (i:Int)]=bE (cnt L (i+1)) (sel L (i+1))):=by show _=_;rw [cnt_take hz,sel_take hz,dO,kh,xx]
            have yQ:V (cnt L (i+1)=ct+1):=by show _=_;rw [cnt_take hz,xx]
            have zA:=am hs
            have JQ:V ((XS ++ [P S (i:Int)])[0]? = O (P S (s:Int))):=by show _=_;rw [o7.out,cY _ _ _ k9,hs]
            rw [<- xx]
            have j3:(0:Int)<=(s:Int):=za;have j4:(s:Int)<(ll:Int):=za;have Ia:((L i:Int) != (L i:Int))=jf:=zi;have xG:decide ((65536:Int)<(L i:Int))=jf:=zj;clear hz jU hst xx kh hs Md k9
            go_wp2_with (at_builtin;refine wpList_append_lies _ zg (jk 23) (jk 25) 27 zg w.heap.size 3 i0 (P S 0) 1 8 Tryz.underlying27 hi yJ EW hi2 zg zb (J ao ct b8) ct XS zg (kR.out _) ⟨wr.heap.size, 0, Z⟩ 1 1 [P S (i : Int)] zg zg (World.news_of_block (heap_alloc_new wr _)) (by simp [Value.oneCell']) zb (by unfold maxLen;omega) za zj (wr.heap.size + 1) zi ?_;intro g5 ky w5 jG i7 _ _
                         have yR:=am jG
                         have b5:b7 w w5:=(d8.out.alloc qA _).grown i7 zj (fun q hq=>((kR.out (jh #[] 3)).lt q hq).1)
                         have e1:w5.cell? ⟨g5,0,Z⟩=O (P S (s:Int)):=(by have:=yR.out.cells (g:=g5) rfl 0 _ JQ.out;rw [Addr.add_lit] at this;exact this)
                         have e2:w5.cell? ⟨b,off+s,Z⟩=O (J (A s) (L i) (C s)):=held cs b5
                         have B5:=am b5
                         clear jG i7 b5)
            go_roundw
            case rel=>exact⟨i+1,za,by go_num,⟨_,_,by rw [yQ.out]⟩,by rw [<- o7.out,yQ.out];exact yR.out,B5.out⟩
            case measure=>simp [intOf];omega
        · obtain rfl:i=q:=za
          obtain⟨b,off,rfl,jU⟩:=HL.out.at_ za
          have JG:=World.block_lt_of_cell? w _ (jU i hlt)
          simp only at JG
          have ck:=held (jU i hlt) d8.out
          have j1:(0:Int)<=(i:Int):=za;have j2:(i:Int)<(ll:Int):=za;have hz:L i ≠ 0:=Pn.out
          by_cases hbig:65536<L i
          · have xG:decide ((65536:Int)<(L i:Int))=ja:=zj
            obtain⟨ct,xx⟩:=fd (cnt L i)
            obtain⟨XS,kh⟩:=fd (bE ct (sel L i))
            have qA:=d8.out.size
            have JN:ct<=i:=by rw [xx];exact cnt_le L i
            have JO:0<L i:=za;obtain⟨s,hs⟩:=fd (sel L (i+1) 0)
            have k9:0<cnt L (i+1):=by rw [cnt_take hz];omega
            have JP:s<ll:=by rw [hs];have:=(sel_is L (i+1)).lt 0 k9;omega
            have cs:w.cell? ⟨b,off+s,Z⟩=O (J (A s) (L s) (C s)):=jU s JP
            have kR:V (∀ o,(wr.alloc o).ownsRow w.heap.size 3 1 (J ao ct b8) ct XS):=fun o=>by rw [kh,xx];exact em.out.alloc o
            have o7:V (XS ++ [P S (i:Int)]=bE (cnt L (i+1)) (sel L (i+1))):=by show _=_;rw [cnt_take hz,sel_take hz,dO,kh,xx]
            have yQ:V (cnt L (i+1)=ct+1):=by show _=_;rw [cnt_take hz,xx]
            have zA:=am hs
            have JQ:V ((XS ++ [P S (i:Int)])[0]? = O (P S (s:Int))):=by show _=_;rw [o7.out,cY _ _ _ k9,hs]
            rw [<- xx]
            have j3:(0:Int)<=(s:Int):=za;have j4:(s:Int)<(ll:Int):=za;clear hz jU xx kh hs k9
            go_wp2_with (at_builtin;refine wpList_append_lies _ zg (jk 23) (jk 25) 27 zg w.heap.size 3 i0 (P S 0) 1 8 Tryz.underlying27 hi yJ EW hi2 zg zb (J ao ct b8) ct XS zg (kR.out _) ⟨wr.heap.size, 0, Z⟩ 1 1 [P S (i : Int)] zg zg (World.news_of_block (heap_alloc_new wr _)) (by simp [Value.oneCell']) zb (by unfold maxLen;omega) za zj (wr.heap.size + 1) zi ?_;intro g5 ky w5 jG i7 _ _
                         have yR:=am jG
                         have b5:b7 w w5:=(d8.out.alloc qA _).grown i7 zj (fun q hq=>((kR.out (jh #[] 3)).lt q hq).1)
                         have e1:w5.cell? ⟨g5,0,Z⟩=O (P S (s:Int)):=(by have:=yR.out.cells (g:=g5) rfl 0 _ JQ.out;rw [Addr.add_lit] at this;exact this)
                         have e2:w5.cell? ⟨b,off+s,Z⟩=O (J (A s) (L s) (C s)):=held cs b5
                         have B5:=am b5
                         clear jG i7 b5)
            go_ret2
            exact⟨Z,0,by rw [kN.out];rfl,by rw [kN.out];exact mU _ _ _,by rw [kN.out];exact W _,jc _,B5.out⟩
          · have qe:L i<=65536:=za
            have xG:decide ((65536:Int)<(L i:Int))=jf:=zj;have Ia:((L i:Int) != (L (sel L (i+1) 0):Int))=ja:=by
              have h0:L i ≠ len0 L (i+1):=by rcases V7.out with g | g;exact absurd g hbig;exact g
              rcases len0_sel L (i+1) with ⟨h1,_⟩ | ⟨_,h2,_⟩
              · have:=cnt_take hz;omega
              · rw [h2] at h0
                simp;omega
            clear hbig
            obtain⟨ct,xx⟩:=fd (cnt L i)
            obtain⟨XS,kh⟩:=fd (bE ct (sel L i))
            have qA:=d8.out.size
            have JN:ct<=i:=by rw [xx];exact cnt_le L i
            have JO:0<L i:=za;obtain⟨s,hs⟩:=fd (sel L (i+1) 0)
            rw [<- hs] at Ia
            have k9:0<cnt L (i+1):=by rw [cnt_take hz];omega
            have JP:s<ll:=by rw [hs];have:=(sel_is L (i+1)).lt 0 k9;omega
            have cs:w.cell? ⟨b,off+s,Z⟩=O (J (A s) (L s) (C s)):=jU s JP
            have kR:V (∀ o,(wr.alloc o).ownsRow w.heap.size 3 1 (J ao ct b8) ct XS):=fun o=>by rw [kh,xx];exact em.out.alloc o
            have o7:V (XS ++ [P S (i:Int)]=bE (cnt L (i+1)) (sel L (i+1))):=by show _=_;rw [cnt_take hz,sel_take hz,dO,kh,xx]
            have yQ:V (cnt L (i+1)=ct+1):=by show _=_;rw [cnt_take hz,xx]
            have zA:=am hs
            have JQ:V ((XS ++ [P S (i:Int)])[0]? = O (P S (s:Int))):=by show _=_;rw [o7.out,cY _ _ _ k9,hs]
            rw [<- xx]
            have j3:(0:Int)<=(s:Int):=za;have j4:(s:Int)<(ll:Int):=za;clear hz jU xx kh hs k9
            go_wp2_with (at_builtin;refine wpList_append_lies _ zg (jk 23) (jk 25) 27 zg w.heap.size 3 i0 (P S 0) 1 8 Tryz.underlying27 hi yJ EW hi2 zg zb (J ao ct b8) ct XS zg (kR.out _) ⟨wr.heap.size, 0, Z⟩ 1 1 [P S (i : Int)] zg zg (World.news_of_block (heap_alloc_new wr _)) (by simp [Value.oneCell']) zb (by unfold maxLen;omega) za zj (wr.heap.size + 1) zi ?_;intro g5 ky w5 jG i7 _ _
                         have yR:=am jG
                         have b5:b7 w w5:=(d8.out.alloc qA _).grown i7 zj (fun q hq=>((kR.out (jh #[] 3)).lt q hq).1)
                         have e1:w5.cell? ⟨g5,0,Z⟩=O (P S (s:Int)):=(by have:=yR.out.cells (g:=g5) rfl 0 _ JQ.out;rw [Addr.add_lit] at this;exact this)
                         have e2:w5.cell? ⟨b,off+s,Z⟩=O (J (A s) (L s) (C s)):=held cs b5
                         have B5:=am b5
                         clear jG i7 b5)
            go_ret2
            exact⟨Z,0,by rw [kN.out];rfl,by rw [kN.out];exact mU _ _ _,by rw [kN.out];exact W _,jc _,B5.out⟩
    · have kN:V (okC ll L (ll:Int)=ja):=by show _=_;unfold okC;rw [hok];simp
      have HT:=am hok
      clear hok
      go_enter Tryz.func144,Tryz.ntmps144
      go_wp2
      go_loopw [6,15] (fun v x wr=>∃ i:Nat,i<=ll/\x=P S i/\(∃ ao b8,v=J ao (cnt L i) b8)/\V (wr.ownsRow w.heap.size 3 1 v (cnt L i) (bE (cnt L i) (sel L i)))/\V (b7 w wr)) (fun _ x _=>ll-(intOf x).toNat)
      case atStart=>exact⟨0,jc _,rfl,⟨Z,0,rfl⟩,World.ownsRow_nil _ _ _ _,jb _ _⟩
      case round =>
        obtain⟨i,PP,rfl,⟨ao,b8,rfl⟩,em,d8⟩:=hrel
        by_cases hlt:i<ll
        · obtain⟨b,off,rfl,jU⟩:=HL.out.at_ za
          have JG:=World.block_lt_of_cell? w _ (jU i hlt)
          simp only at JG
          have ck:=held (jU i hlt) d8.out
          have j1:(0:Int)<=(i:Int):=za;have j2:(i:Int)<(ll:Int):=za;by_cases hz:L i=0
          · rw [hz] at ck
            have HS:V (cnt L (i+1)=cnt L i/\sel L (i+1)=sel L i):=⟨cnt_skip hz,sel_skip hz⟩
            clear hz jU
            go_wp2
            go_roundw
            case rel=>exact⟨i+1,za,by go_num,⟨ao,b8,by rw [HS.out.1]⟩,by rw [HS.out.1,HS.out.2];exact em,d8⟩
            case measure=>simp [intOf];omega
          · obtain⟨ct,xx⟩:=fd (cnt L i)
            obtain⟨XS,kh⟩:=fd (bE ct (sel L i))
            have qA:=d8.out.size
            have JN:ct<=i:=by rw [xx];exact cnt_le L i
            have hst:=iu HT.out hlt hz
            have qe:L i<=65536:=hst.1
            have JO:0<L i:=za;obtain⟨s,hs⟩:=fd (sel L (i+1) 0)
            have k9:0<cnt L (i+1):=by rw [cnt_take hz];omega
            have JP:s<ll:=by rw [hs];have:=(sel_is L (i+1)).lt 0 k9;omega
            have Md:L s=L i:=by
              rcases len0_sel L (i+1) with ⟨h1,_⟩ | ⟨_,h2,_⟩
              · omega
              · rw [hs,<- h2];exact hst.2.symm
            have cs:w.cell? ⟨b,off+s,Z⟩=O (J (A s) (L s) (C s)):=jU s JP
            rw [Md] at cs
            have kR:V (∀ o,(wr.alloc o).ownsRow w.heap.size 3 1 (J ao ct b8) ct XS):=fun o=>by rw [kh,xx];exact em.out.alloc o
            have o7:V (XS ++ [P S (i:Int)]=bE (cnt L (i+1)) (sel L (i+1))):=by show _=_;rw [cnt_take hz,sel_take hz,dO,kh,xx]
            have yQ:V (cnt L (i+1)=ct+1):=by show _=_;rw [cnt_take hz,xx]
            have zA:=am hs
            have JQ:V ((XS ++ [P S (i:Int)])[0]? = O (P S (s:Int))):=by show _=_;rw [o7.out,cY _ _ _ k9,hs]
            rw [<- xx]
            have j3:(0:Int)<=(s:Int):=za;have j4:(s:Int)<(ll:Int):=za;have Ia:((L i:Int) != (L i:Int))=jf:=zi;have xG:decide ((65536:Int)<(L i:Int))=jf:=zj;clear hz jU hst xx kh hs Md k9
            go_wp2_with (at_builtin;refine wpList_append_lies _ zg (jk 23) (jk 25) 27 zg w.heap.size 3 i0 (P S 0) 1 8 Tryz.underlying27 hi yJ EW hi2 zg zb (J ao ct b8) ct XS zg (kR.out _) ⟨wr.heap.size, 0, Z⟩ 1 1 [P S (i : Int)] zg zg (World.news_of_block (heap_alloc_new wr _)) (by simp [Value.oneCell']) zb (by unfold maxLen;omega) za zj (wr.heap.size + 1) zi ?_;intro g5 ky w5 jG i7 _ _
                         have yR:=am jG
                         have b5:b7 w w5:=(d8.out.alloc qA _).grown i7 zj (fun q hq=>((kR.out (jh #[] 3)).lt q hq).1)
                         have e1:w5.cell? ⟨g5,0,Z⟩=O (P S (s:Int)):=(by have:=yR.out.cells (g:=g5) rfl 0 _ JQ.out;rw [Addr.add_lit] at this;exact this)
                         have e2:w5.cell? ⟨b,off+s,Z⟩=O (J (A s) (L i) (C s)):=held cs b5
                         have B5:=am b5
                         clear jG i7 b5)
            go_roundw
            case rel=>exact⟨i+1,za,by go_num,⟨_,_,by rw [yQ.out]⟩,by rw [<- o7.out,yQ.out];exact yR.out,B5.out⟩
            case measure=>simp [intOf];omega
        · obtain rfl:i=ll:=za
          have HR:=am (vP em.out)
          have o9:=Ac em.out
          go_wp2
          go_ret2
          refine⟨ao,b8,?_,?_,?_,o9.2,d8.out⟩
          · rw [kN.out];rfl
          · rw [kN.out];exact HR.out
          · rw [kN.out];exact o9.1
  · have zM:((ll:Int) != many)=ja:=by simp [hmany]
    have kN:V (okC ll L many=jf):=by show _=_;unfold okC;rw [zp hmany];rfl
    clear hmany
    go_enter Tryz.func144,Tryz.ntmps144
    go_wp2
    go_ret2
    exact⟨Z,0,by rw [kN.out];rfl,by rw [kN.out];exact mU _ _ _,by rw [kN.out];exact W _,jc _,jb _ _⟩
theorem pP{w:N}{ao:Option je}{n:Nat}{f:Nat->K}(h:Rd w ao n f):Ker.Rd w ao n (fun i=>(f i).n):=⟨fun i=>(f i).lt,h⟩
theorem sF{w:N}{lo:Option je}{ll:Nat}{A:Nat->Option je}{C L:Nat->Nat}{H:M}(h:Lst w lo ll A C L H):Ker.Lst w lo ll A C L (fun i j=>(H i j).n):=⟨fun i hi=>pP (h.rd i hi),h.at_⟩
def lin (k:Nat) (F:Nat->K) (H:M) (b:Nat):K:=sum k (fun j=>K.mul (F j) (H j b))
theorem tg(k:Nat)(F:Nat->K)(H:M)(b:Nat):Ker.tot (fun j=>(F j).n) (fun j b=>(H j b).n) k b=(lin k F H b).n:=by
 induction k with
 | zero=>rfl
 | succ k ih =>
  show Gf.add (Ker.tot _ _ k b) (Gf.mul (F k).n (H k b).n)=_;rw [ih];rfl
theorem CF{w:N}{g n:Nat}{f:Nat->Nat}{h:Nat->K}(ho:Ker.Own w g n f)(hn:n<=maxLen)(e:∀ i,f i=(h i).n):Own w g n n h :=
 ⟨W _,hn,_,ho.2,fun i _=>by rw [e i]⟩
def New (w:N) (n:Nat) (f:Nat->K) (e:Ending) (w':N):Prop :=
  ∃ g,e=.returned (.tuple #[.slice (O ⟨g,0,Z⟩) n n,.int .i64 0])/\w.heap.size<=g/\Own w' g n n f/\b7 w w'
theorem wK{w:N}{ok:Bool}{n:Nat}{f:Nat->Nat}{h:Nat->K}{e:Ending}{w':N}(hm:Ker.Made w ok n f e w')(hok:ok=ja)(h1:1<=n)(h2:n<=65536)(he:∀ i,f i=(h i).n):New w n h e w':=by
 subst hok;obtain⟨ro,rfl,ha,hb⟩:=hm;rcases ha with ⟨_,h0,_⟩ | ⟨g,rfl,hg,ho⟩
 ·exact absurd (show n=0 from h0) za
 ·exact⟨g,rfl,hg,CF ho (by show n<=maxLen;unfold maxLen;omega) he,hb⟩
theorem sT{k n:Nat}{L:Nat->Nat}(hk:k<=16)(hn:n<=65536)(h1:1<=k)(hL:∀ i,i<k->L i=n):Ker.okL k k L=ja/\Ker.n0 k L=n :=
 ⟨zm ⟨hk,rfl,fun i hi=>by rw [hL i hi,hL 0 za];exact⟨hn,rfl⟩⟩,by unfold Ker.n0;rw [zl za];exact hL 0 za⟩
theorem dot_k(w:N)(co lo:Option je)(k cc cl n:Nat)(F:Nat->K)(A:Nat->Option je)(C L:Nat->Nat)(H:M)(kD:1<=k)(hk:k<=16)(A8:1<=n)(hn:n<=65536)(hc:Rd w co k F)(hl:Lst w lo k A C L H)(hL:∀ i,i<k->L i=n):
  jj I 290 #[J co k cc,J lo k cl] w (New w n (lin k F H)):=by
 obtain⟨h1,h2⟩:=sT hk hn kD hL;refine(Ker.dot_any w co lo k cc k cl _ A C L _ za za (pP hc) (sF hl)).mono fun e w' h=>?_;rw [h2] at h;exact wK h h1 A8 hn (tg k F H)
theorem sL(w:N)(co lo:Option je)(k cc cl n:Nat)(F:Nat->K)(A:Nat->Option je)(C L:Nat->Nat)(H:M)(kD:1<=k)(hk:k<=16)(A8:1<=n)(hn:n<=65536)(hc:Rd w co k F)(hl:Lst w lo k A C L H)(hL:∀ i,i<k->L i=n):
  jj I 217 #[J co k cc,J lo k cl] w fun e w'=>∃ g,e=p (J (O ⟨g,0,Z⟩) n n)/\w.heap.size<=g/\Own w' g n n (lin k F H)/\b7 w w':=by
 have HD:=dot_k w co lo k cc cl n F A C L H kD hk A8 hn hc hl hL;clear hc hl hL;go_enter Tryz.func217,Tryz.ntmps217
 go_wp2_with (go_at_call 290;refine HD.mono ?_;rintro e w' ⟨g,rfl,hg,ho,hb⟩)
 go_ret;exact⟨g,rfl,hg,ho,hb⟩
theorem vR:(Tryz.prog.info? 5).map (fun i=>(i.zero,i.size,i.bytes))=O (O (P .u8 0),1,1):=zh
theorem rY(w:N):(w.alloc (jh #[] 5)).ownsRow w.heap.size 5 1 (J (O ⟨w.heap.size,0,Z⟩) 0 0) 0 [] :=
 ⟨rfl,.inr ⟨w.heap.size,0,#[],rfl,W _,heap_alloc_new w _,W _,jc _,rfl,rfl⟩⟩
theorem tV(w:N)(a:je)(l c:Nat):(binOp .eql 36 (J (O a) l c) (J Z 0 0)).run I w=.ok (.bool jf) w:=by
 have h:(Op.equal 36 (J (O a) l c) (J Z 0 0)).run I w=.ok jf w:=run_equalIn_slice_nil w 9999 36 5 (O a) l c Tryz.underlying36;simp only [binOp];simp [h]
theorem tH(w:N)(ao:Option je)(n ca:Nat)(f:Nat->K)(A8:1<=n)(hn:n<=65536)(ha:Rd w ao n f):
  jj I 156 #[J ao n ca] w fun e w'=>∃ g u,e=p (J (O ⟨g,0,Z⟩) n u)/\w.heap.size<=g/\Own w' g n u f/\b7 w w':=by
 obtain⟨b,off,rfl,_⟩:=ha za;obtain⟨i0,hi,hz0,yb,yP⟩:=info_parts vR;have HR:V (Rd (w.alloc (jh #[] 5)) (O ⟨b,off,Z⟩) n f):=ha.below ((jb _ _).alloc (W _) _);obtain⟨XS,kh⟩:=fd (cellsOf n f)
 have HX:=am kh;have V8:XS.length=n*1:=by rw [kh,aD,Nat.mul_one]
 have HN:V (∀ j u,XS[j]? = O u->(w.alloc (jh #[] 5)).cell? ((⟨b,off,Z⟩:je).add j)=O u):=by rw [kh];exact Bu HR.out
 have HO:V (∀ u ∈ XS,u.oneCell'=ja):=by rw [kh];exact gF n f
 have xE:=fun w=>tV w ⟨b,off,Z⟩ n ca;clear ha kh;go_enter Tryz.func156,Tryz.ntmps156
 go_wp2_with (at_builtin;refine wpList_append_own _ zg (jk 5) (jk 6) 36 zg w.heap.size 5 i0 (P .u8 0) 1 1 Tryz.underlying36 hi hz0 yb yP zg zb (J (O ⟨w.heap.size,0,Z⟩) 0 0) 0 [] zg (rY w) ⟨b,off,Z⟩ n ca XS zg V8 HN.out HO.out (by unfold maxLen;omega) za zi ?_;intro v' w' em kw _;obtain⟨g6,jy,rfl⟩:=owns_form em)
 go_ret;rw [Nat.zero_add,List.nil_append,HX.out] at em;rcases em.2 with ⟨_,h0⟩ | ⟨g,b8,jw,e,hg,_⟩
 ·omega
 ·cases e
  exact⟨g,jy,rfl,hg,vG em,((jb _ _).alloc (W _) _).grown kw zi (fun q hq=>by cases hq;exact W _)⟩
def Stay (w w':N):Prop:=∀(x:Nat) (jw:Array jg) (e:TypeId) (f:Nat × Nat),w.heap[x]? = O (.cells jw e f)->w'.heap[x]? = O (.cells jw e f)
theorem Stay.trans{a b c:N}(h:Stay a b)(k:Stay b c):Stay a c:=fun x jw e f hx=>k x jw e f (h x jw e f hx)
theorem lt_of_block{w:N}{x:Nat}{o:Obj}(h:w.heap[x]? = O o):x<w.heap.size:=(Array.getElem?_eq_some_iff.1 h).1
theorem Stay.of_below{w w':N}(h:b7 w w'):Stay w w':=fun x _ _ _ hx=>(h.block x (lt_of_block hx)).trans hx
theorem Kept.stay{w w':N}{b B k r n c0 c1:Nat}(h:Kept w b B k r n c0 c1)(hb:Keeps b (b+1) w w'):Stay w w':=fun x jw e f hx=>by
 have f9:x ≠ b:=by
  rintro rfl;obtain⟨D,⟨es,qz,hm,_⟩,_⟩:=h;rw [hm] at hx;cases hx
 exact(hb.block x (lt_of_block hx) za).trans hx
theorem pN{w:N}{a:je}{v:jg}(h:w.cell? a=O v):∃ jw e f,w.heap[a.block]? = O (jh jw e f):=by
 unfold World.cell? at h;split at h
 ·rename_i jw e f heq
  exact⟨_,_,_,heq⟩
 ·cases h
theorem Stay.cell{w w':N}{a:je}{v:jg}(h:Stay w w')(hc:w.cell? a=O v):w'.cell? a=O v:=by
 obtain⟨jw,e,f,hb⟩:=pN hc;exact(World.cell?_of_block ((h _ _ _ _ hb).trans hb.symm)).trans hc
theorem Rd.stay{w w':N}{ao:Option je}{n:Nat}{f:Nat->K}(h:Rd w ao n f)(hs:Stay w w'):Rd w' ao n f:=fun hn=>by
 obtain⟨b,off,rfl,hc⟩:=h hn;exact⟨b,off,rfl,fun i hi=>hs.cell (hc i hi)⟩
theorem Lst.stay{w w':N}{lo:Option je}{ll:Nat}{A:Nat->Option je}{C L:Nat->Nat}{H:M}(h:Lst w lo ll A C L H)(hs:Stay w w'):Lst w' lo ll A C L H :=
 ⟨fun i hi=>(h.rd i hi).stay hs,fun hp=>by
  obtain⟨b,off,rfl,hc⟩:=h.at_ hp;exact⟨b,off,rfl,fun i hi=>hs.cell (hc i hi)⟩⟩
theorem dK{w w':N}{base e n:Nat}{v:jg}{xs:List jg}(h:w.ownsRow base e 1 v n xs)(hs:Stay w w'):w'.ownsRow base e 1 v n xs:=by
 refine⟨h.1,?_⟩;rcases h.2 with h1 | ⟨g,b8,jw,h1,h2,h3,h4⟩
 ·exact .inl h1
 ·exact .inr ⟨g,b8,jw,h1,h2,hs _ _ _ _ h3,h4⟩
theorem Own.stay{w w':N}{g n u:Nat}{f:Nat->K}(h:Own w g n u f)(hs:Stay w w'):Own w' g n u f:=by
 refine h.of_block ?_;obtain⟨_,_,c,⟨jw,hb,_⟩,_⟩:=h;exact(hs _ _ _ _ hb).trans hb.symm
theorem Copied.stay{w w':N}{B k:Nat}{v:jg}{T:Nat->Option je}{L U:Nat->Nat}{H:M}(h:Copied w B k v T L U H)(hs:Stay w w'):Copied w' B k v T L U H :=
 ⟨dK h.out hs,fun i hi=>dK (h.row i hi) hs,h.apart⟩
theorem Kept.grown{w w':N}{b B k r n c0 c1 base m:Nat}{v:jg}{xs:List jg}(h:Kept w b B k r n c0 c1)(ho:w.ownsRow base 36 1 v m xs)(hg:w.grownBy w' v.ownBlock):Kept w' b B k r n c0 c1:=by
 have key:∀ x,v.ownBlock=O x->∃ jw,w.heap[x]? = O (jh jw 36 (0,0)):=fun x hx=>by
  rcases ho.2 with ⟨rfl,_⟩ | ⟨g,b8,jw,rfl,_,h3,_⟩
  ·cases hx
  ·cases hx;exact⟨jw,h3⟩
 refine h.blocks (hg.block b h.lt fun e=>?_) fun g m f hr=>hg.block g hr.lt fun e=>?_
 ·obtain⟨jw,hc⟩:=key b e.symm;obtain⟨D,⟨es,qz,hm,_⟩,_⟩:=h;rw [hm] at hc;cases hc
 ·obtain⟨jw,hc⟩:=key g e.symm;obtain⟨cs,h1,_⟩:=hr;rw [h1] at hc;cases hc
theorem Keeps.grown2{B T:Nat}{a w w':N}{row:Option Nat}(h:Keeps B T a w)(hg:w.grownBy w' row)(hr:∀ k,row=O k->a.heap.size<=k):Keeps B T a w' :=
 ⟨hg.os.trans h.os,hg.tape.trans h.tape,hg.output.trans h.output,Nat.le_trans h.size hg.size,fun k hk hb=>(hg.block k (Nat.lt_of_lt_of_le hk h.size) fun e=>by have:=hr k e.symm;omega).trans (h.block k hk hb)⟩
theorem Copied.push{w1 w2:N}{B k:Nat}{v v':jg}{T:Nat->Option je}{L U:Nat->Nat}{H:M}{ao:Option je}{l c:Nat}{o:Obj}{f:Nat->K}(h:Copied w1 B k v T L U H)
  (h1:w1.ownsRow B 5 1 (J ao l c) l (cellsOf l f)) (Fa:∀ i a b,i<k->T i=O a->ao=O b->a.block ≠ b.block) (kx:(w1.alloc o).grownBy w2 v.ownBlock) (h2:w2.ownsRow B 36 1 v' (k+1) (rowsOf k T L U ++ [J ao l c])) :
  Copied w2 B (k+1) v' (put k ao T) (put k l L) (put k c U) (put k f H):=by
 refine⟨by rw [dN];exact h2,fun i hi=>?_,fun i j a b hi hj f9 ea eb=>?_⟩
 ·by_cases e:i=k
  ·subst e;rw [put_at,put_at,put_at,put_at];exact(h1.alloc o).kept kx (di h1 h.out)
  ·rw [put_ne _ _ e,put_ne _ _ e,put_ne _ _ e,put_ne _ _ e];have r:=h.row i za;exact(r.alloc o).kept kx (di r h.out)
 ·by_cases e:i=k
  ·subst e;rw [put_at] at ea;rw [put_ne _ _ (Ne.symm f9)] at eb;exact(Fa j b a za eb ea).symm
  ·rw [put_ne _ _ e] at ea;by_cases e':j=k
   ·subst e';rw [put_at] at eb;exact Fa i a b za ea eb
   ·rw [put_ne _ _ e'] at eb;exact h.apart i j a b za za f9 ea eb
theorem Copied.old{w:N}{B k:Nat}{v:jg}{T:Nat->Option je}{L U:Nat->Nat}{H:M}(h:Copied w B k v T L U H){i:Nat}{a:je}(hi:i<k)(e:T i=O a):a.block<w.heap.size:=((h.row i hi).lt a.block (by rw [e];rfl)).2
theorem Copied.start(w:N)(B:Nat)(T:Nat->Option je)(L U:Nat->Nat)(H:M):Copied w B 0 (J Z 0 0) T L U H :=
 ⟨World.ownsRow_nil _ _ _ _,fun i hi=>absurd hi (Nat.not_lt_zero i),fun i _ _ _ hi=>absurd hi (Nat.not_lt_zero i)⟩
theorem info23c:(Tryz.prog.info? 36).map (fun i=>(i.zero,i.size,i.bytes))=O (O (J Z 0 0),1,24):=zh
def par (k:Nat) (D:M):M:=fun i=>enc k D (k+i)
theorem iq(w:N)(b B k r n m:Nat)(lo:Option je)(cl:Nat)(A:Nat->Option je)(C L:Nat->Nat)(D:M)(kD:1<=k)(hk:k<=12)(hr:r<=4)(IZ:1<=m)(hm:m<=65536)(hn:n<=5000)(hB:B<=w.heap.size)
    (jJ:Kept w b B k r n 0 0) (hl:Lst w lo k A C L D) (hL:∀ i,i<k->L i=m) :
    jj I 145 #[.map (O b),P S (k:Int),P S (r:Int),J lo k cl] w fun e w'=>∃ ao b8 T U,e=p (J ao r b8)/\Copied w' w.heap.size r (J ao r b8) T (fun _=>m) U (par k D)/\Kept w' b B k r (n+12*r) 0 0/\Keeps b (b+1) w w':=by
  obtain⟨j0,hj,kE,kB,kt⟩:=info_parts info23c
  have HK:=am jJ
  have HL:=am hl
  have EB:=am hL
  clear jJ hl hL
  go_enter Tryz.func145,Tryz.ntmps145
  go_wp2
  go_loopw [9,12] (fun v x wr=>∃ j:Nat,j<=r/\x=P S j/\(∃ ao b8,v=J ao j b8)/\V (∃ T U,Copied wr w.heap.size j v T (fun _=>m) U (par k D))/\V (Kept wr b B k r (n+12*j) 0 0)/\V (Keeps b (b+1) w wr)) (fun _ x _=>r-(intOf x).toNat)
  case atStart=>exact⟨0,jc _,rfl,⟨Z,0,rfl⟩,⟨fun _=>Z,fun _=>0,Copied.start _ _ _ _ _ _⟩,HK.out,Keeps.refl _ _ _⟩
  case round =>
    obtain⟨j,V9,rfl,⟨ao,b8,rfl⟩,jY,jJ,i8⟩:=hrel
    by_cases hlt:j<r
    · obtain⟨T,U,o9⟩:=jY.out
      have EC:=am o9
      have qA:=i8.out.size
      have HR:=td wr b B k r (n+12*j) (k+j) kD hk hr za za za jJ.out
      unfold key at HR
      rw [Int.natCast_add] at HR
      have Fj:=am HR
      obtain⟨XS,kh⟩:∃ X,X=rowsOf j T (fun _=>m) U:=⟨_,rfl⟩
      have o7:=am (kh.symm)
      have D1:=am (HK.out.stay i8.out)
      clear jY o9 kh HR
      go_wp2_with (first
        | (go_at_call 218;refine Fj.out.mono ?_;rintro e w1 ⟨g, u, rfl, hg, ho, xS, zO⟩
           have S1:=am (jJ.out.stay zO)
           have HS:=sL w1 (O ⟨g,0,Z⟩) lo k u cl m (gen k (k+j)) A C L D kD za IZ hm ho.rd (HL.out.stay (D1.out.trans S1.out)) EB.out
           have zA:=am HS
           have E7:=am xS
           have GA:=am zO
           clear hg ho xS zO HS Fj)
        | (go_at_call 217;refine zA.out.mono ?_;rintro e w2 ⟨g2, rfl, kx, kS, jP⟩
           have kH:=am kS
           have jv:=am jP
           have zQ:=am (EC.out.stay (S1.out.trans (Stay.of_below jP)))
           have ye:V (w2.ownsRow w.heap.size 36 1 (J ao j b8) j XS):=(by rw [<- o7.out];exact zQ.out.out)
           have hs2:w.heap.size<=w2.heap.size:=Nat.le_trans qA (Nat.le_trans GA.out.size jP.size)
           clear kS jP zA)
        | (at_builtin;refine wpList_append_lies _ zg (jk 15) (jk 26) 33 zg w.heap.size 36 j0 (J Z 0 0) 1 24 Tryz.underlying33 hj kE kB kt zg zb (J ao j b8) j XS zg (ye.out.alloc _) ⟨w2.heap.size,0,Z⟩ 1 1 [J (O ⟨g2,0,Z⟩) m m] zg zg (World.news_of_block (heap_alloc_new w2 _)) (by simp [Value.oneCell']) zb (by unfold maxLen;omega) za zj (w2.heap.size+1) zi ?_;intro g3 m7 w3 ka jC _ _))
      have yg:V (∃ T U,Copied w3 w.heap.size (j+1) (J (O ⟨g3,0,Z⟩) (j+1) m7) T (fun _=>m) U (par k D)):=by
        have xW:w.heap.size<=w1.heap.size:=Nat.le_trans qA GA.out.size
        have hp:=zQ.out.push (cy (ep kH.out) za) (fun i a b hi ea eb=>by
          have:=(EC.out.stay S1.out).old hi ea
          cases eb
          show a.block ≠ g2
          omega) jC (by rw [o7.out];exact ka)
        exact⟨_,_,hp.congr (fun _ _=>rfl) (fun i _=>bG j i (fun _=>m)) (fun _ _=>rfl) (fun i _=>bG j i (par k D))⟩
      have JM:V (Kept w3 b B k r (n+12*(j+1)) 0 0):=(((E7.out.below jv.out).below ((jb _ _).alloc (W _) _)).grown (ye.out.alloc _) jC).mono za
      have Me:V (Keeps b (b+1) w w3):=(((i8.out.trans GA.out).trans (Keeps.of_below jv.out)).alloc _).grown2 jC (fun q hq=>(ye.out.lt q hq).1)
      clear ka jC
      go_roundw
      case rel=>exact⟨j+1,za,by go_num,⟨_,_,rfl⟩,yg,JM,Me⟩
      case measure=>simp [intOf];omega
    · obtain rfl:j=r:=za
      go_wp2
      go_ret
      obtain⟨T,U,o9⟩:=jY.out
      exact⟨ao,b8,T,U,rfl,o9,jJ.out,i8.out⟩
structure PickR (w:World) (B k t:Nat) (v:Value) (G U R:Nat->Nat):Prop where
  rows:w.ownsRow B 36 1 v t (rowsOf t (fun s=>some ⟨G s,0,none⟩) (fun _=>k) U)
  row:∀ s,s<t->Own w (G s) k (U s) (gen k (R s))
theorem PickR.stay{w w':N}{B k t:Nat}{v:jg}{G U R:Nat->Nat}(h:PickR w B k t v G U R)(hs:Stay w w'):PickR w' B k t v G U R :=
 ⟨dK h.rows hs,fun s PQ=>(h.row s PQ).stay hs⟩
theorem PickR.start(w:N)(B k:Nat)(R:Nat->Nat):PickR w B k 0 (J Z 0 0) (fun _=>0) (fun _=>0) R :=
 ⟨World.ownsRow_nil _ _ _ _,fun s hs=>absurd hs (Nat.not_lt_zero s)⟩
theorem nH{v u:jg}(h:∀ g,v.ownBlock=O g->u.ownBlock ≠ O g):u.ownBlock=Z\/u.ownBlock ≠ v.ownBlock:=by
 cases e:u.ownBlock with
 | none=>exact .inl rfl
 | some g =>
  right
  intro e';exact h g e'.symm e
theorem Own.grown{w w':N}{g n u base m:Nat}{f:Nat->K}{v:jg}{xs:List jg}(h:Own w g n u f)(ho:w.ownsRow base 36 1 v m xs)(hg:w.grownBy w' v.ownBlock):Own w' g n u f :=
 h.of_block (hg.block g h.lt fun e=>wJ ho h e.symm)
theorem Own.alloc{w:N}{g n u:Nat}{f:Nat->K}(h:Own w g n u f)(o:Obj):Own (w.alloc o) g n u f:=h.below ((jb _ _).alloc (W _) _)
theorem PickR.step{w1 w2:N}{B k t g1 c1 gr ur:Nat}{v:jg}{G U R:Nat->Nat}{o:Obj}(h:PickR w1 B k t v G U R)(hr:Own w1 gr k ur (gen k (R t)))
  (kU:(w1.alloc o).grownBy w2 v.ownBlock) (h1:w2.ownsRow B 36 1 (J (O ⟨g1,0,Z⟩) (t+1) c1) (t+1) (rowsOf t (fun s=>O ⟨G s,0,Z⟩) (fun _=>k) U ++ [J (O ⟨gr,0,Z⟩) k ur])) :
  PickR w2 B k (t+1) (J (O ⟨g1,0,Z⟩) (t+1) c1) (put t gr G) (put t ur U) R:=by
 refine⟨?_,fun s hs=>?_⟩
 ·refine(congrArg (w2.ownsRow B 36 1 (J (O ⟨g1,0,Z⟩) (t+1) c1) (t+1)) ?_).mp h1;have:=dN t (fun s=>O ⟨G s,0,Z⟩) (fun _=>k) U (O ⟨gr,0,Z⟩) k ur;rw [<- this];refine List.map_congr_left fun i _=>?_;by_cases e:i=t
  ·subst e;simp only [put_at]
  ·simp only [put_ne _ _ e]
 ·have old:∀ g u' f,Own w1 g k u' f->Own w2 g k u' f:=fun g u' f ho=>(ho.alloc o).grown (h.rows.alloc o) kU;by_cases e:s=t
  ·subst e;rw [put_at,put_at];exact old _ _ _ hr
  ·rw [put_ne _ _ e,put_ne _ _ e];exact old _ _ _ (h.row s za)
theorem PickR.lst{w:N}{B k t c1:Nat}{a1:Option je}{G U R:Nat->Nat}(h:PickR w B k t (J a1 t c1) G U R):Lst w a1 t (fun s=>O ⟨G s,0,Z⟩) U (fun _=>k) (bN k R) :=
 ⟨fun s hs=>(h.row s hs).rd,fun hp=>by
  rcases h.rows.2 with ⟨_,h1⟩ | ⟨g,jy,jw,h1,_⟩
  ·omega
  ·cases h1
   refine⟨g,0,rfl,fun i hi=>?_⟩;have:=h.rows.cells (g:=g) rfl i _ (rowsOf_get t _ _ _ i hi)
   rwa [Addr.add_lit] at this⟩
theorem tI{w:N}{B m t c2:Nat}{a2:Option je}{A:Nat->Option je}{C R:Nat->Nat}{H:M}(h:w.ownsRow B 36 1 (J a2 t c2) t (rowsOf t (fun s=>A (R s)) (fun _=>m) (fun s=>C (R s))))(hr:∀ s,s<t->Rd w (A (R s)) m (H (R s))):Lst w a2 t (fun s=>A (R s)) (fun s=>C (R s)) (fun _=>m) (fun s=>H (R s)) :=
 ⟨hr,fun hp=>by
  rcases h.2 with ⟨_,h1⟩ | ⟨g,jy,jw,h1,_⟩
  ·omega
  ·cases h1
   refine⟨g,0,rfl,fun i hi=>?_⟩;have:=h.cells (g:=g) rfl i _ (rowsOf_get t _ _ _ i hi)
   rwa [Addr.add_lit] at this⟩
theorem Sel.low{L:Nat->Nat}{n c:Nat}{R:Nat->Nat}(h:Sel L n c R){k:Nat}(hk:k<=c)(hr:R (k-1)<k){i:Nat}(hi:i<k):L i ≠ 0:=by
 have h1:∀ j,j<k->R (k-1-j)+j<k:=by
  intro j;induction j with
  | zero=>intro _;simpa using hr
  | succ j ih =>
   intro hj;have h2:=ih za;have h3:=h.rise (k-1-(j+1)) (k-1-j) za za;omega
 have h2:=h1 (k-1-i) za;have e:k-1-(k-1-i)=i:=za;rw [e] at h2;have h3:=h.ge i za;have h4:=h.there i za;have e2:R i=i:=za;rwa [e2] at h4
theorem Copied.base{w:N}{B B' k:Nat}{v:jg}{T:Nat->Option je}{L U:Nat->Nat}{H:M}(h:Copied w B k v T L U H)(hb:B'<=B):Copied w B' k v T L U H :=
 ⟨cy h.out hb,fun i hi=>cy (h.row i hi) hb,h.apart⟩
theorem Ad(w:N)(b B k r n c cc:Nat)(co:Option je)(L R:Nat->Nat)(kD:1<=k)(hk:k<=12)(hr:r<=4)(hn:n<=5000)(hB:B<=w.heap.size)
    (jJ:Kept w b B k r n 0 0) (GB:Sel L (k+r) c R) (hc:k<=c) (Iv:RdI w co k (fun t=>(R t:Int))) :
    jj I 283 #[.map (O b),P S (k:Int),P S (r:Int),J co k cc] w fun e w'=>Kept w' b B k r (n+12*k) 0 0/\Keeps b (b+1) w w'/\((R (k-1)<k/\e=p (J Z 0 0))\/∃ lb cb Gb Ub,e=p (J (O ⟨lb,0,Z⟩) k cb)/\∃ B0,Mat w' B0 w'.heap.size lb cb k k Gb Ub (bX k (bN k R))):=by
  obtain⟨j0,hj,kE,kB,kt⟩:=info_parts info23c
  have HK:=am jJ
  have kQ:=am GB
  obtain⟨bc,oc,rfl,jI⟩:=Iv za
  have yI:=am jI
  have dl:w.cell? ⟨bc,oc+(k-1),Z⟩=O (P S (R (k-1):Int)):=jI (k-1) za
  have i1:(0:Int)<=(k:Int)-1:=za;have i2:(k:Int)-1<(k:Int):=za;have iw:wrap64 ((k:Int)-1)=(k:Int)-1:=by unfold wrap64;omega
  obtain⟨z,hz⟩:=fd (R (k-1))
  have HZ:=am hz
  rw [<- hz] at dl
  clear jJ GB Iv jI hz
  by_cases hzk:z<k
  · have iz:(z:Int)<(k:Int):=za
    go_enter Tryz.func283,Tryz.ntmps283
    go_wp2
    go_ret
    exact⟨HK.out.mono za,Keeps.refl _ _ _,.inl ⟨by rw [<- HZ.out];exact hzk,rfl⟩⟩
  have iz:¬ (z:Int)<(k:Int):=za;go_enter Tryz.func283,Tryz.ntmps283
  go_wp2
  go_loopw [9,23] (fun v x wr=>∃ t:Nat,t<=k/\x=P S t/\(∃ a1 c1,v=J a1 t c1)/\V (∃ G U,PickR wr w.heap.size k t v G U R)/\V (Kept wr b B k r (n+12*t) 0 0)/\V (Keeps b (b+1) w wr)) (fun _ x _=>k-(intOf x).toNat)
  case atStart=>exact⟨0,jc _,rfl,⟨Z,0,rfl⟩,⟨_,_,PickR.start _ _ _ _⟩,HK.out,Keeps.refl _ _ _⟩
  case round =>
    obtain⟨t,KU,rfl,⟨a1,c1,rfl⟩,kG,jJ,i8⟩:=hrel
    by_cases hlt:t<k
    · obtain⟨G,U,hp⟩:=kG.out
      have HP:=am hp
      have qA:=i8.out.size
      obtain⟨q,hq⟩:=fd (R t)
      have EV:q<k+r:=by rw [hq];exact kQ.out.lt t za
      have S0:=am (HK.out.stay i8.out)
      have d1:wr.cell? ⟨bc,oc+t,Z⟩=O (P S (q:Int)):=by rw [hq];exact S0.out.cell (yI.out t hlt)
      have HQ:=am hq
      have HR:=td wr b B k r (n+12*t) q kD hk hr EV za za jJ.out
      unfold key at HR
      have Fj:=am HR
      obtain⟨XS,kh⟩:∃ X,X=rowsOf t (fun s=>O ⟨G s,0,Z⟩) (fun _=>k) U:=⟨_,rfl⟩
      have o7:=am (kh.symm)
      have i3:(0:Int)<=(t:Int):=za;have i4:(t:Int)<(k:Int):=za;clear kG hp kh HR hq dl i1 i2 iw iz
      go_wp2_with (first
        | (go_at_call 218;refine Fj.out.mono ?_;rintro e w1 ⟨g, u, rfl, hg, ho, xS, zO⟩
           have S1:=am (jJ.out.stay zO)
           have kp:=am (HP.out.stay S1.out)
           have qi:V (Own w1 g k u (gen k (R t))):=(by rw [<- HQ.out];exact ho)
           have E7:=am xS
           have GA:=am (i8.out.trans zO)
           have ye:V (w1.ownsRow w.heap.size 36 1 (J a1 t c1) t XS):=(by rw [<- o7.out];exact kp.out.rows)
           have xW:w.heap.size<=w1.heap.size:=Nat.le_trans qA zO.size
           clear hg ho xS zO Fj)
        | (at_builtin;refine wpList_append_lies _ zg (jk 27) (jk 34) 33 zg w.heap.size 36 j0 (J Z 0 0) 1 24 Tryz.underlying33 hj kE kB kt zg zb (J a1 t c1) t XS zg (ye.out.alloc _) ⟨w1.heap.size,0,Z⟩ 1 1 [J (O ⟨g,0,Z⟩) k u] zg zg (World.news_of_block (heap_alloc_new w1 _)) (by simp [Value.oneCell']) zb (by unfold maxLen;omega) za zj (w1.heap.size+1) zi ?_;intro g2 jK w2 jF jH _ _))
      have ES:V (∃ G U,PickR w2 w.heap.size k (t+1) (J (O ⟨g2,0,Z⟩) (t+1) jK) G U R) :=
        ⟨_,_,kp.out.step qi.out jH (by rw [o7.out];exact jF)⟩
      have JM:V (Kept w2 b B k r (n+12*(t+1)) 0 0):=((E7.out.below ((jb _ _).alloc (W _) _)).grown (ye.out.alloc _) jH).mono za
      have Me:V (Keeps b (b+1) w w2):=(GA.out.alloc _).grown2 jH (fun q hq=>(ye.out.lt q hq).1)
      clear jF jH
      go_roundw
      case rel=>exact⟨t+1,za,by go_num,⟨_,_,rfl⟩,ES,JM,Me⟩
      case measure=>simp [intOf];omega
    · obtain rfl:t=k:=za
      obtain⟨G,U,hp⟩:=kG.out
      have HI:=nI wr a1 t c1 _ _ _ _ hp.lst
      rw [oM kD za (iF hk (show t+r<=16 by omega) (fun s hs=>kQ.out.lt s za) (fun s s' h1 h2=>kQ.out.rise s s' h1 za))] at HI
      have Mg:=am HI
      clear kG hp HI dl i1 i2 iw iz
      go_wp2_with fail
      refine Mg.out.mono ?_
      intro e wi hh
      obtain⟨lb,cb,Gb,Ub,rfl,Jz,GC⟩:=mA hh za
      have JR:=am Jz
      have PR:=am (jJ.out.below GC)
      have Mh:=am (i8.out.trans (Keeps.of_below GC))
      clear hh Jz GC jJ i8 Mg
      go_wp2_with fail
      go_ret
      exact⟨PR.out,Mh.out,.inr ⟨lb,cb,Gb,Ub,rfl,_,JR.out⟩⟩
theorem vD(w:N)(b B k r n m c cc:Nat)(lo co:Option je)(cl:Nat)(A:Nat->Option je)(C L:Nat->Nat)(H:M)(R:Nat->Nat)(kD:1<=k)(hk:k<=12)(hr:r<=4)(IZ:1<=m)(hm:m<=65536)(hn:n<=5000)(hB:B<=w.heap.size)
    (jJ:Kept w b B k r n 0 0) (hl:Lst w lo (k+r) A C L H) (hL:∀ i,i<k+r->L i=0\/L i=m) (GB:Sel L (k+r) c R) (hc:k<=c) (Iv:RdI w co k (fun t=>(R t:Int))) :
    jj I 210 #[.map (O b),P S (k:Int),P S (r:Int),J lo (k+r) cl,J co k cc] w fun e w'=>∃ ao b8 T U,e=p (J ao k b8)/\Copied w' w.heap.size k (J ao k b8) T (fun _=>m) U (dec k R H)/\Kept w' b B k r (n+12*k) 0 0/\Keeps b (b+1) w w':=by
  obtain⟨j0,hj,kE,kB,kt⟩:=info_parts info23c
  have HK:=am jJ
  have HL:=am hl
  have EB:=am hL
  have kQ:=am GB
  have PS:=am Iv
  obtain⟨bl,ol,rfl,jU⟩:=hl.at_ za
  have B6:=am jU
  obtain⟨bc,oc,rfl,jI⟩:=Iv za
  have yI:=am jI
  clear jJ hl hL GB Iv jU jI
  go_enter Tryz.func210,Tryz.ntmps210
  go_wp2
  go_loopw [11,19] (fun u x wr=>∃ t:Nat,t<=k/\x=P S t/\(∃ a2 c2,u=J a2 t c2)/\V (wr.ownsRow w.heap.size 36 1 u t (rowsOf t (fun s=>A (R s)) (fun _=>m) (fun s=>C (R s))))/\V (b7 w wr)) (fun _ x _=>k-(intOf x).toNat)
  case atStart=>exact⟨0,jc _,rfl,⟨Z,0,rfl⟩,World.ownsRow_nil _ _ _ _,jb _ _⟩
  case round =>
    obtain⟨t,KU,rfl,⟨a2,c2,rfl⟩,kG,i8⟩:=hrel
    by_cases hlt:t<k
    · have qA:=i8.out.size
      obtain⟨q,hq⟩:=fd (R t)
      have EV:q<k+r:=by rw [hq];exact kQ.out.lt t za
      have SE:L q=m:=by
        rcases EB.out q EV with e | e
        · exact absurd e (by rw [hq];exact kQ.out.there t za)
        · exact e
      have d1:wr.cell? ⟨bc,oc+t,Z⟩=O (P S (q:Int)):=by rw [hq];exact held (yI.out t hlt) i8.out
      have dq:wr.cell? ⟨bl,ol+q,Z⟩=O (J (A q) m (C q)):=by have:=held (B6.out q EV) i8.out;rwa [SE] at this
      have HQ:=am hq
      obtain⟨YS,KV⟩:∃ Y,Y=rowsOf t (fun s=>A (R s)) (fun _=>m) (fun s=>C (R s)):=⟨_,rfl⟩
      have N5:=am (KV.symm)
      have zR:V (wr.ownsRow w.heap.size 36 1 (J a2 t c2) t YS):=(by rw [KV];exact kG.out)
      have i1:(0:Int)<=(t:Int):=za;have i2:(t:Int)<(k:Int):=za;have i3:(0:Int)<=(q:Int):=za;have i4:(q:Int)<(k:Int)+(r:Int):=za;clear kG KV hq SE
      go_wp2_with (at_builtin;refine wpList_append_lies _ zg (jk 23) (jk 28) 33 zg w.heap.size 36 j0 (J Z 0 0) 1 24 Tryz.underlying33 hj kE kB kt zg zb (J a2 t c2) t YS zg (zR.out.alloc _) ⟨wr.heap.size,0,Z⟩ 1 1 [J (A q) m (C q)] zg zg (World.news_of_block (heap_alloc_new wr _)) (by simp [Value.oneCell']) zb (by unfold maxLen;omega) za zj (wr.heap.size+1) zi ?_;intro g3 m7 w3 ka jC _ _)
      have ES:V (w3.ownsRow w.heap.size 36 1 (J (O ⟨g3,0,Z⟩) (t+1) m7) (t+1) (rowsOf (t+1) (fun s=>A (R s)) (fun _=>m) (fun s=>C (R s)))):=by
        show w3.ownsRow _ _ _ _ _ _
        have h3:=ka
        rw [<- N5.out,HQ.out] at h3
        refine(congrArg (w3.ownsRow w.heap.size 36 1 (J (O ⟨g3,0,Z⟩) (t+1) m7) (t+1)) ?_).mp h3
        simp [rowsOf,List.range_succ]
      have Me:V (b7 w w3):=(i8.out.alloc qA _).grown jC zj (fun q hq=>(zR.out.lt q hq).1)
      clear ka jC
      go_roundw
      case rel=>exact⟨t+1,za,by go_num,⟨_,_,rfl⟩,ES,Me⟩
      case measure=>simp [intOf];omega
    · obtain rfl:t=k:=za
      have S0:=am (Stay.of_below i8.out)
      have PW:=am (HK.out.below i8.out)
      have HF:V (Lst wr a2 t (fun s=>A (R s)) (fun s=>C (R s)) (fun _=>m) (fun s=>H (R s))):=tI kG.out fun s hs=>by
        have EV:=kQ.out.lt s za
        have:=(HL.out.rd (R s) EV).stay S0.out
        rcases EB.out (R s) EV with e | e
        · exact absurd e (kQ.out.there s za)
        · rwa [e] at this
      have Mi:=i8.out.size
      have SF:=am (i8.out)
      have qE:=Ad wr b B t r n c cc (O ⟨bc,oc,Z⟩) L R kD hk hr hn za PW.out kQ.out hc (fun hp=>⟨bc,oc,rfl,fun i hi=>held (yI.out i hi) i8.out⟩)
      have io:=am qE
      obtain⟨wm,rfl⟩:∃ x,x=wr:=⟨wr,rfl⟩
      clear kG i8 qE
      go_wp2_with fail
      refine io.out.mono ?_
      rintro e wi ⟨SG,PY,xX⟩
      have Wa:=am (PW.out.stay PY)
      have zu:=am (HF.out.stay Wa.out)
      have PR:=am SG
      have Mh:V (Keeps b (b+1) w wi):=(Keeps.of_below SF.out).trans PY
      have Wb:=am (HK.out.stay Mh.out)
      have Wc:w.heap.size<=wi.heap.size:=Mh.out.size
      obtain⟨vb,rfl,Wd⟩:∃ vb,e=p vb/\V ((R (t-1)<t/\vb=J Z 0 0)\/∃ lb cb Gb Ub,vb=J (O ⟨lb,0,Z⟩) t cb/\∃ B0,Mat wi B0 wi.heap.size lb cb t t Gb Ub (bX t (bN t R))):=by
        rcases xX with ⟨h1,rfl⟩ | ⟨lb,cb,Gb,Ub,rfl,B0,yv⟩
        · exact⟨_,rfl,.inl ⟨h1,rfl⟩⟩
        · exact⟨_,rfl,.inr ⟨lb,cb,Gb,Ub,rfl,B0,yv⟩⟩
      clear SG PY xX S0 HF io PW SF
      go_wp2_with fail
      go_loopw [12,37] (fun v x wr=>∃ i:Nat,i<=t/\x=P S i/\(∃ ao b8,v=J ao i b8)/\V (∃ T U,Copied wr wi.heap.size i v T (fun _=>m) U (dec t R H))/\V (b7 wi wr)) (fun _ x _=>t-(intOf x).toNat)
      case atStart=>exact⟨0,jc _,rfl,⟨Z,0,rfl⟩,⟨fun _=>Z,fun _=>0,Copied.start _ _ _ _ _ _⟩,jb _ _⟩
      case round =>
        obtain⟨i,Jm,rfl,⟨ao,b8,rfl⟩,jY,d8⟩:=hrel
        by_cases hlt:i<t
        · obtain⟨T,U',o9⟩:=jY.out
          have EC:=am o9
          have jB:=d8.out.size
          obtain⟨XS,kh⟩:∃ X,X=rowsOf i T (fun _=>m) U':=⟨_,rfl⟩
          have o7:=am (kh.symm)
          have D1:=am (Wb.out.trans (Stay.of_below d8.out))
          have d1:=D1.out.cell (B6.out i za)
          have i1:(0:Int)<=(i:Int):=za;have i2:(i:Int)<(t:Int)+(r:Int):=za;have i3:(i:Int)<(t:Int):=za;clear jY o9 kh
          rcases EB.out i za with hz | hz
          · obtain⟨lb,cb,Gb,Ub,rfl,B0,yv⟩:∃ lb cb Gb Ub,vb=J (O ⟨lb,0,Z⟩) t cb/\∃ B0,Mat wi B0 wi.heap.size lb cb t t Gb Ub (bX t (bN t R)):=by
              rcases Wd.out with ⟨h1,_⟩ | h1
              · exact absurd hz (kQ.out.low hc h1 hlt)
              · exact h1
            have JR:=am yv
            clear yv
            rw [hz] at d1
            have d2:=held (JR.out.cell_l hlt) d8.out
            have HS:=sL wr (O ⟨Gb i,0,Z⟩) a2 t (Ub i) c2 m (bX t (bN t R) i) _ _ _ _ kD za IZ hm ((JR.out.row i hlt).below d8.out).rd (zu.out.below d8.out) (fun _ _=>rfl)
            have zA:=am HS
            clear hz HS
            go_wp2_with (first
              | (go_at_call 217;refine zA.out.mono ?_;rintro e w2 ⟨g2, rfl, kx, kS, jP⟩
                 have kH:=am kS
                 have jv:=am jP
                 have zQ:=am (EC.out.stay (Stay.of_below jP))
                 have ye:V (w2.ownsRow wi.heap.size 36 1 (J ao i b8) i XS):=(by rw [<- o7.out];exact zQ.out.out)
                 have hs2:wi.heap.size<=w2.heap.size:=Nat.le_trans jB jP.size
                 clear kS jP zA)
              | (at_builtin;refine wpList_append_lies _ zg (jk 54) (jk 61) 33 zg wi.heap.size 36 j0 (J Z 0 0) 1 24 Tryz.underlying33 hj kE kB kt zg zb (J ao i b8) i XS zg (ye.out.alloc _) ⟨w2.heap.size,0,Z⟩ 1 1 [J (O ⟨g2,0,Z⟩) m m] zg zg (World.news_of_block (heap_alloc_new w2 _)) (by simp [Value.oneCell']) zb (by unfold maxLen;omega) za zj (w2.heap.size+1) zi ?_;intro g3 m7 w3 ka jC _ _))
            have yg:V (∃ T U,Copied w3 wi.heap.size (i+1) (J (O ⟨g3,0,Z⟩) (i+1) m7) T (fun _=>m) U (dec t R H)):=by
              have hp:=zQ.out.push (cy (ep kH.out) za) (fun x a b hx ea eb=>by
                have:=EC.out.old hx ea
                cases eb
                show a.block ≠ g2
                omega) jC (by rw [o7.out];exact ka)
              exact⟨_,_,hp.congr (fun _ _=>rfl) (fun x _=>bG i x (fun _=>m)) (fun _ _=>rfl) (fun x _=>bG i x (dec t R H))⟩
            have m9:V (b7 wi w3):=((ag d8.out jv.out jB).alloc hs2 _).grown jC zj (fun q hq=>(ye.out.lt q hq).1)
            clear ka jC
            go_roundw
            case rel=>exact⟨i+1,za,by go_num,⟨_,_,rfl⟩,yg,m9⟩
            case measure=>simp [intOf];omega
          · rw [hz] at d1
            have KW:(0:Int)<(m:Int):=za;have Hd:=tH wr (A i) m (C i) (H i) IZ hm (by have:=(HL.out.rd i za).stay D1.out;rwa [hz] at this)
            have HD:V (H i=dec t R H i):=by
              show _=_
              obtain⟨s,hs,We⟩:=kQ.out.all i za za
              have hst:=kQ.out.ge s hs
              funext y
              rw [<- We]
              exact(uR H hk (show t+r<=16 by omega) (fun s hs=>kQ.out.lt s za) (fun s s' h1 h2=>kQ.out.rise s s' h1 za) s y za za).symm
            have Mj:=am Hd
            clear hz Hd
            go_wp2_with (first
              | (go_at_call 156;refine Mj.out.mono ?_;rintro e w2 ⟨g2, u2, rfl, kx, kS, jP⟩
                 have kH:V (Own w2 g2 m u2 (dec t R H i)):=(by rw [<- HD.out];exact kS)
                 have jv:=am jP
                 have zQ:=am (EC.out.stay (Stay.of_below jP))
                 have ye:V (w2.ownsRow wi.heap.size 36 1 (J ao i b8) i XS):=(by rw [<- o7.out];exact zQ.out.out)
                 have hs2:wi.heap.size<=w2.heap.size:=Nat.le_trans jB jP.size
                 clear kS jP Mj)
              | (at_builtin;refine wpList_append_lies _ zg (jk 46) (jk 52) 33 zg wi.heap.size 36 j0 (J Z 0 0) 1 24 Tryz.underlying33 hj kE kB kt zg zb (J ao i b8) i XS zg (ye.out.alloc _) ⟨w2.heap.size,0,Z⟩ 1 1 [J (O ⟨g2,0,Z⟩) m u2] zg zg (World.news_of_block (heap_alloc_new w2 _)) (by simp [Value.oneCell']) zb (by unfold maxLen;omega) za zj (w2.heap.size+1) zi ?_;intro g3 m7 w3 ka jC _ _))
            have yg:V (∃ T U,Copied w3 wi.heap.size (i+1) (J (O ⟨g3,0,Z⟩) (i+1) m7) T (fun _=>m) U (dec t R H)):=by
              have hp:=zQ.out.push (cy (ep kH.out) za) (fun x a b hx ea eb=>by
                have:=EC.out.old hx ea
                cases eb
                show a.block ≠ g2
                omega) jC (by rw [o7.out];exact ka)
              exact⟨_,_,hp.congr (fun _ _=>rfl) (fun x _=>bG i x (fun _=>m)) (fun _ _=>rfl) (fun x _=>bG i x (dec t R H))⟩
            have m9:V (b7 wi w3):=((ag d8.out jv.out jB).alloc hs2 _).grown jC zj (fun q hq=>(ye.out.lt q hq).1)
            clear ka jC
            go_roundw
            case rel=>exact⟨i+1,za,by go_num,⟨_,_,rfl⟩,yg,m9⟩
            case measure=>simp [intOf];omega
        · obtain rfl:i=t:=za
          obtain⟨T,U',o9⟩:=jY.out
          have HQ:=am (o9.base Wc)
          clear jY o9
          go_wp2_with fail
          go_ret
          exact⟨ao,b8,T,U',rfl,HQ.out,PR.out.below d8.out,Mh.out.trans (Keeps.of_below d8.out)⟩
theorem Kept.made(w:N)(k r:Nat):Kept (w.alloc (.map #[] 0)) w.heap.size w.heap.size k r 0 0 0 :=
 ⟨.map [],World.ownsMap_made w I 269 elem,(fun c _ h=>by cases h),fun c _ h=>absurd h (Nat.not_lt_zero c)⟩
theorem me{w w':N}(h:Keeps w.heap.size (w.heap.size+1) (w.alloc (.map #[] 0)) w'):b7 w w' :=
 ((jb _ _).alloc (W _) _).trans (h.below zi (W _))
def Out (w:N) (ok:Bool) (err:Int) (n m:Nat) (H:M) (e:Ending) (w':N):Prop :=
  ∃ ao b8 T U,e=.returned (.tuple #[.slice ao (dS ok n) b8,.int .i64 err])/\Copied w' w.heap.size (dS ok n) (.slice ao (dS ok n) b8) T (fun _=>m) U H/\b7 w w'
theorem Out.no{w w':N}{err:Int}{n m:Nat}{H:M}(hb:b7 w w'):Out w jf err n m H (p (jm #[J Z 0 0,P S err])) w' :=
 ⟨Z,0,fun _=>Z,fun _=>0,rfl,Copied.start _ _ _ _ _ _,hb⟩
def okEnc (ll:Nat) (L:Nat->Nat) (k r:Int):Bool:=mayB k r && (okC ll L k && decide (k<=(cnt L ll:Int)))
def errE (may ok:Bool):Int:=if may then (if ok then 0 else 40) else 2
theorem ey{ll:Nat}{L:Nat->Nat}{many:Int}(h:okC ll L many=ja):(ll:Int)=many/\okT L ll=ja:=by
 unfold okC at h;rw [Bool.and_eq_true,decide_eq_true_eq] at h;exact h
theorem fO{ll:Nat}{L:Nat->Nat}(h:okT L ll=ja)(hc:1<=cnt L ll):1<=len0 L ll/\len0 L ll<=65536/\∀ i,i<ll->L i=0\/L i=len0 L ll:=by
 rcases len0_sel L ll with ⟨h1,_⟩ | ⟨h1,h2,h3⟩
 ·omega
 ·have hs:=(sel_is L ll).lt 0 h1;refine⟨za,?_,fun i hi=>?_⟩
  ·rcases my h _ hs with g | g
   ·exact absurd g ((sel_is L ll).there 0 h1)
   ·rw [h2];exact g.1
  ·rcases my h i hi with g | g
   ·exact .inl g
   ·exact .inr g.2
theorem lV{L:Nat->Nat}{n:Nat}(h:n<=cnt L n)(i:Nat)(hi:i<n):L i ≠ 0:=fun e=>by have:=rB hi e;omega
theorem Encode_any(w:N)(k r:Int)(lo:Option je)(ll cl:Nat)(A:Nat->Option je)(C L:Nat->Nat)(H:M)(hl:Lst w lo ll A C L H):
    jj I 81 #[P S k,P S r,J lo ll cl] w (Out w (okEnc ll L k r) (errE (mayB k r) (okEnc ll L k r)) r.toNat (len0 L ll) (par k.toNat H)):=by
  have HM:=sr w k r
  cases hmay:mayB k r
  · rw [show okEnc ll L k r=jf by unfold okEnc;rw [hmay];rfl]
    rw [hmay] at HM
    clear hmay
    go_enter Tryz.func81,Tryz.ntmps81
    go_wp2_with (go_at_call 143;refine HM.mono ?_;rintro e w' ⟨rfl,rfl⟩)
    go_ret2
    exact Out.no (jb _ _)
  · obtain⟨h1,h2,h3,h4⟩:=dJ hmay
    rw [hmay] at HM
    have HT:=mh w lo ll cl A C L H k za hl
    cases hoc:okC ll L k
    · have kN:V (okEnc ll L k r=jf):=by show _=_;unfold okEnc;rw [hoc,Bool.false_and,Bool.and_false]
      unfold oV at HT
      rw [hoc] at HT
      have e1:dE jf 40=40:=rfl
      clear hmay hoc hl
      go_enter Tryz.func81,Tryz.ntmps81
      go_wp2_with (first | (go_at_call 143;refine HM.mono ?_;rintro e w' ⟨rfl,rfl⟩) | (go_at_call 144;refine HT.mono ?_;rintro e w1 ⟨ao,b8,rfl,_,_,_,hb⟩))
      go_ret2
      rw [kN.out]
      exact Out.no hb
    · obtain⟨Hy,xz⟩:=ey hoc
      subst Hy
      have jU:=cnt_le L ll
      unfold oV at HT
      rw [hoc] at HT
      have e1:dE ja 40=0:=rfl
      have e2:dS ja (cnt L ll)=cnt L ll:=rfl
      by_cases qD:cnt L ll<ll
      · have kN:V (okEnc ll L ll r=jf):=by show _=_;unfold okEnc;rw [show decide ((ll:Int)<=(cnt L ll:Int))=jf from zp za,Bool.and_false,Bool.and_false]
        have N6:(cnt L ll:Int)<(ll:Int):=za;clear hmay hoc hl xz
        go_enter Tryz.func81,Tryz.ntmps81
        go_wp2_with (first | (go_at_call 143;refine HM.mono ?_;rintro e w' ⟨rfl,rfl⟩) | (go_at_call 144;refine HT.mono ?_;rintro e w1 ⟨ao,b8,rfl,_,_,_,hb⟩))
        go_ret2
        rw [kN.out]
        exact Out.no hb
      · have hce:cnt L ll=ll:=za
        have kN:V (okEnc ll L ll r=ja):=by show _=_;unfold okEnc;rw [hmay,hoc,show decide ((ll:Int)<=(cnt L ll:Int))=ja from zm za];rfl
        obtain⟨m1,m2,m3⟩:=fO xz za
        have KX:V (∀ i,i<ll->L i=len0 L ll):=fun i hi=>by
          rcases m3 i hi with g | g
          · exact absurd g (lV za i hi)
          · exact g
        rw [hce] at HT
        have e3:dS ja ll=ll:=rfl
        have N6:¬ ((ll:Int)<(ll:Int)):=za;obtain⟨r,rfl⟩:=Int.eq_ofNat_of_zero_le h3
        rw [ji,ji]
        have xu:=@run_makeMap I
        have HL:=am hl
        clear hmay hoc hl xz m3 hce qD jU
        go_enter Tryz.func81,Tryz.ntmps81
        go_wp2_with (first
          | (go_at_call 143;refine HM.mono ?_;rintro e w' ⟨rfl,rfl⟩)
          | (go_at_call 144;refine HT.mono ?_;rintro e w1 ⟨ao, b8, rfl, _, _, _, hb⟩
             have HP:=iq (w1.alloc (.map #[] 0)) w1.heap.size w1.heap.size ll r 0 (len0 L ll) lo cl A C L H za za za m1 m2 za zi (Kept.made w1 ll r) ((HL.out.below hb).below ((jb _ _).alloc (W _) _)) KX.out)
          | (go_at_call 145;refine HP.mono ?_;rintro e w2 ⟨KY,jK,T,U,rfl,jY,_,hke⟩))
        go_ret2
        rw [kN.out]
        exact⟨KY,jK,T,U,rfl,jY.base (by have:=hb.size;simp;omega),ag hb (me hke) hb.size⟩
theorem rowsOf_join(k r:Nat)(T T':Nat->Option je)(L L' U U':Nat->Nat):rowsOf (k+r) (join k T T') (join k L L') (join k U U')=rowsOf k T L U ++ rowsOf r T' L' U':=by
 apply List.ext_getElem?
 intro i;by_cases e:i<k
 ·rw [List.getElem?_append_left (by rw [rowsOf_length];exact e),rowsOf_get _ _ _ _ _ e,rowsOf_get _ _ _ _ _ za];unfold join;rw [zk e,zk e,zk e]
 ·rw [List.getElem?_append_right (by rw [rowsOf_length];omega),rowsOf_length];by_cases e2:i-k<r
  ·rw [rowsOf_get _ _ _ _ _ e2,rowsOf_get _ _ _ _ _ za];unfold join;rw [zl e,zl e,zl e]
  ·rw [List.getElem?_eq_none (by rw [rowsOf_length];omega),List.getElem?_eq_none (by rw [rowsOf_length];omega)]
theorem Copied.join{w w':N}{B k r:Nat}{v u v':jg}{T T':Nat->Option je}{L L' U U':Nat->Nat}{H H':M}(h:Copied w B k v T L U H)(h':Copied w B r u T' L' U' H')(Fa:∀ i j a b,i<k->j<r->T i=O a->T' j=O b->a.block ≠ b.block)
  (hg:w.grownBy w' v.ownBlock) (ho:w'.ownsRow B 36 1 v' (k+r) (rowsOf k T L U ++ rowsOf r T' L' U')):Copied w' B (k+r) v' (join k T T') (join k L L') (join k U U') (join k H H'):=by
 refine⟨by rw [rowsOf_join];exact ho,fun i hi=>?_,fun i j a b hi hj f9 ea eb=>?_⟩
 ·unfold YtemlojjkokooeaaGreat.Cod.join;by_cases e:i<k
  ·rw [zk e,zk e,zk e,zk e];exact(h.row i e).kept hg (di (h.row i e) h.out)
  ·rw [zl e,zl e,zl e,zl e];have:=h'.row (i-k) za;exact this.kept hg (di this h.out)
 ·unfold YtemlojjkokooeaaGreat.Cod.join at ea eb;by_cases e:i<k
  ·rw [zk e] at ea;by_cases e':j<k
   ·rw [zk e'] at eb;exact h.apart i j a b e e' f9 ea eb
   ·rw [zl e'] at eb;exact Fa i (j-k) a b e za ea eb
  ·rw [zl e] at ea;by_cases e':j<k
   ·rw [zk e'] at eb;exact(Fa j (i-k) b a e' za eb ea).symm
   ·rw [zl e'] at eb;exact h'.apart (i-k) (j-k) a b za za za ea eb
theorem vM(k:Nat)(D:M)(i:Nat):YtemlojjkokooeaaGreat.Cod.join k D (par k D) i=enc k D i:=by
 unfold YtemlojjkokooeaaGreat.Cod.join par;by_cases e:i<k
 ·rw [zk e];funext b;exact(enc_data D e).symm
 ·rw [zl e,show k+(i-k)=i by omega]
theorem join_const(k m i:Nat):YtemlojjkokooeaaGreat.Cod.join k (fun _=>m) (fun _=>m) i=m:=by unfold YtemlojjkokooeaaGreat.Cod.join;split <;> rfl
theorem iT(w:N)(row:Option Nat):w.grownBy w row:=⟨rfl,rfl,rfl,W _,fun _ _ _=>rfl⟩
theorem fh{w:N}{pm:Array Oper}{kg:List Oper}{o:Oper}{a:Act}{Q:Exit->Act->N->Prop}(qN:o.guard=Z)(s x:Operand)
  (ho:o.op=.call { callee:=.builtin .append,args:=#[s,x],argTypes:=#[33,33]}) (B B' k r ca cb:Nat) (ao bo:Option je) (T T':Nat->Option je) (L L' U U':Nat->Nat) (H H':M)
  (hs:a.eval s=J ao k ca) (hx:a.eval x=J bo r cb) (h:Copied w B k (J ao k ca) T L U H) (h':Copied w B' r (J bo r cb) T' L' U' H') (hk:k<=1000) (hr:r<=1000) (hB:B<=w.heap.size) (SI:B<=B') (Fa:∀ i j a b,i<k->j<r->T i=O a->T' j=O b->a.block ≠ b.block)
  (kP:∀ g6 c' w',w.grownBy w' (Value.slice ao k ca).ownBlock->Copied w' B (k+r) (J g6 (k+r) c') (YtemlojjkokooeaaGreat.Cod.join k T T') (YtemlojjkokooeaaGreat.Cod.join k L L') (YtemlojjkokooeaaGreat.Cod.join k U U') (YtemlojjkokooeaaGreat.Cod.join k H H')->wpList I pm Q kg (a.put o.dst (J g6 (k+r) c')) w'):wpList I pm Q (o :: kg) a w:=by
 obtain⟨j0,hj,kE,kB,kt⟩:=info_parts info23c;rcases h'.out.2 with ⟨e,h0⟩ | ⟨g,b8,jw,e,_⟩
 ·cases e
  have hc:=h.join (h'.base SI) Fa (iT w _) (by rw [show rowsOf 0 T' L' U'=[] from rfl,List.append_nil];exact h.out);exact wpList_append_own_none qN s x 33 ho B 36 j0 1 Tryz.underlying33 hj (J ao k ca) k (rowsOf k T L U) hs h.out hx (kP ao ca w (iT w _) hc)
 ·cases e
  refine wpList_append_own w qN s x 33 ho B 36 j0 (J Z 0 0) 1 24 Tryz.underlying33 hj kE kB kt rfl zb (J ao k ca) k (rowsOf k T L U) hs h.out ⟨g,0,Z⟩ r cb (rowsOf r T' L' U') hx (by rw [rowsOf_length,Nat.mul_one]) (h'.out.cells (g:=g) rfl) (rowsOf_one _ _ _ _) (by unfold maxLen;omega) za hB ?_;intro v' w' h1 h2 _;obtain⟨g6,c',rfl⟩:=owns_form h1;exact kP g6 c' w' h2 (h.join (h'.base SI) Fa h2 h1)
def okDec (ll:Nat) (L:Nat->Nat) (k r:Int):Bool:=mayB k r && (okC ll L (k+r) && decide (k<=(cnt L ll:Int)))
def errD (may cells ok:Bool):Int:=if may then (if cells then (if ok then 0 else 5) else 40) else 2
theorem Decode_any(w:N)(k r:Int)(lo:Option je)(ll cl:Nat)(A:Nat->Option je)(C L:Nat->Nat)(H:M)(hl:Lst w lo ll A C L H):
    jj I 139 #[P S k,P S r,J lo ll cl] w (Out w (okDec ll L k r) (errD (mayB k r) (okC ll L (k+r)) (okDec ll L k r)) (k.toNat+r.toNat) (len0 L ll) (enc k.toNat (dec k.toNat (sel L ll) H))):=by
  have HM:=sr w k r
  cases hmay:mayB k r
  · rw [show okDec ll L k r=jf by unfold okDec;rw [hmay];rfl]
    rw [hmay] at HM
    clear hmay
    go_enter Tryz.func139,Tryz.ntmps139
    go_wp2_with (go_at_call 143;refine HM.mono ?_;rintro e w' ⟨rfl,rfl⟩)
    go_ret2
    exact Out.no (jb _ _)
  · obtain⟨h1,h2,h3,h4⟩:=dJ hmay
    rw [hmay] at HM
    have HT:=mh w lo ll cl A C L H (k+r) za hl
    cases hoc:okC ll L (k+r)
    · have kN:V (okDec ll L k r=jf):=by show _=_;unfold okDec;rw [hoc,Bool.false_and,Bool.and_false]
      unfold oV at HT
      rw [hoc] at HT
      have e1:dE jf 40=40:=rfl
      clear hmay hoc hl
      go_enter Tryz.func139,Tryz.ntmps139
      go_wp2_with (first | (go_at_call 143;refine HM.mono ?_;rintro e w' ⟨rfl,rfl⟩) | (go_at_call 144;refine HT.mono ?_;rintro e w1 ⟨ao,b8,rfl,_,_,_,hb⟩))
      go_ret2
      rw [kN.out]
      exact Out.no hb
    · obtain⟨Hy,xz⟩:=ey hoc
      obtain⟨k,rfl⟩:=Int.eq_ofNat_of_zero_le (show 0<=k by omega)
      obtain⟨r,rfl⟩:=Int.eq_ofNat_of_zero_le h3
      obtain rfl:ll=k+r:=za;clear Hy
      rw [ji,ji]
      unfold oV at HT
      rw [hoc] at HT
      have e1:dE ja 40=0:=rfl
      have e2:dS ja (cnt L (k+r))=cnt L (k+r):=rfl
      obtain⟨cn,qD⟩:=fd (cnt L (k+r))
      rw [<- qD] at HT e2
      by_cases hck:cn<k
      · have kN:V (okDec (k+r) L k r=jf):=by show _=_;unfold okDec;rw [show decide ((k:Int)<=(cnt L (k+r):Int))=jf from zp za,Bool.and_false,Bool.and_false]
        have N6:(cn:Int)<(k:Int):=za;clear hmay hoc hl xz qD
        go_enter Tryz.func139,Tryz.ntmps139
        go_wp2_with (first | (go_at_call 143;refine HM.mono ?_;rintro e w' ⟨rfl,rfl⟩) | (go_at_call 144;refine HT.mono ?_;rintro e w1 ⟨ao,b8,rfl,_,_,_,hb⟩))
        go_ret2
        rw [kN.out]
        exact Out.no hb
      · have kN:V (okDec (k+r) L k r=ja):=by show _=_;unfold okDec;rw [hmay,hoc,show decide ((k:Int)<=(cnt L (k+r):Int))=ja from zm za];rfl
        obtain⟨m1,m2,m3⟩:=fO xz za
        obtain⟨m,hm⟩:=fd (len0 L (k+r))
        rw [<- hm] at m1 m2 m3 ⊢
        have KX:=am m3
        have kQ:V (Sel L (k+r) cn (sel L (k+r))):=by rw [qD];exact sel_is L (k+r)
        obtain⟨R,hR⟩:=fd (sel L (k+r))
        rw [<- hR] at kQ HT ⊢
        have xu:=@run_makeMap I
        obtain⟨j0,hj,kE,kB,kt⟩:=info_parts info23c
        have HL:=am hl
        clear hmay hoc hl xz m3 qD hm hR
        go_enter Tryz.func139,Tryz.ntmps139
        go_wp2_with (first
          | (go_at_call 143;refine HM.mono ?_;rintro e w' ⟨rfl,rfl⟩)
          | (go_at_call 144;refine HT.mono ?_;rintro e w1 ⟨ao, b8, rfl, KA, hcap, N7, hb⟩
             obtain⟨bn,on,rfl,jI⟩:=KA (by rw [e2];omega)
             have Kx:(k:Int)<=(b8:Int):=(by rw [e2] at hcap;omega)
             have b1:b7 w1 (w1.alloc (.map #[] 0)):=(jb _ _).alloc (W _) _
             have Mk:V (Lst (w1.alloc (.map #[] 0)) lo (k+r) A C L H):=(HL.out.below hb).below b1
             have HD:=vD (w1.alloc (.map #[] 0)) w1.heap.size w1.heap.size k r 0 m cn b8 lo (O ⟨bn,on,Z⟩) cl A C L H R za za za m1 m2 za zi (Kept.made w1 k r) Mk.out KX.out kQ.out za (fun _=>⟨bn,on,rfl,fun i hi=>held (jI i (by rw [e2];omega)) b1⟩)
             clear KA jI)
          | (go_at_call 210;refine HD.mono ?_;rintro e w2 ⟨KY, jK, T, U, rfl, jY, jJ, hke⟩
             have zQ:=am jY
             have N8:=am hke
             have HP:=iq w2 w1.heap.size w1.heap.size k r (0+12*k) m KY jK T U (fun _=>m) (dec k R H) za za za m1 m2 za (by have:=hke.size;simp at this;omega) jJ jY.lst (fun _ _=>rfl)
             have Wf:=am jJ
             clear jY jJ hke)
          | (go_at_call 145;refine HP.mono ?_;rintro e w3 ⟨Wg, m7, T3, U3, rfl, GE, _, JS⟩
             have yg:=am GE
             have Ml:=am JS
             have Mm:=am (zQ.out.stay (Wf.out.stay JS))
             have Wh:V (∀ i j a b,i<k->j<r->T i=O a->T3 j=O b->a.block ≠ b.block):=(fun i j a b hi hj ea eb=>by
               have q1:=zQ.out.old hi ea
               have q2:=((GE.row j hj).lt b.block (by rw [eb];rfl)).1
               omega)
             clear GE JS)
          | (at_builtin;refine fh zg (jk 40) (jk 45) zg (w1.alloc (.map #[] 0)).heap.size w2.heap.size k r jK m7 KY Wg T T3 (fun _=>m) (fun _=>m) U U3 (dec k R H) (par k (dec k R H)) zg zg Mm.out yg.out za za (Nat.le_trans N8.out.size Ml.out.size) N8.out.size Wh.out ?_;intro Wi PZ w4 He N9))
        go_ret2
        rw [kN.out]
        have xW:=N8.out.size
        refine⟨Wi,PZ,_,_,rfl,(N9.congr (fun _ _=>rfl) (fun i _=>join_const k m i) (fun _ _=>rfl) (fun i _=>vM k (dec k R H) i)).base (by have:=hb.size;simp;omega),?_⟩
        have b3:b7 w1 w3:=me (N8.out.trans Ml.out)
        have b4:b7 w1 w4:=b3.trans (nR He b3.size (fun q hq=>by have:=(Mm.out.out.lt q hq).1;simp at this;omega))
        exact ag hb b4 hb.size
theorem owns_lst{w:N}{base ll b8:Nat}{to:Option je}{T:Nat->Option je}{L U:Nat->Nat}{H:M}(h:w.ownsRow base 36 1 (J to ll b8) ll (rowsOf ll T L U))(hr:∀ i,i<ll->Rd w (T i) (L i) (H i)):Lst w to ll T U L H:=by
 refine⟨hr,fun hp=>?_⟩;rcases h.2 with ⟨_,h1⟩ | ⟨g,jy,jw,h1,_⟩
 ·omega
 ·cases h1
  refine⟨g,0,rfl,fun i hi=>?_⟩;have:=h.cells (g:=g) rfl i _ (rowsOf_get ll T L U i hi)
  rwa [Addr.add_lit] at this
theorem okT_of{L:Nat->Nat}{m n:Nat}(hm:m ≠ 0)(h:m<=65536)(hL:∀ i,i<n->L i=0\/L i=m):okT L n=ja/\(len0 L n=0\/len0 L n=m):=by
 induction n with
 | zero=>exact⟨rfl,.inl rfl⟩
 | succ n ih =>
  obtain⟨h1,h2⟩:=ih fun i hi=>hL i za;have h3:=hL n za;have h4:len0 L (n+1)=0\/len0 L (n+1)=m:=by
   rw [len0];rcases h2 with e | e
   ·rw [zk e];exact h3
   ·rw [zl za];exact .inr e
  refine⟨eo h1 ?_,h4⟩;rcases h3 with e | e
  ·exact .inl e
  ·refine .inr ⟨za,?_⟩;rw [len0];rcases h2 with e' | e'
   ·rw [zk e']
   ·rw [zl za,e,e']
end Go.Proofs.YtemlojjkokooeaaGreat.Cod
