import Derived.Deep.LoopGhost
import Derived.OpenShut
import Derived.Deep.Matrix
import Derived.Test.YtemlojjkokooeaaGreatTm18
open Option renaming none->J,some->O
open Go renaming World->I,Value->jd,Calls->jf,Addr->jg
open Go.Value renaming slice->Q,int->Z,pointer->jl,tuple->jn
open Nat renaming le_refl->D,zero_le->ji
open Go.Proofs.Tryz renaming prog->N
open Go.IntKind renaming i64->y,u8->jh
open Go.Ending renaming returned->ja
open Go.RowKit renaming Below->jb,Hid->jc
open Bool renaming true->je,false->jj
open Go.Obj renaming cells->jk
open Go.RowKit.Below renaming refl->jm
open Int renaming toNat_natCast->jo
set_option maxHeartbeats 16000000
set_option maxRecDepth 100000
namespace Go.Proofs.YtemlojjkokooeaaGreat.Cod
abbrev K:=Fin 256
namespace K
def n (a:K):Nat:=a.val
theorem lt(a:K):K.n a<256:=a.isLt
theorem ext{a b:K}(h:a.n=b.n):a=b:=Fin.ext h
def of (n:Nat):K:=⟨n % 256,Nat.mod_lt _ zb⟩
theorem of_n(n:Nat)(h:n<256):(of n).n=n:=Nat.mod_eq_of_lt h
def add (a b:K):K:=⟨Gf.add a.n b.n,Gf.add_lt _ _ a.isLt b.isLt⟩
def mul (a b:K):K:=⟨Gf.mul a.n b.n,Gf.mul_lt _ _ a.isLt⟩
def inv (a:K):K:=⟨Gf.pw a.n 254,Gf.pw_lt _ _⟩
theorem ne_zero{a:K}(h:a ≠ 0):a.n ≠ 0:=fun e=>h (ext e)
theorem one_ne_zero:(1:K) ≠ 0:=fun h=>absurd (congrArg K.n h) zb
theorem add_comm(a b:K):(K.add a b)=(K.add b a):=ext (Gf.add_comm _ _)
theorem add_assoc(a b c:K):(K.add (K.add a b) c)=(K.add a ((K.add b c))):=ext (Gf.add_assoc _ _ _)
theorem add_zero(a:K):(K.add a 0)=a:=ext (Gf.add_zero _)
theorem zero_add(a:K):(K.add 0 a)=a:=by rw [add_comm,add_zero]
theorem add_self(a:K):(K.add a a)=0:=ext (Gf.add_self _)
theorem mul_comm(a b:K):(K.mul a b)=(K.mul b a):=ext (Gf.mul_comm _ _ a.lt b.lt)
theorem mul_assoc(a b c:K):(K.mul (K.mul a b) c)=(K.mul a ((K.mul b c))):=ext (Gf.mul_assoc _ _ _ a.lt b.lt c.lt)
theorem mul_one(a:K):(K.mul a 1)=a:=ext (Gf.mul_one _ a.lt)
theorem one_mul(a:K):(K.mul 1 a)=a:=by rw [mul_comm,mul_one]
theorem mul_zero(a:K):(K.mul a 0)=0:=ext (Gf.mul_zero _)
theorem zero_mul(a:K):(K.mul 0 a)=0:=by rw [mul_comm,mul_zero]
theorem mul_add(a b c:K):(K.mul a ((K.add b c)))=(K.add (K.mul a b) (K.mul a c)):=ext (Gf.mul_add _ _ _)
theorem add_mul(a b c:K):(K.mul ((K.add a b)) c)=(K.add (K.mul a c) (K.mul b c)):=by rw [mul_comm,mul_add,mul_comm c a,mul_comm c b]
theorem mul_inv{a:K}(h:a ≠ 0):(K.mul a a.inv)=1:=ext (Gf.mul_inv _ a.lt (ne_zero h))
theorem inv_mul{a:K}(h:a ≠ 0):(K.mul a.inv a)=1:=by rw [mul_comm,mul_inv h]
theorem mul_ne_zero{a b:K}(h:a ≠ 0)(g:b ≠ 0):(K.mul a b) ≠ 0:=fun e=>Gf.mul_ne_zero _ _ a.lt b.lt (ne_zero h) (ne_zero g) (congrArg K.n e)
theorem eq_zero_of_mul{a b:K}(h:(K.mul a b)=0)(g:b ≠ 0):a=0:=Classical.byContradiction fun e=>mul_ne_zero e g h
theorem inv_ne_zero{a:K}(h:a ≠ 0):a.inv ≠ 0:=fun e=>one_ne_zero (by rw [<- mul_inv h,e,mul_zero])
theorem add_eq_zero{a b:K}(h:(K.add a b)=0):a=b:=by
 have:(K.add (K.add a b) b)=(K.add 0 b):=by rw [h]
 rwa [add_assoc,add_self,add_zero,zero_add] at this
theorem sub_ne{a b:K}(h:a ≠ b):(K.add a b) ≠ 0:=fun e=>h (add_eq_zero e)
theorem aA:Std.Associative K.add:=⟨add_assoc⟩
theorem cA:Std.Commutative K.add:=⟨add_comm⟩
theorem aM:Std.Associative K.mul:=⟨mul_assoc⟩
theorem cM:Std.Commutative K.mul:=⟨mul_comm⟩
end K
abbrev M:=Nat->Nat->K
def sum (n:Nat) (f:Nat->K):K:=match n with
  | 0=>0
  | k+1=>(K.add (sum k f) (f k))
theorem br(n:Nat)(f:Nat->K):sum (n+1) f=(K.add (sum n f) (f n)):=rfl
theorem aT{n:Nat}{f g:Nat->K}(h:∀ i,i<n->f i=g i):sum n f=sum n g:=by
 induction n with
 | zero=>rfl
 | succ n ih=>rw [br,br,ih (fun i hi=>h i za),h n za]
theorem dA{n:Nat}{f:Nat->K}(h:∀ i,i<n->f i=0):sum n f=0:=by
 induction n with
 | zero=>rfl
 | succ n ih=>rw [br,ih (fun i hi=>h i za),h n za,K.add_zero]
theorem sum_add(n:Nat)(f g:Nat->K):sum n (fun i=>(K.add (f i) (g i)))=(K.add (sum n f) (sum n g)):=by
 induction n with
 | zero=>exact(K.add_zero 0).symm
 | succ n ih=>rw [br,br,br,ih];(have:=K.aA;have:=K.cA;have:=K.aM;have:=K.cM;ac_rfl)
theorem eR(n:Nat)(c:K)(f:Nat->K):sum n (fun i=>(K.mul c (f i)))=(K.mul c (sum n f)):=by
 induction n with
 | zero=>exact(K.mul_zero c).symm
 | succ n ih=>rw [br,br,ih,K.mul_add]
theorem AJ(n:Nat)(c:K)(f:Nat->K):sum n (fun i=>(K.mul (f i) c))=(K.mul (sum n f) c):=by
 rw [K.mul_comm,<- eR];exact aT fun i _=>K.mul_comm _ _
theorem Ai(n m:Nat)(f:Nat->Nat->K):sum n (fun i=>sum m (f i))=sum m (fun j=>sum n (fun i=>f i j)):=by
 induction n with
 | zero=>exact(dA fun _ _=>rfl).symm
 | succ n ih=>rw [br,ih,<- sum_add];exact aT fun _ _=>rfl
theorem Cj{b n:Nat}{f:Nat->K}(hb:b<=n)(h:∀ i,b<=i->i<n->f i=0):sum n f=sum b f:=by
 induction n with
 | zero=>rw [show b=0 by omega]
 | succ n ih =>
  by_cases e:b=n+1
  ·rw [e]
  ·rw [br,h n za za,K.add_zero,ih za (fun i h1 h2=>h i h1 za)]
theorem eO{n k:Nat}{f:Nat->K}(hk:k<n)(h:∀ i,i<n->i ≠ k->f i=0):sum n f=f k:=by
 induction n with
 | zero=>omega
 | succ n ih =>
  by_cases e:k=n
  ·subst e;rw [br,dA (fun i hi=>h i za za),K.zero_add]
  ·rw [br,h n za za,K.add_zero,ih za (fun i hi f9=>h i za f9)]
def mm (n:Nat) (A B:M):M:=fun i j=>sum n fun l=>(K.mul (A i l) (B l j))
def one:M:=fun i j=>if i=j then 1 else 0
def turn (A:M):M:=fun i j=>A j i
theorem cX(i:Nat):one i i=1:=zk rfl
theorem gV{i j:Nat}(h:i ≠ j):one i j=0:=zl h
theorem bq{n:Nat}{A A' B B':M}{i j:Nat}(h:∀ l,l<n->A i l=A' i l)(g:∀ l,l<n->B l j=B' l j):mm n A B i j=mm n A' B' i j :=
 aT fun l hl=>by rw [h l hl,g l hl]
theorem cG(p q:Nat)(A B C:M)(i j:Nat):mm p (mm q A B) C i j=mm q A (mm p B C) i j:=by
 show sum p (fun l=>(K.mul (sum q (fun k=>(K.mul (A i k) (B k l)))) (C l j)))=sum q (fun k=>(K.mul (A i k) (sum p (fun l=>(K.mul (B k l) (C l j))))));rw [show (fun l=>(K.mul (sum q (fun k=>(K.mul (A i k) (B k l)))) (C l j)))=fun l=>sum q (fun k=>(K.mul (K.mul (A i k) (B k l)) (C l j))) from funext fun l=>(AJ q (C l j) _).symm];rw [Ai];exact aT fun k _=>by rw [<- eR];exact aT fun l _=>K.mul_assoc _ _ _
theorem dm{n:Nat}{A:M}{i j:Nat}(hi:i<n):mm n one A i j=A i j:=by
 show sum n (fun l=>(K.mul (one i l) (A l j)))=_;rw [eO hi (fun l _ h=>by rw [gV (Ne.symm h),K.zero_mul]),cX,K.one_mul]
theorem wO{n:Nat}{A:M}{i j:Nat}(hj:j<n):mm n A one i j=A i j:=by
 show sum n (fun l=>(K.mul (A i l) (one l j)))=_;rw [eO hj (fun l _ h=>by rw [gV h,K.mul_zero]),cX,K.mul_one]
theorem CB(n:Nat)(A B:M)(i j:Nat):mm n (turn B) (turn A) i j=mm n A B j i:=aT fun _ _=>K.mul_comm _ _
def swp (b i0:Nat) (X:M):M:=fun i=>if i=b then X i0 else if i=i0 then X b else X i
def clr (b:Nat) (s:K) (t:Nat->K) (X:M):M:=fun i j=>if i=b then (K.mul s (X b j)) else (K.add (X i j) (K.mul (t i) (X b j)))
theorem sX(b i0:Nat)(X:M):swp b i0 (swp b i0 X)=X:=by
 funext i
 unfold swp;by_cases h:i=b
 ·subst h;by_cases g:i0=i
  ·subst g;simp
  ·simp [g]
 ·by_cases g:i=i0
  ·subst g;simp [h]
  ·simp [h,g]
theorem Cf(b:Nat)(s:K)(hs:s ≠ 0)(t:Nat->K)(X:M):clr b s.inv (fun i=>(K.mul (t i) s.inv)) (clr b s t X)=X:=by
 funext i j
 unfold clr;by_cases h:i=b
 ·subst h;rw [zk rfl,zk rfl,<- K.mul_assoc,K.inv_mul hs,K.one_mul]
 ·rw [zl h,zl h,zk rfl,<- K.mul_assoc,K.mul_assoc (t i),K.inv_mul hs,K.mul_one,K.add_assoc,K.add_self,K.add_zero]
theorem Ao(b:Nat)(s:K)(hs:s ≠ 0)(t:Nat->K)(X:M):clr b s t (clr b s.inv (fun i=>(K.mul (t i) s.inv)) X)=X:=by
 funext i j
 unfold clr;by_cases h:i=b
 ·subst h;rw [zk rfl,zk rfl,<- K.mul_assoc,K.mul_inv hs,K.one_mul]
 ·rw [zl h,zl h,zk rfl,<- K.mul_assoc,K.add_assoc,K.add_self,K.add_zero]
structure Step (n:Nat) (T T':M->M):Prop where
  back:∀ X,T' (T X)=X
  forth:∀ X,T (T' X)=X
  lin:∀ X Y i j,mm n (T X) Y i j=T (mm n X Y) i j
  lin':∀ X Y i j,mm n (T' X) Y i j=T' (mm n X Y) i j
  low:∀ X Y j,(∀ i,i<n->X i j=Y i j)->∀ i,i<n->T X i j=T Y i j
  low':∀ X Y j,(∀ i,i<n->X i j=Y i j)->∀ i,i<n->T' X i j=T' Y i j
theorem sS(n b i0:Nat)(X Y:M)(i j:Nat):mm n (swp b i0 X) Y i j=swp b i0 (mm n X Y) i j:=by
 unfold swp mm;by_cases h:i=b
 ·simp [h]
 ·by_cases g:i=i0
  ·subst g;simp [h]
  ·simp [h,g]
theorem su{n b i0:Nat}(hb:b<n)(hi:i0<n)(X Y:M)(j:Nat)(h:∀ i,i<n->X i j=Y i j)(i:Nat)(hl:i<n):swp b i0 X i j=swp b i0 Y i j:=by
 unfold swp;by_cases e:i=b
 ·simp only [e,if_true];exact h _ hi
 ·by_cases g:i=i0
  ·simp only [g,if_true];split
   ·exact h _ hi
   ·exact h _ hb
  ·simp only [e,g,if_false];exact h _ hl
theorem sE(n b:Nat)(s:K)(t:Nat->K)(X Y:M)(i j:Nat):mm n (clr b s t X) Y i j=clr b s t (mm n X Y) i j:=by
 unfold clr mm;by_cases h:i=b
 ·simp only [h,if_true];rw [<- eR];exact aT fun l _=>K.mul_assoc _ _ _
 ·simp only [h,if_false];rw [<- eR,<- sum_add];exact aT fun l _=>by rw [K.add_mul,K.mul_assoc]
theorem sB{n b:Nat}(hb:b<n)(s:K)(t:Nat->K)(X Y:M)(j:Nat)(h:∀ i,i<n->X i j=Y i j)(i:Nat)(hl:i<n):clr b s t X i j=clr b s t Y i j:=by
 unfold clr;rw [h b hb,h i hl]
theorem Ap{n b i0:Nat}(hb:b<n)(hi:i0<n):Step n (swp b i0) (swp b i0) :=
 ⟨sX b i0,sX b i0,sS n b i0,sS n b i0,su hb hi,su hb hi⟩
theorem AH{n b:Nat}(hb:b<n)(s:K)(hs:s ≠ 0)(t:Nat->K):Step n (clr b s t) (clr b s.inv fun i=>(K.mul (t i) s.inv)) :=
 ⟨Cf b s hs t,Ao b s hs t,sE n b s t,sE n b _ _,sB hb _ _,sB hb _ _⟩
structure By (n:Nat) (A P E F:M):Prop where
  ef:∀ i j,i<n->j<n->mm n E F i j=one i j
  fe:∀ i j,i<n->j<n->mm n F E i j=one i j
  is:∀ i j,i<n->P i j=mm n E A i j
theorem By.refl(n:Nat)(A:M):By n A A one one :=
 ⟨fun _ _ hi _=>dm hi,fun _ _ hi _=>dm hi,fun _ _ hi=>(dm hi).symm⟩
theorem By.step{n:Nat}{A P E F:M}{T T':M->M}(h:By n A P E F)(s:Step n T T'):By n A (T P) (T E) (mm n F (T' one)):=by
 refine⟨fun i j hi hj=>?_,fun i j hi hj=>?_,fun i j hi=>?_⟩
 ·rw [<- cG,bq (A':=T one) (B':=T' one) (fun l hl=>by rw [s.lin,s.low _ one l (fun k hk=>h.ef k l hk hl) i hi]) (fun _ _=>rfl),s.lin,s.low _ (T' one) j (fun k hk=>dm hk) i hi,s.forth]
 ·rw [cG,bq (A':=F) (B':=E) (fun _ _=>rfl) (fun l hl=>by rw [s.lin',s.low' _ (T E) j (fun k hk=>dm hk) l hl,s.back])];exact h.fe i j hi hj
 ·rw [s.low _ _ j (fun k hk=>h.is k j hk) i hi,<- s.lin]
structure Red (z:Bool) (n:Nat) (A:M) (c b:Nat) (P:M):Prop where
  by_:∃ E F,By n A P E F
  rows:b<=n
  cols:b<=c
  piv:∃ p:Nat->Nat,∃ d:Nat->K,(∀ l,l<b->p l<c/\d l ≠ 0/\(z=true->d l=1)/\∀ i,i<n->P i (p l)=if i=l then d l else 0)/\(b=c->∀ l,l<b->p l=l)
  zero:∀ i,b<=i->i<n->∀ j,j<c->P i j=0
theorem Red.start(z:Bool)(n:Nat)(A:M):Red z n A 0 0 A :=
 ⟨⟨_,_,By.refl n A⟩,ji _,D _,⟨id,fun _=>1,fun _ h=>absurd h (Nat.not_lt_zero _),fun _ _ _=>rfl⟩,fun _ _ _ _ h=>absurd h (Nat.not_lt_zero _)⟩
theorem Red.skip{z:Bool}{n c b:Nat}{A P:M}(h:Red z n A c b P)(h0:∀ i,b<=i->i<n->P i c=0):Red z n A (c+1) b P:=by
 refine⟨h.by_,h.rows,Nat.le_succ_of_le h.cols,?_,fun i h1 h2 j hj=>?_⟩
 ·obtain⟨p,d,hp,_⟩:=h.piv;refine⟨p,d,fun l hl=>?_,fun e=>absurd h.cols za⟩;obtain⟨h1,h2⟩:=hp l hl;exact⟨za,h2⟩
 ·by_cases e:j=c
  ·rw [e];exact h0 i h1 h2
  ·exact h.zero i h1 h2 j za
theorem Red.take{z:Bool}{n c b i0:Nat}{A P:M}(h:Red z n A c b P)(h1:b<=i0)(h2:i0<n)(s:K)(hs:s ≠ 0)(t:Nat->K)(f9:P i0 c ≠ 0)(hz:z=je->(K.mul s (P i0 c))=1)
  (ht:∀ i,i<n->i ≠ b->(K.add (swp b i0 P i c) (K.mul (t i) (P i0 c)))=0):Red z n A (c+1) (b+1) (clr b s t (swp b i0 P)):=by
 have hb:b<n:=za;obtain⟨E,F,hE⟩:=h.by_;refine⟨⟨_,_,(hE.step (Ap hb h2)).step (AH hb s hs t)⟩,hb,Nat.succ_le_succ h.cols,?_,fun i g1 g2 j hj=>?_⟩
 ·obtain⟨p,d,hp,JE⟩:=h.piv;refine⟨fun l=>if l=b then c else p l,fun l=>if l=b then (K.mul s (P i0 c)) else d l,fun l hl=>?_,fun e l hl=>?_⟩
  ·by_cases e:l=b
   ·subst e;simp only [if_true];refine⟨za,K.mul_ne_zero hs f9,hz,fun i hi=>?_⟩;unfold clr;by_cases g:i=l
    ·rw [zk g,zk g];simp [swp]
    ·rw [zl g,zl g,show swp l i0 P l=P i0 from by simp [swp]];exact ht i hi g
   ·simp only [e,if_false];obtain⟨q1,q2,q3,q4⟩:=hp l za;refine⟨za,q2,q3,fun i hi=>?_⟩;have z1:P i0 (p l)=0:=by rw [q4 i0 h2,zl za]
    have z2:P b (p l)=0:=by rw [q4 b hb,zl za]
    unfold clr;rw [show swp b i0 P b=P i0 from by simp [swp],z1,K.mul_zero,K.mul_zero,K.add_zero];by_cases g:i=b
    ·rw [zk g,zl za]
    ·rw [zl g,<- q4 i hi];unfold swp;rw [zl g];by_cases g':i=i0
     ·rw [zk g',g',z1,z2]
     ·rw [zl g']
  ·have e':b=c:=za;by_cases g:l=b
   ·simp only [g,if_true];omega
   ·simp only [g,if_false];exact JE e' l za
 ·have N0:i ≠ b:=za;have zP:∀ k,b<=k->k<n->j<c->P k j=0:=fun k k1 k2 k3=>h.zero k k1 k2 j k3;by_cases e:j=c
  ·subst e;unfold clr;rw [zl N0,show swp b i0 P b=P i0 from by simp [swp]];exact ht i g2 N0
  ·unfold clr;rw [zl N0,show swp b i0 P b=P i0 from by simp [swp],zP i0 h1 h2 za,K.mul_zero,K.add_zero];unfold swp;rw [zl N0];split
   ·exact zP b (D _) hb za
   ·exact zP i za g2 za
theorem Red.take1{n c b i0:Nat}{A P:M}(h:Red je n A c b P)(h1:b<=i0)(h2:i0<n)(f9:P i0 c ≠ 0):
  Red je n A (c+1) (b+1) (clr b (P i0 c).inv (fun i=>(K.mul (swp b i0 P i c) ((P i0 c).inv))) (swp b i0 P)) :=
 h.take h1 h2 _ (K.inv_ne_zero f9) _ f9 (fun _=>K.inv_mul f9) fun i _ _=>by rw [K.mul_assoc,K.inv_mul f9,K.mul_one,K.add_self]
theorem Red.any(n:Nat)(A:M)(c:Nat):∃ b P,Red je n A c b P:=by
 induction c with
 | zero=>exact⟨_,_,Red.start je n A⟩
 | succ c ih =>
  obtain⟨b,P,h⟩:=ih;by_cases g:∃ i,b<=i/\i<n/\P i c ≠ 0
  ·obtain⟨i,h1,h2,h3⟩:=g;exact⟨_,_,h.take1 h1 h2 h3⟩
  ·exact⟨_,_,h.skip fun i h1 h2=>Classical.byContradiction fun e=>g ⟨i,h1,h2,e⟩⟩
def Fac (n m:Nat) (A:M) (r:Nat):Prop:=∃ X Y:M,∀ i j,i<n->j<m->A i j=mm r X Y i j
theorem dim{b r:Nat}{X Y:M}{d:Nat->K}(hd:∀ l,l<b->d l ≠ 0)(h:∀ i l,i<b->l<b->mm r X Y i l=if i=l then d l else 0):b<=r:=by
 by_cases hlt:r<b
 ·exfalso
  obtain⟨b',P,hr⟩:=Red.any b X r;obtain⟨E,F,hE⟩:=hr.by_;have I0:=hr.cols;have z:∀ l,l<b->E (b-1) l=0:=fun l hl=>by
   have e1:mm b E (mm r X Y) (b-1) l=(K.mul (E (b-1) l) (d l)):=by
    show sum b (fun k=>(K.mul (E (b-1) k) (mm r X Y k l)))=_;rw [eO hl (fun k hk f9=>by rw [h k l hk hl,zl f9,K.mul_zero]),h l l hl hl,zk rfl]
   rw [<- cG] at e1;have e2:mm r (mm b E X) Y (b-1) l=0:=dA fun q hq=>by rw [<- hE.is (b-1) q za,hr.zero (b-1) za za q hq,K.zero_mul]
   rw [e2] at e1;exact K.eq_zero_of_mul e1.symm (hd l hl)
  have e3:=hE.ef (b-1) (b-1) za za;rw [cX] at e3;exact K.one_ne_zero (e3.symm.trans (dA fun l hl=>by rw [z l hl,K.zero_mul]))
 ·omega
def Rk (n m:Nat) (A:M) (b:Nat):Prop:=Fac n m A b/\∀ r,Fac n m A r->b<=r
theorem Rk.unique{n m b b':Nat}{A:M}(h:Rk n m A b)(h':Rk n m A b'):b=b':=Nat.le_antisymm (h.2 _ h'.1) (h'.2 _ h.1)
theorem By.undo{n:Nat}{A P E F:M}(h:By n A P E F)(i j:Nat)(hi:i<n):A i j=mm n F P i j:=by
 rw [bq (A':=F) (B':=mm n E A) (fun _ _=>rfl) (fun l hl=>h.is l j hl),<- cG,bq (A':=one) (B':=A) (fun l hl=>h.fe i l hi hl) (fun _ _=>rfl),dm hi]
theorem Red.rk{z:Bool}{n c b:Nat}{A P:M}(h:Red z n A c b P):Rk n c A b:=by
 obtain⟨E,F,hE⟩:=h.by_;refine⟨⟨F,P,fun i j hi hj=>?_⟩,?_⟩
 ·rw [hE.undo i j hi];exact Cj h.rows fun l h1 h2=>by rw [h.zero l h1 h2 j hj,K.mul_zero]
 ·rintro r ⟨X,Y,JF⟩;obtain⟨p,d,hp,_⟩:=h.piv;have E6:=h.rows;refine dim (X:=mm n E X) (Y:=fun q l=>Y q (p l)) (d:=d) (fun l hl=>(hp l hl).2.1) fun i l hi hl=>?_;rw [<- (hp l hl).2.2.2 i za,hE.is i (p l) za];show mm r (mm n E X) Y i (p l)=_;rw [cG];exact bq (fun _ _=>rfl) fun k hk=>(JF k (p l) hk (hp l hl).1).symm
theorem Rk.congr{n m b:Nat}{A B:M}(h:Rk n m A b)(e:∀ i j,i<n->j<m->A i j=B i j):Rk n m B b:=by
 obtain⟨⟨X,Y,JF⟩,g⟩:=h;refine⟨⟨X,Y,fun i j hi hj=>by rw [<- e i j hi hj];exact JF i j hi hj⟩,?_⟩;rintro r ⟨X',Y',h'⟩;exact g r ⟨X',Y',fun i j hi hj=>by rw [e i j hi hj];exact h' i j hi hj⟩
theorem Fac.turn{n m r:Nat}{A:M}(h:Fac n m A r):Fac m n (turn A) r:=by
 obtain⟨X,Y,JF⟩:=h;exact⟨Go.Proofs.YtemlojjkokooeaaGreat.Cod.turn Y,Go.Proofs.YtemlojjkokooeaaGreat.Cod.turn X,fun i j hi hj=>by rw [CB];exact JF j i hj hi⟩
theorem Rk.turn{n m b:Nat}{A:M}(h:Rk n m A b):Rk m n (turn A) b:=⟨h.1.turn,fun r hr=>h.2 r hr.turn⟩
def IsInv (n:Nat) (A V:M):Prop:=∀ i j,i<n->j<n->mm n V A i j=one i j/\mm n A V i j=one i j
theorem IsInv.unique{n:Nat}{A V W:M}(h:IsInv n A V)(g:∀ i j,i<n->j<n->mm n W A i j=one i j)(i j:Nat)(hi:i<n)(hj:j<n):W i j=V i j:=by
 have e:mm n (mm n W A) V i j=mm n W (mm n A V) i j:=cG n n W A V i j;rw [bq (A':=one) (B':=V) (fun l hl=>g i l hi hl) (fun _ _=>rfl),dm hi] at e;rw [e,bq (A':=W) (B':=one) (fun _ _=>rfl) (fun l hl=>(h l j hl hj).2),wO hj]
theorem IsInv.rk{n:Nat}{A V:M}(h:IsInv n A V):Rk n n A n:=by
 refine⟨⟨one,A,fun i j hi _=>(dm hi).symm⟩,?_⟩;rintro r ⟨X,Y,JF⟩;refine dim (X:=mm n V X) (Y:=Y) (d:=fun _=>1) (fun _ _=>K.one_ne_zero) fun i l hi hl=>?_;rw [cG,bq (A':=V) (B':=A) (fun _ _=>rfl) (fun k hk=>(JF k l hk hl).symm),(h i l hi hl).1];rfl
def beside (n:Nat) (A:M):M:=fun i j=>if j<n then A i j else one i (j-n)
theorem eU{n b:Nat}{A:M}(h:Rk n n (beside n A) b):Rk n n A b:=h.congr fun _ _ _ hj=>zk hj
theorem Red.inv{z:Bool}{n:Nat}{A P:M}(h:Red z n (beside n A) n n P):IsInv n A (fun i j=>(K.mul (P i (n+j)) ((P i i).inv))):=by
 obtain⟨E,F,hE⟩:=h.by_;obtain⟨p,d,hp,JE⟩:=h.piv;have hd:∀ i,i<n->d i ≠ 0:=fun i hi=>(hp i hi).2.1;have PD:∀ i j,i<n->j<n->P i j=if i=j then d j else 0:=fun i j hi hj=>by
  have:=(hp j hj).2.2.2 i hi
  rwa [JE rfl j hj] at this
 have So:∀ i j,i<n->j<n->P i (n+j)=E i j:=fun i j hi hj=>by
  rw [hE.is i (n+j) hi,bq (A':=E) (B':=fun l q=>one l (q-n)) (fun _ _=>rfl) (fun l _=>zl za)];show sum n (fun l=>(K.mul (E i l) (one l (n+j-n))))=_;rw [Nat.add_sub_cancel_left];exact wO hj
 have VO:∀ i j,i<n->j<n->mm n E A i j=if i=j then d j else 0:=fun i j hi hj=>by
  rw [<- PD i j hi hj,hE.is i j hi];exact bq (fun _ _=>rfl) fun l _=>(zk hj).symm
 have Jn:∀ i,i<n->P i i=d i:=fun i hi=>by rw [PD i i hi hi,zk rfl]
 have VP:∀ i j,i<n->j<n->mm n (fun i j=>(K.mul (P i (n+j)) ((P i i).inv))) A i j=one i j:=fun i j hi hj=>by
  have:mm n (fun i j=>(K.mul (P i (n+j)) ((P i i).inv))) A i j=(K.mul ((d i).inv) (mm n E A i j)):=by
   show sum n (fun l=>(K.mul (K.mul (P i (n+l)) ((P i i).inv)) (A l j)))=_;refine Eq.trans ?_ (eR n (d i).inv fun l=>(K.mul (E i l) (A l j)));exact aT fun l hl=>by rw [So i l hi hl,Jn i hi];(have:=K.aA;have:=K.cA;have:=K.aM;have:=K.cM;ac_rfl)
  rw [this,VO i j hi hj];by_cases e:i=j
  ·subst e;rw [zk rfl,cX,K.inv_mul (hd i hi)]
  ·rw [zl e,gV e,K.mul_zero]
 have VQ:∀ i j,i<n->j<n->A i j=(K.mul (F i j) (d j)):=fun i j hi hj=>by
  have e:=hE.undo i j hi;rw [show beside n A i j=A i j from zk hj] at e;rw [e];show sum n (fun l=>(K.mul (F i l) (P l j)))=_;rw [eO hj fun l hl f9=>by rw [PD l j hl hj,zl f9,K.mul_zero],Jn j hj]
 refine fun i j hi hj=>⟨VP i j hi hj,?_⟩
 rw [<- hE.fe i j hi hj];show sum n (fun l=>(K.mul (A i l) ((K.mul (P l (n+j)) ((P l l).inv)))))=sum n (fun l=>(K.mul (F i l) (E l j)));exact aT fun l hl=>by
  rw [VQ i l hi hl,So l j hl hj,Jn l hl,K.mul_comm (E l j),<- K.mul_assoc,K.mul_assoc (F i l),K.mul_inv (hd l hl),K.mul_one]
theorem Red.one_diag{n:Nat}{A P:M}(h:Red je n A n n P)(i:Nat)(hi:i<n):P i i=1:=by
 obtain⟨p,d,hp,JE⟩:=h.piv;obtain⟨_,_,h3,h4⟩:=hp i hi;have:=h4 i hi
 rwa [JE rfl i hi,zk rfl,h3 rfl] at this
theorem uT{n:Nat}{A:M}(h:Rk n n A n):∃ V,IsInv n A V:=by
 obtain⟨b,P,hr⟩:=Red.any n (beside n A) n;obtain rfl:=(eU hr.rk).unique h;exact⟨_,hr.inv⟩
def dR (P:M) (c b:Nat):Nat->Option Nat
  | 0=>J
  | q+1=>if P b c=0 then dR P c (b+1) q else O b
theorem nd{P:M}{c b q:Nat}(h:dR P c b q=J):∀ i,b<=i->i<b+q->P i c=0:=by
 induction q generalizing b with
 | zero=>intro i h1 h2;omega
 | succ q ih =>
  unfold dR at h;by_cases e:P b c=0
  ·rw [zk e] at h;intro i h1 h2;by_cases g:i=b
   ·rw [g];exact e
   ·exact ih h i za za
  ·rw [zl e] at h;cases h
theorem mB{P:M}{c b q i:Nat}(h:dR P c b q=O i):b<=i/\i<b+q/\P i c ≠ 0:=by
 induction q generalizing b with
 | zero=>cases h
 | succ q ih =>
  unfold dR at h;by_cases e:P b c=0
  ·rw [zk e] at h;have:=ih h;exact⟨za,za,this.2.2⟩
  ·rw [zl e] at h;cases h
   exact⟨D _,za,e⟩
def dt (n:Nat) (A:M):Nat->Nat × M
  | 0=>(0,A)
  | c+1=>match dR (dt n A c).2 c (dt n A c).1 (n-(dt n A c).1) with
    | none=>dt n A c
    | some i=>((dt n A c).1+1,clr (dt n A c).1 ((dt n A c).2 i c).inv (fun k=>K.mul (swp (dt n A c).1 i (dt n A c).2 k c) ((dt n A c).2 i c).inv) (swp (dt n A c).1 i (dt n A c).2))
theorem oD(n:Nat)(A:M)(c:Nat):Red je n A c (dt n A c).1 (dt n A c).2:=by
 induction c with
 | zero=>exact Red.start je n A
 | succ c ih =>
  have hr:=ih.rows;rw [dt];cases h:dR (dt n A c).2 c (dt n A c).1 (n-(dt n A c).1) with
  | none=>exact ih.skip fun i h1 h2=>nd h i h1 za
  | some i =>
   obtain⟨h1,h2,h3⟩:=mB h;exact ih.take1 h1 za h3
def nh (n m:Nat) (A:M):Nat:=(dt n A m).1
theorem lK(n m:Nat)(A:M):Rk n m A (nh n m A):=(oD n A m).rk
theorem fW{n m b:Nat}{A:M}(h:Rk n m A b):nh n m A=b:=(lK n m A).unique h
def lq (n:Nat) (A:M):Bool:=decide (nh n n A=n)
def bX (n:Nat) (A:M):M:=fun i j=>(dt n (beside n A) n).2 i (n+j)
theorem th(n:Nat)(A:M):lq n A=decide (nh n n A=n):=rfl
theorem fr{n:Nat}{A V:M}(h:IsInv n A V):lq n A=je:=zm (fW h.rk)
theorem IsInv.same{n:Nat}{A V W:M}(h:IsInv n A V)(e:∀ i j,i<n->j<n->V i j=W i j):IsInv n A W:=fun i j hi hj =>
 ⟨by rw [<- (h i j hi hj).1];exact bq (fun l hl=>(e i l hi hl).symm) fun _ _=>rfl,by rw [<- (h i j hi hj).2];exact bq (fun _ _=>rfl) fun l hl=>(e l j hl hj).symm⟩
theorem tX:(1:K).inv=1:=by have:=K.mul_inv K.one_ne_zero;rwa [K.one_mul] at this
theorem sR{n:Nat}{A:M}(h:lq n A=je):IsInv n A (bX n A):=by
 have hr:=oD n (beside n A) n;have e:(dt n (beside n A) n).1=n:=(eU hr.rk).unique (by have:=lK n n A;rwa [of_decide_eq_true h] at this);rw [e] at hr;exact hr.inv.same fun i j hi _=>by rw [hr.one_diag i hi,tX,K.mul_one];rfl
theorem oP{n:Nat}{A V:M}(h:IsInv n A V)(i j:Nat)(hi:i<n)(hj:j<n):V i j=bX n A i j :=
 (sR (fr h)).unique (fun i j hi hj=>(h i j hi hj).1) i j hi hj
theorem ub{k:Nat}{A:M}(h:∀ u:Nat->K,(∀ t,t<k->sum k (fun l=>(K.mul (A t l) (u l)))=0)->∀ l,l<k->u l=0):Rk k k A k:=by
 obtain⟨b,P,hr⟩:=Red.any k (turn A) k;have Sp:=hr.rk.turn;have hb:=hr.rows;by_cases e:b=k
 ·rw [e] at Sp;exact Sp
 ·exfalso
  obtain⟨E,F,hE⟩:=hr.by_;have hz:=h (fun l=>E (k-1) l) fun t ht=>by
   have:=hr.zero (k-1) za za t ht;rw [hE.is (k-1) t za] at this;rw [<- this];exact aT fun l _=>K.mul_comm _ _
  have e3:=hE.ef (k-1) (k-1) za za;rw [cX] at e3;exact K.one_ne_zero (e3.symm.trans (dA fun l hl=>by rw [hz l hl,K.zero_mul]))
def Poly:Nat->(K->K)->Prop
  | 0,f=>∀ x,f x=0
  | k+1,f=>∃ g:K->K,∃ c:K,Poly k g/\∀ x,f x=(K.add c (K.mul x (g x)))
theorem Poly.congr{k:Nat}{f g:K->K}(h:Poly k f)(e:∀ x,f x=g x):Poly k g:=by
 cases k with
 | zero=>exact fun x=>by rw [<- e x];exact h x
 | succ k =>
  obtain⟨g',c,h1,h2⟩:=h;exact⟨g',c,h1,fun x=>by rw [<- e x];exact h2 x⟩
theorem Poly.nil(k:Nat):Poly k (fun _=>0):=by
 induction k with
 | zero=>exact fun _=>rfl
 | succ k ih=>exact⟨_,0,ih,fun x=>by rw [K.mul_zero,K.add_zero]⟩
theorem Poly.step(k:Nat)(g:K->K)(c:K)(h:Poly k g):Poly (k+1) (fun x=>(K.add c (K.mul x (g x)))):=⟨g,c,h,fun _=>rfl⟩
theorem Poly.add{k:Nat}{f g:K->K}(hf:Poly k f)(hg:Poly k g):Poly k (fun x=>(K.add (f x) (g x))):=by
 induction k generalizing f g with
 | zero=>exact fun x=>by simp only [hf x,hg x];exact K.add_zero 0
 | succ k ih =>
  obtain⟨f',c,h1,h2⟩:=hf;obtain⟨g',d,h3,h4⟩:=hg;refine⟨fun x=>(K.add (f' x) (g' x)),(K.add c d),ih h1 h3,fun x=>?_⟩;simp only [h2 x,h4 x,K.mul_add]
  (have:=K.aA;have:=K.cA;have:=K.aM;have:=K.cM;ac_rfl)
theorem Poly.scale{k:Nat}{f:K->K}(c:K)(hf:Poly k f):Poly k (fun x=>(K.mul c (f x))):=by
 induction k generalizing f with
 | zero=>exact fun x=>by simp only [hf x];exact K.mul_zero c
 | succ k ih =>
  obtain⟨f',d,h1,h2⟩:=hf;refine⟨fun x=>(K.mul c (f' x)),(K.mul c d),ih h1,fun x=>?_⟩;simp only [h2 x,K.mul_add];congr 1
  (have:=K.aA;have:=K.cA;have:=K.aM;have:=K.cM;ac_rfl)
theorem Poly.more{k:Nat}{f:K->K}(hf:Poly k f):Poly (k+1) f:=by
 induction k generalizing f with
 | zero=>exact(Poly.nil 1).congr fun x=>(hf x).symm
 | succ k ih =>
  obtain⟨f',d,h1,h2⟩:=hf;exact⟨f',d,ih h1,h2⟩
theorem Poly.times{k:Nat}{f:K->K}(c:K)(hf:Poly k f):Poly (k+1) (fun x=>(K.mul (f x) ((K.add x c)))):=by
 refine((Poly.step k f 0 hf).add (hf.scale c).more).congr fun x=>?_;rw [K.zero_add,K.mul_add,K.mul_comm x,K.mul_comm c]
theorem Poly.sums{k:Nat}(m:Nat)(f:Nat->K->K)(h:∀ j,j<m->Poly k (f j)):Poly k (fun x=>sum m fun j=>f j x):=by
 induction m with
 | zero=>exact Poly.nil k
 | succ m ih=>exact(ih fun j hj=>h j za).add (h m za)
theorem Poly.root{k:Nat}{f:K->K}(hf:Poly (k+1) f)(a:K):∃ g,Poly k g/\∀ x,(K.add (f x) (f a))=(K.mul ((K.add x a)) (g x)):=by
 induction k generalizing f with
 | zero =>
  obtain⟨h,c,h1,h2⟩:=hf;exact⟨fun _=>0,fun _=>rfl,fun x=>by rw [h2 x,h2 a,h1 x,h1 a,K.mul_zero,K.mul_zero,K.mul_zero,K.add_zero,K.add_self]⟩
 | succ k ih =>
  obtain⟨h,c,hh,h2⟩:=hf;obtain⟨g,hg,e⟩:=ih hh;refine⟨_,Poly.step k g (h a) hg,fun x=>?_⟩;have e1:h x=(K.add (h a) (K.mul ((K.add x a)) (g x))):=by rw [<- e x,K.add_comm (h x),<- K.add_assoc,K.add_self,K.zero_add]
  rw [h2 x,h2 a];show (K.add (K.add c (K.mul x (h x))) ((K.add c (K.mul a (h a)))))=(K.mul ((K.add x a)) ((K.add (h a) (K.mul x (g x)))))
  rw [show (K.add (K.add c (K.mul x (h x))) ((K.add c (K.mul a (h a)))))=(K.add (K.add c c) ((K.add (K.mul x (h x)) (K.mul a (h a))))) by (have:=K.aA;have:=K.cA;have:=K.aM;have:=K.cM;ac_rfl),K.add_self,K.zero_add,e1,K.mul_add,K.mul_add,K.add_mul x a (h a)];rw [show (K.mul x ((K.mul ((K.add x a)) (g x))))=(K.mul ((K.add x a)) ((K.mul x (g x)))) by (have:=K.aA;have:=K.cA;have:=K.aM;have:=K.cM;ac_rfl)]
  (have:=K.aA;have:=K.cA;have:=K.aM;have:=K.cM;ac_rfl)
theorem Poly.roots{k:Nat}{f:K->K}(hf:Poly k f)(a:Nat->K)(hz:∀ i,i<k->f (a i)=0)(hd:∀ i j,i<j->j<k->a i ≠ a j)(x:K):f x=0:=by
 induction k generalizing f with
 | zero=>exact hf x
 | succ k ih =>
  obtain⟨g,hg,e⟩:=hf.root (a k);have e':∀ x,f x=(K.mul ((K.add x (a k))) (g x)):=fun x=>by rw [<- e x,hz k za,K.add_zero]
  rw [e' x,ih hg (fun i hi=>?_) (fun i j hi hj=>hd i j hi za),K.mul_zero];have:=hz i za;rw [e',K.mul_comm] at this;exact K.eq_zero_of_mul this (K.sub_ne (hd i k hi za))
def pr (X:Nat->K) (j:Nat):Nat->K->K
  | 0,_=>1
  | m+1,x=>if m=j then pr X j m x else (K.mul (pr X j m x) ((K.add x (X m))))
theorem Cq(X:Nat->K)(j m:Nat):Poly (m+1) (pr X j m)/\(j<m->Poly m (pr X j m)):=by
 induction m with
 | zero =>
  exact⟨(Poly.step 0 _ 1 (Poly.nil 0)).congr fun x=>by rw [K.mul_zero,K.add_zero];rfl,fun h=>absurd h (Nat.not_lt_zero _)⟩
 | succ m ih =>
  by_cases e:m=j
  ·have:pr X j (m+1)=pr X j m:=funext fun x=>zk e;rw [this];exact⟨ih.1.more,fun _=>ih.1⟩
  ·have:pr X j (m+1)=fun x=>(K.mul (pr X j m x) ((K.add x (X m)))):=funext fun x=>zl e;rw [this];exact⟨ih.1.times _,fun h=>(ih.2 za).times _⟩
theorem sC(X:Nat->K)(j l m:Nat)(hl:l<m)(hj:l ≠ j):pr X j m (X l)=0:=by
 induction m with
 | zero=>omega
 | succ m ih =>
  show (if m=j then _ else _)=_;by_cases e:m=l
  ·subst e;rw [zl hj,K.add_self,K.mul_zero]
  ·rw [ih za,K.zero_mul];split <;> rfl
theorem uW(X:Nat->K)(j m:Nat)(x:K)(h:∀ i,i<m->i ≠ j->x ≠ X i):pr X j m x ≠ 0:=by
 induction m with
 | zero=>exact K.one_ne_zero
 | succ m ih =>
  show (if m=j then _ else _) ≠ _;split
  ·exact ih fun i hi=>h i za
  ·rename_i e
   exact K.mul_ne_zero (ih fun i hi=>h i za) (K.sub_ne (h m za e))
theorem Cd(X:Nat->K)(j m:Nat)(x:K)(hj:j<m):(K.mul (pr X j m x) ((K.add x (X j))))=pr X m m x:=by
 have Sq:∀ q m',m'<=q->∀ q',m'<=q'->pr X q m' x=pr X q' m' x:=by
  intro q m';induction m' with
  | zero=>intro _ _ _;rfl
  | succ m' ih =>
   intro h1 q' h2;show (if m'=q then _ else _)=(if m'=q' then _ else _)
   rw [zl za,zl za,ih za q' za]
 induction m with
 | zero=>omega
 | succ m ih =>
  show (K.mul (if m=j then _ else _) _)=(if m=m+1 then _ else _)
  rw [zl (show ¬ m=m+1 by omega)];by_cases e:m=j
  ·subst e;rw [zk rfl,Sq m m (D _) (m+1) za]
  ·rw [zl e,Sq (m+1) m za m (D _),<- ih za];(have:=K.aA;have:=K.cA;have:=K.aM;have:=K.cM;ac_rfl)
def cau (k:Nat):M:=fun i j=>((K.add (K.of (k+i)) (K.of j))).inv
def gen (k:Nat):M:=fun p j=>if p<k then one p j else cau k (p-k) j
theorem pD{a b:Nat}(ha:a<256)(hb:b<256)(h:K.of a=K.of b):a=b:=by rw [<- K.of_n a ha,<- K.of_n b hb,h]
theorem DJ(k m:Nat)(R:Nat->Nat)(hm:m<=256)(hR:∀ t,t<k->R t<m)(hd:∀ i j,i<j->j<k->R i ≠ R j)(hk:k<=256):Rk k k (fun t j=>gen k (R t) j) k:=by
 refine ub fun u hu l hl=>?_;have hX:∀ i j,i<256->j<256->i ≠ j->K.of i ≠ K.of j:=fun i j hi hj f9 e=>f9 (pD hi hj e);have hN:Poly k (fun x=>sum k fun j=>(K.mul (u j) (pr K.of j k x))):=Poly.sums k _ fun j hj=>((Cq K.of j k).2 hj).scale _;have hz:∀ x,(sum k fun j=>(K.mul (u j) (pr K.of j k x)))=0:=fun x=>by
  refine hN.roots (fun t=>K.of (R t)) (fun t ht=>?_) (fun i j hi hj=>hX _ _ (by have:=hR i za;omega) (by have:=hR j hj;omega) (hd i j hi hj)) x;have hut:=hu t ht;have Yn:=hR t ht;by_cases g:R t<k
  ·have e1:u (R t)=0:=by
    have:sum k (fun l=>(K.mul (gen k (R t) l) (u l)))=u (R t):=by
     rw [eO g fun l _ f9=>by rw [gen,zk g,gV (Ne.symm f9),K.zero_mul],gen,zk g,cX,K.one_mul]
    rw [<- this];exact hut
   exact dA fun j hj=>by
    by_cases e:j=R t
    ·rw [e,e1,K.zero_mul]
    ·rw [sC K.of j (R t) k g (Ne.symm e),K.mul_zero]
  ·have e2:(sum k fun j=>(K.mul (u j) (pr K.of j k (K.of (R t)))))=(K.mul (pr K.of k k (K.of (R t))) (sum k (fun l=>(K.mul (gen k (R t) l) (u l))))):=by
    refine Eq.trans ?_ (eR k _ _);refine aT fun j hj=>?_;have f9:(K.add (K.of (R t)) (K.of j)) ≠ 0:=K.sub_ne (hX _ _ za za za);rw [gen,zl g,cau,show k+(R t-k)=R t by omega,<- Cd K.of j k _ hj,K.mul_assoc,<- K.mul_assoc ((K.add (K.of (R t)) (K.of j))),K.mul_inv f9,K.one_mul,K.mul_comm]
   show (sum k fun j=>(K.mul (u j) (pr K.of j k (K.of (R t)))))=0;rw [e2,hut,K.mul_zero]
 have e3:=hz (K.of l);rw [eO hl fun j _ f9=>by rw [sC K.of j l k hl (Ne.symm f9),K.mul_zero]] at e3;exact K.eq_zero_of_mul e3 (uW K.of l k _ fun i hi f9=>hX _ _ za za (Ne.symm f9))
end Go.Proofs.YtemlojjkokooeaaGreat.Cod
namespace Go.Proofs.YtemlojjkokooeaaGreat.Cod
open Go.RowKit
structure Keeps (B T:Nat) (w w':World):Prop where
  os:w'.os=w.os
  tape:w'.tape=w.tape
  output:w'.output=w.output
  size:w.heap.size<=w'.heap.size
  block:∀ k,k<w.heap.size->k<B\/T<=k->w'.heap[k]? = w.heap[k]?
theorem Keeps.refl(B T:Nat)(w:I):Keeps B T w w:=⟨rfl,rfl,rfl,D _,fun _ _ _=>rfl⟩
theorem Keeps.trans{B T:Nat}{a b c:I}(h:Keeps B T a b)(k:Keeps B T b c):Keeps B T a c :=
 ⟨k.os.trans h.os,k.tape.trans h.tape,k.output.trans h.output,Nat.le_trans h.size k.size,fun i hi hg=>(k.block i (Nat.lt_of_lt_of_le hi h.size) hg).trans (h.block i hi hg)⟩
theorem Keeps.drew{B T:Nat}{a w:I}(h:Keeps B T a w):Keeps B T a w.drew:=⟨h.os,h.tape,h.output,h.size,h.block⟩
theorem Keeps.drewN{B T:Nat}{a w:I}(h:Keeps B T a w)(n:Nat):Keeps B T a (w.drewN n):=⟨h.os,h.tape,h.output,h.size,h.block⟩
theorem Keeps.alloc{B T:Nat}{a w:I}(h:Keeps B T a w)(o:Obj):Keeps B T a (w.alloc o) :=
 h.trans ⟨rfl,rfl,rfl,zi,fun k hk _=>Below.heap_alloc _ _ _ hk⟩
theorem Keeps.setCell{B T g:Nat}{a w:I}(h:Keeps B T a w)(h1:B<=g)(h2:g<T)(i:Nat)(u:jd):Keeps B T a (w.setCell ⟨g,i,J⟩ u) :=
 h.trans ⟨rfl,rfl,rfl,by simp [World.setCell],fun k _ hg=>Below.heap_setCell _ _ _ _ zj⟩
theorem Keeps.of_below{B T:Nat}{w w':I}(h:b7 w w'):Keeps B T w w':=⟨h.os,h.tape,h.output,h.size,fun k hk _=>h.block k hk⟩
theorem Keeps.below{B T C:Nat}{w w':I}(h:Keeps B T w w')(hB:C<=w.heap.size)(hg:C<=B):jb C w w' :=
 ⟨h.os,h.tape,h.output,h.size,fun k hk=>h.block k za (.inl za)⟩
theorem Keeps.mono{B T B' T':Nat}{w w':I}(h:Keeps B T w w')(h1:B'<=B)(h2:T<=T'):Keeps B' T' w w' :=
 ⟨h.os,h.tape,h.output,h.size,fun k hk hg=>h.block k hk za⟩
theorem Keeps.cell{B T:Nat}{w w':I}(h:Keeps B T w w'){a:jg}{v:jd}(hc:w.cell? a=O v)(ha:a.block<B\/T<=a.block):w'.cell? a=O v :=
 (World.cell?_of_block (h.block a.block (World.block_lt_of_cell? w a hc) ha)).trans hc
theorem ag{B:Nat}{a b c:I}(h:jb B a b)(k:b7 b c)(hB:B<=b.heap.size):jb B a c:=h.trans (k.mono hB)
theorem bdw(B:Nat)(w:I):jb B w w.drew:=⟨rfl,rfl,rfl,D _,fun _ _=>rfl⟩
theorem below_drewN(B:Nat)(w:I)(n:Nat):jb B w (w.drewN n):=⟨rfl,rfl,rfl,D _,fun _ _=>rfl⟩
def Rd (w:I) (ao:Option jg) (n:Nat) (f:Nat->K):Prop :=
  0<n->∃ b off,ao=O ⟨b,off,J⟩/\∀ i,i<n->w.cell? ⟨b,off+i,J⟩=O (.int .u8 ((f i).n:Int))
theorem Rd.below{w w':I}{ao:Option jg}{n:Nat}{f:Nat->K}(h:Rd w ao n f)(ho:b7 w w'):Rd w' ao n f:=by
 intro hn;obtain⟨b,off,rfl,hc⟩:=h hn;exact⟨b,off,rfl,fun i hi=>(ho.cell (World.block_lt_of_cell? w _ (hc i hi))).trans (hc i hi)⟩
def Own (w:I) (g n u:Nat) (f:Nat->K):Prop :=
  n<=u/\u<=maxLen/\∃ h:Nat->jd,w.rowIs g 5 u h/\∀ i,i<n->h i=.int .u8 ((f i).n:Int)
theorem Own.cell{w:I}{g n u:Nat}{f:Nat->K}(h:Own w g n u f){i:Nat}(hi:i<n):w.cell? ⟨g,i,J⟩=O (Z jh ((f i).n:Int)):=by
 obtain⟨h1,_,c,hr,hc⟩:=h;rw [hr.cell za,hc i hi]
theorem Own.frozen{w:I}{g n u:Nat}{f:Nat->K}(h:Own w g n u f)(i:Nat):w.frozen? ⟨g,i,J⟩=jj:=by
 obtain⟨h1,_,c,hr,hc⟩:=h;exact hr.frozen i
theorem Own.lt{w:I}{g n u:Nat}{f:Nat->K}(h:Own w g n u f):g<w.heap.size:=by
 obtain⟨_,_,c,hr,hc⟩:=h;exact hr.lt
theorem Own.rd{w:I}{g n u:Nat}{f:Nat->K}(h:Own w g n u f):Rd w (O ⟨g,0,J⟩) n f :=
 fun _=>⟨g,0,rfl,fun i hi=>by rw [Nat.zero_add];exact h.cell hi⟩
theorem Own.of_block{w w':I}{g n u:Nat}{f:Nat->K}(h:Own w g n u f)(hb:w'.heap[g]? = w.heap[g]?):Own w' g n u f:=by
 obtain⟨h1,h2,c,hr,hc⟩:=h;exact⟨h1,h2,c,hr.of_block hb,hc⟩
theorem Own.below{w w':I}{g n u:Nat}{f:Nat->K}(h:Own w g n u f)(ho:b7 w w'):Own w' g n u f:=h.of_block (ho.block g h.lt)
theorem Own.keeps{B T:Nat}{w w':I}{g n u:Nat}{f:Nat->K}(h:Own w g n u f)(ho:Keeps B T w w')(hg:g<B\/T<=g):Own w' g n u f:=h.of_block (ho.block g h.lt hg)
theorem Own.congr{w:I}{g n u:Nat}{f f':Nat->K}(h:Own w g n u f)(e:∀ i,i<n->f i=f' i):Own w g n u f':=by
 obtain⟨h1,h2,c,hr,hc⟩:=h;exact⟨h1,h2,c,hr,fun i hi=>by rw [hc i hi,e i hi]⟩
theorem Own.set{w:I}{g n u:Nat}{f:Nat->K}(h:Own w g n u f)(k:Nat)(x:K):Own (w.setCell ⟨g,k,J⟩ (Z jh (x.n:Int))) g n u (fun i=>if i=k then x else f i):=by
 obtain⟨h1,h2,c,hr,hc⟩:=h;refine⟨h1,h2,_,hr.set k _,fun i hi=>?_⟩;by_cases e:i=k
 ·simp only [e,if_true]
 ·simp only [e,if_false];exact hc i hi
def upto {α:Type} (k:Nat) (f h:Nat->α) (i:Nat):α:=if i<k then f i else h i
theorem bR{α:Type}(f h:Nat->α):upto 0 f h=h:=by funext i;simp [upto]
theorem fI{α:Type}(k:Nat)(f h:Nat->α):upto k f h k=h k:=by simp [upto]
theorem eI{α:Type}(k:Nat)(f h:Nat->α)(i:Nat):upto (k+1) f h i=if i=k then f k else upto k f h i:=by
 unfold upto;by_cases h1:i=k
 ·subst h1;simp
 ·rw [zl h1];by_cases h2:i<k
  ·rw [zk za,zk h2]
  ·rw [zl za,zl h2]
theorem Own.store{w:I}{g n u k:Nat}{f h:Nat->K}(r:Own w g n u (upto k f h)):Own (w.setCell ⟨g,k,J⟩ (Z jh ((f k).n:Int))) g n u (upto (k+1) f h) :=
 (r.set k (f k)).congr fun i _=>(eI k f h i).symm
theorem Own.all{w:I}{g n u:Nat}{f h:Nat->K}(r:Own w g n u (upto n f h)):Own w g n u f:=r.congr fun i hi=>by simp [upto,hi]
structure Mat (w:World) (B T l cl rows cols:Nat) (G U:Nat->Nat) (H:M):Prop where
  lst:∃ h:Nat->Value,w.rowIs l 36 cl h/\∀ i,i<rows->h i=.slice (some ⟨G i,0,none⟩) cols (U i)
  room:rows<=cl
  row:∀ i,i<rows->Own w (G i) cols (U i) (H i)
  lo:B<=l
  hi:l<T
  los:∀ i,i<rows->B<=G i
  his:∀ i,i<rows->G i<T
  apart:∀ i j,i<rows->j<rows->i ≠ j->G i ≠ G j
theorem Mat.cell_l{w:I}{B T l cl rows cols:Nat}{G U:Nat->Nat}{H:M}(h:Mat w B T l cl rows cols G U H){i:Nat}(hi:i<rows):w.cell? ⟨l,i,J⟩=O (Q (O ⟨G i,0,J⟩) cols (U i)):=by
 obtain⟨c,hr,hc⟩:=h.lst;rw [hr.cell (Nat.lt_of_lt_of_le hi h.room),hc i hi]
theorem Mat.frozen_l{w:I}{B T l cl rows cols:Nat}{G U:Nat->Nat}{H:M}(h:Mat w B T l cl rows cols G U H)(i:Nat):w.frozen? ⟨l,i,J⟩=jj:=by
 obtain⟨c,hr,hc⟩:=h.lst;exact hr.frozen i
theorem AA{w:I}{g g' n n':Nat}{f f':Nat->jd}{e e':Nat}(h:w.rowIs g e n f)(h':w.rowIs g' e' n' f')(he:e ≠ e'):g ≠ g':=by
 rintro rfl;obtain⟨c,h1,_⟩:=h;obtain⟨c',h2,_⟩:=h';rw [h1] at h2;cases h2
 exact he rfl
theorem Mat.ne_l{w:I}{B T l cl rows cols:Nat}{G U:Nat->Nat}{H:M}(h:Mat w B T l cl rows cols G U H){i:Nat}(hi:i<rows):G i ≠ l:=by
 obtain⟨c,hr,_⟩:=h.lst;obtain⟨_,_,c',PE,_⟩:=h.row i hi;exact AA PE hr zb
theorem Mat.lt_l{w:I}{B T l cl rows cols:Nat}{G U:Nat->Nat}{H:M}(h:Mat w B T l cl rows cols G U H):l<w.heap.size:=by
 obtain⟨c,hr,_⟩:=h.lst;exact hr.lt
theorem Mat.congr{w:I}{B T l cl rows cols:Nat}{G U:Nat->Nat}{H H':M}(h:Mat w B T l cl rows cols G U H)(e:∀ i j,i<rows->j<cols->H i j=H' i j):Mat w B T l cl rows cols G U H' :=
 ⟨h.lst,h.room,fun i hi=>(h.row i hi).congr fun j hj=>e i j hi hj,h.lo,h.hi,h.los,h.his,h.apart⟩
theorem Mat.blocks{w w':I}{B T l cl rows cols:Nat}{G U:Nat->Nat}{H:M}(h:Mat w B T l cl rows cols G U H)(hl:w'.heap[l]? = w.heap[l]?)(hg:∀ i,i<rows->w'.heap[G i]? = w.heap[G i]?):Mat w' B T l cl rows cols G U H:=by
 obtain⟨c,hr,hc⟩:=h.lst;exact⟨⟨c,hr.of_block hl,hc⟩,h.room,fun i hi=>(h.row i hi).of_block (hg i hi),h.lo,h.hi,h.los,h.his,h.apart⟩
theorem Mat.below{w w':I}{B T l cl rows cols:Nat}{G U:Nat->Nat}{H:M}(h:Mat w B T l cl rows cols G U H)(hb:b7 w w'):Mat w' B T l cl rows cols G U H :=
 h.blocks (hb.block l h.lt_l) fun i hi=>hb.block (G i) (h.row i hi).lt
theorem Mat.put{w w':I}{B T l cl rows cols:Nat}{G U:Nat->Nat}{H:M}{k:Nat}{f:Nat->K}(h:Mat w B T l cl rows cols G U H)(hk:k<rows)(ho:Own w' (G k) cols (U k) f)(hb:Keeps (G k) (G k+1) w w'):
  Mat w' B T l cl rows cols G U (fun i=>if i=k then f else H i):=by
 obtain⟨c,hr,hc⟩:=h.lst;have f9:=h.ne_l hk;refine⟨⟨c,hr.of_block (hb.block l h.lt_l za),hc⟩,h.room,fun i hi=>?_,h.lo,h.hi,h.los,h.his,h.apart⟩;by_cases e:i=k
 ·subst e;rw [zk rfl];exact ho
 ·rw [zl e];have:=h.apart i k hi hk e;exact(h.row i hi).keeps hb za
def dD {α:Type} (b i0:Nat) (f:Nat->α) (i:Nat):α:=if i=b then f i0 else if i=i0 then f b else f i
theorem vK(b i0:Nat)(X:M):swp b i0 X=dD b i0 X:=rfl
theorem uV{b i0 i j:Nat}:dD b i0 (fun x=>x) i=dD b i0 (fun x=>x) j->i=j:=by
 unfold dD;intro h;by_cases a1:i=b <;> by_cases a2:j=b <;> by_cases a3:i=i0 <;> by_cases a4:j=i0 <;> simp_all
theorem dL{α:Type}(b i0:Nat)(f:Nat->α)(i:Nat):dD b i0 f i=f (dD b i0 (fun x=>x) i):=by
 unfold dD;split
 ·rfl
 ·split <;> rfl
theorem fu{b i0 i n:Nat}(hb:b<n)(h0:i0<n)(hi:i<n):dD b i0 (fun x=>x) i<n:=by
 unfold dD;split
 ·exact h0
 ·split
  ·exact hb
  ·exact hi
theorem Mat.swap{w:I}{B T l cl rows cols:Nat}{G U:Nat->Nat}{H:M}{b i0:Nat}(h:Mat w B T l cl rows cols G U H)(hb:b<rows)(h0:i0<rows):
  Mat ((w.setCell ⟨l,b,J⟩ (Q (O ⟨G i0,0,J⟩) cols (U i0))).setCell ⟨l,i0,J⟩ (Q (O ⟨G b,0,J⟩) cols (U b))) B T l cl rows cols (dD b i0 G) (dD b i0 U) (swp b i0 H):=by
 obtain⟨c,hr,hc⟩:=h.lst;have hk:∀ i,i<rows->((w.setCell ⟨l,b,J⟩ (Q (O ⟨G i0,0,J⟩) cols (U i0))).setCell ⟨l,i0,J⟩ (Q (O ⟨G b,0,J⟩) cols (U b))).heap[G i]? = w.heap[G i]?:=fun i hi=>by
  have:=h.ne_l hi;rw [Below.heap_setCell _ _ _ _ (by simpa using this),Below.heap_setCell _ _ _ _ (by simpa using this)]
 refine⟨⟨_,(hr.set b _).set i0 _,fun i hi=>?_⟩,h.room,fun i hi=>?_,h.lo,h.hi,fun i hi=>?_,fun i hi=>?_,fun i j hi hj f9=>?_⟩
 ·show (if i=i0 then _ else if i=b then _ else c i)=_;unfold dD;by_cases e1:i=i0
  ·subst e1;rw [zk rfl];by_cases e2:i=b
   ·subst e2;rw [zk rfl,zk rfl]
   ·rw [zl e2,zl e2,zk rfl,zk rfl]
  ·rw [zl e1];by_cases e2:i=b
   ·rw [zk e2,zk e2,zk e2]
   ·rw [zl e2,zl e2,zl e2,zl e1,zl e1];exact hc i hi
 ·have hx:=fu hb h0 hi;rw [vK,dL b i0 G,dL b i0 U,dL b i0 H];exact(h.row _ hx).of_block (hk _ hx)
 ·rw [dL];exact h.los _ (fu hb h0 hi)
 ·rw [dL];exact h.his _ (fu hb h0 hi)
 ·rw [dL b i0 G i,dL b i0 G j];exact h.apart _ _ (fu hb h0 hi) (fu hb h0 hj) fun e=>f9 (uV e)
structure Lst (w:World) (lo:Option Addr) (ll:Nat) (A:Nat->Option Addr) (C L:Nat->Nat) (H:M):Prop where
  rd:∀ i,i<ll->Rd w (A i) (L i) (H i)
  at_:0<ll->∃ b off,lo=some ⟨b,off,none⟩/\∀ i,i<ll->w.cell? ⟨b,off+i,none⟩=some (.slice (A i) (L i) (C i))
theorem Lst.below{w w':I}{lo:Option jg}{ll:Nat}{A:Nat->Option jg}{C L:Nat->Nat}{H:M}(h:Lst w lo ll A C L H)(hb:b7 w w'):Lst w' lo ll A C L H:=by
 refine⟨fun i hi=>(h.rd i hi).below hb,fun hp=>?_⟩;obtain⟨b,off,rfl,hc⟩:=h.at_ hp;exact⟨b,off,rfl,fun i hi=>(hb.cell (World.block_lt_of_cell? w _ (hc i hi))).trans (hc i hi)⟩
theorem Mat.lst_{w:I}{B T l cl rows cols:Nat}{G U:Nat->Nat}{H:M}(h:Mat w B T l cl rows cols G U H):Lst w (O ⟨l,0,J⟩) rows (fun i=>O ⟨G i,0,J⟩) U (fun _=>cols) H :=
 ⟨fun i hi=>(h.row i hi).rd,fun _=>⟨l,0,rfl,fun i hi=>by rw [Nat.zero_add];exact h.cell_l hi⟩⟩
def dS (b:Bool) (n:Nat):Nat:=if b then n else 0
def dE (b:Bool) (e:Int):Int:=if b then 0 else e
def Ans (w w':I) (ao:Option jg) (n b8 cols:Nat) (H:M):Prop :=
  (ao=J/\n=0/\b8=0)\/∃ l G U,ao=O ⟨l,0,J⟩/\Mat w' w.heap.size w'.heap.size l b8 n cols G U H
def Made (w:I) (ok:Bool) (err:Int) (n cols:Nat) (H:M) (e:Ending) (w':I):Prop :=
  ∃ ao b8,e=.returned (.tuple #[.slice ao (dS ok n) b8,.int .i64 (dE ok err)])/\Ans w w' ao (dS ok n) b8 cols H/\b7 w w'
theorem Dn(a b:K)(w:I):jf N 328 #[Z jh (a.n:Int),Z jh (b.n:Int)] w fun e w'=>e=ja (Z jh (((K.add a b)).n:Int))/\w'=w:=Dw a.n b.n w a.lt b.lt
theorem mul_k(a b:K)(w:I):jf N 348 #[Z jh (a.n:Int),Z jh (b.n:Int)] w fun e w'=>e=ja (Z jh (((K.mul a b)).n:Int))/\w'=w:=Dx a.n b.n w a.lt b.lt
theorem Dy(a:K)(w:I)(h:a ≠ 0):jf N 327 #[Z jh (a.n:Int)] w fun e w'=>e=ja (jn #[Z jh (a.inv.n:Int),Z y 0])/\w'=w:=inv_n a.n w a.lt (K.ne_zero h)
def plus (f:Nat->K) (c:K) (h:Nat->K) (i:Nat):K:=(K.add (f i) (K.mul c (h i)))
theorem vI(w:I)(g q n u v:Nat)(c:K)(f h:Nat->K)(hn:n<=1000)(hf:Own w g n u f)(hh:Own w q n v h)(f9:g ≠ q):
  jf N 354 #[Q (O ⟨g,0,J⟩) n u,Z jh (c.n:Int),Q (O ⟨q,0,J⟩) n v] w fun e w'=>e=ja (jn #[])/\Own w' g n u (plus f c h)/\Keeps g (g+1) w w':=by
 have HF:=am hf;have HH:=am hh;clear hf hh;go_enter Tryz.func354,Tryz.ntmps354
 go_wp2;go_loopw [10] (fun i wr=>∃ k:Nat,k<=n/\i=Z y k/\jc (Own wr g n u (upto k (plus f c h) f))/\jc (Keeps g (g+1) w wr)) (fun i _=>n-(intOf i).toNat)
 case atStart=>exact⟨0,ji _,rfl,by rw [bR];exact HF.out,Keeps.refl _ _ _⟩
 case round =>
  obtain⟨k,hk,rfl,em,i8⟩:=hrel;by_cases hlt:k<n
  ·have c1:wr.cell? ⟨g,k,J⟩=O (Z jh ((f k).n:Int)):=by have:=em.out.cell hlt;rwa [fI] at this
   have c2:wr.cell? ⟨q,k,J⟩=O (Z jh ((h k).n:Int)):=(HH.out.keeps i8.out za).cell hlt;have z1:=em.out.frozen k;have i1:(0:Int)<=(k:Int):=za;have i2:(k:Int)<(n:Int):=za;go_wp2;refine wp_region_still_tail 11 zh zh ?_;simp only [List.take_succ_cons,List.take_zero,List.drop_succ_cons,List.drop_zero]
   repeat still_step
   still_call (mul_k c (h k) _)
   still_call (Dn (f k) ((K.mul c (h k))) _)
   repeat still_step
   refine wpStill_nil ?_;go_wp2;go_roundw
   case rel=>exact⟨k+1,za,by go_num,em.out.store (f:=plus f c h),(i8.out.setCell (D _) za k _).drew⟩
   case measure=>simp [intOf];omega
  ·obtain rfl:k=n:=za;go_wp2;go_end0
   exact⟨rfl,em.out.all,i8.out⟩
def scl (c:K) (f:Nat->K) (i:Nat):K:=(K.mul c (f i))
def ee (b:Nat) (R:Nat->K) (c k:Nat) (H:M) (i:Nat):Nat->K:=if i=b then R else if i<k then plus (H i) (H i c) R else H i
theorem rz(w:I)(B T l cl rows cols b c:Nat)(G U:Nat->Nat)(H:M)(hr:rows<=1000)(hc:cols<=1000)(hb:b<rows)(jI:c<cols)(hm:Mat w B T l cl rows cols G U H)(f9:H b c ≠ 0):
  jf N 347 #[Q (O ⟨l,0,J⟩) rows cl,Z y (b:Int),Z y (c:Int)] w fun e w'=>e=ja (jn #[])/\Mat w' B T l cl rows cols G U (clr b (H b c).inv (fun i=>(K.mul (H i c) ((H b c).inv))) H)/\Keeps B T w w':=by
 have HM:=am hm;have c1:=hm.cell_l hb;have c2:=(hm.row b hb).cell jI;have JG:=hm.ne_l hb;obtain⟨S,hS⟩:=fd ((H b c).inv)
 have PF:jc (∀ w,jf N 327 #[Z jh ((H b c).n:Int)] w fun e w'=>e=ja (jn #[Z jh (S.n:Int),Z y 0])/\w'=w):=by rw [hS];exact fun w=>Dy _ w f9
 rw [<- hS];obtain⟨R,hR⟩:=fd (scl S (H b))
 have HR:=am hR;clear hm f9 hS hR;have i1:(0:Int)<=(b:Int):=za;have i2:(b:Int)<(rows:Int):=za;have i3:(0:Int)<=(c:Int):=za;have i4:(c:Int)<(cols:Int):=za;go_enter Tryz.func347,Tryz.ntmps347
 go_wp2_with fail
 refine(PF.out w).mono ?_;rintro e w' ⟨rfl,g8⟩;obtain rfl:=g8.symm;go_wp2_with fail
 go_loopw [28] (fun i wr=>∃ k:Nat,k<=cols/\i=Z y k/\jc (Own wr (G b) cols (U b) (upto k R (H b)))/\jc (Keeps (G b) (G b+1) w wr)) (fun i _=>cols-(intOf i).toNat)
 case atStart=>exact⟨0,ji _,rfl,by rw [bR];exact HM.out.row b hb,Keeps.refl _ _ _⟩
 case round =>
  obtain⟨k,hk,rfl,em,i8⟩:=hrel;have d1:wr.cell? ⟨l,b,J⟩=_:=i8.out.cell c1 (by simp only;omega);by_cases hlt:k<cols
  ·have d2:wr.cell? ⟨G b,k,J⟩=O (Z jh ((H b k).n:Int)):=by have:=em.out.cell hlt;rwa [fI] at this
   have z1:=em.out.frozen k;have VR:jc ((K.mul S (H b k))=R k):=by rw [HR.out];rfl
   have i5:(0:Int)<=(k:Int):=za;have i6:(k:Int)<(cols:Int):=za;go_wp2;refine wp_region_still_tail 9 zh zh ?_;simp only [List.take_succ_cons,List.take_zero,List.drop_succ_cons,List.drop_zero]
   repeat still_step
   still_call (mul_k S (H b k) _)
   repeat still_step
   refine wpStill_nil ?_;go_wp2;go_roundw
   case rel=>exact⟨k+1,za,by go_num,by rw [VR.out];exact em.out.store,(i8.out.setCell (D _) za k _).drew⟩
   case measure=>simp [intOf];omega
  ·obtain rfl:k=cols:=za;have yZ:=am (HM.out.put hb em.out.all i8.out);have E7:=am (i8.out.mono (HM.out.los b hb) (HM.out.his b hb));clear em i8;obtain⟨wm,rfl⟩:∃ x,x=wr:=⟨wr,rfl⟩
   go_wp2;go_loopw [45] (fun i wr=>∃ q:Nat,q<=rows/\i=Z y q/\jc (Mat wr B T l cl rows k G U (ee b R c q H))/\jc (Keeps B T w wr)) (fun i _=>rows-(intOf i).toNat)
   case atStart=>exact⟨0,ji _,rfl,yZ.out.congr (fun i j _ _=>by unfold ee;simp),E7.out⟩
   case round =>
    obtain⟨q,hq,rfl,jE,i8⟩:=hrel;by_cases hlt:q<rows
    ·have e1:=jE.out.cell_l hlt;have e2:=jE.out.cell_l hb;have e3:=(jE.out.row q hlt).cell jI;have i5:(0:Int)<=(q:Int):=za;have i6:(q:Int)<(rows:Int):=za;by_cases hqb:q=b
     ·subst hqb;have zM:((q:Int) != (q:Int))=jj:=zi;go_wp2;go_roundw
      case rel=>exact⟨q+1,za,by go_num,jE.out.congr (fun i j _ _=>by
       unfold ee;by_cases e:i=q
       ·simp [e]
       ·rw [zl e,zl e];by_cases e':i<q
        ·rw [zk e',zk za]
        ·rw [zl e',zl za]),i8.out⟩
      case measure=>simp [intOf];omega
     ·have zM:((q:Int) != (b:Int))=je:=zj;have JH:ee b R c q H q=H q:=by unfold ee;rw [zl hqb,zl za]
      have Gw:ee b R c q H b=R:=by unfold ee;rw [zk rfl]
      rw [JH] at e3;have HT:jc (jf N 354 #[Q (O ⟨G q,0,J⟩) k (U q),Z jh ((H q c).n:Int),Q (O ⟨G b,0,J⟩) k (U b)] wr.drew fun e w'=>e=ja (jn #[])/\Own w' (G q) k (U q) (plus (H q) (H q c) R)/\Keeps (G q) (G q+1) wr.drew w'):=by
       refine vI wr.drew (G q) (G b) k (U q) (U b) (H q c) (H q) R hc ?_ ?_ (jE.out.apart q b hlt hb hqb)
       ·have:=(jE.out.row q hlt).below (bdw _ wr)
        rwa [JH] at this
       ·have:=(jE.out.row b hb).below (bdw _ wr)
        rwa [Gw] at this
      have Pb:=am JH;clear JH Gw;go_wp2;refine wp_region_still_tail 9 zh zh ?_;simp only [List.take_succ_cons,List.take_zero,List.drop_succ_cons,List.drop_zero]
      repeat still_step
      refine wpStill_nil ?_;go_wp2_with (go_at_call 354;refine HT.out.mono ?_;rintro e w2 ⟨rfl,jF,li⟩)
      have Fk:jc (Mat w2 B T l cl rows k G U (ee b R c (q+1) H)):=((jE.out.below (bdw _ wr)).put hlt jF li).congr (fun i j _ _=>by
       unfold ee;by_cases e:i=q
       ·rw [zk e,e,zl hqb,zk za]
       ·rw [zl e];by_cases e':i=b
        ·rw [zk e',zk e']
        ·rw [zl e',zl e'];by_cases e'':i<q
         ·rw [zk e'',zk za]
         ·rw [zl e'',zl za])
      have F4:=am (i8.out.drew.trans (li.mono (jE.out.los q hlt) (jE.out.his q hlt)));clear jF li;go_roundw
      case rel=>exact⟨q+1,za,by go_num,Fk.out,F4.out⟩
      case measure=>simp [intOf];omega
    ·obtain rfl:q=rows:=za;go_wp2;go_end0
     refine⟨rfl,jE.out.congr (fun i j hi _=>?_),i8.out⟩;unfold ee clr;rw [HR.out];by_cases e:i=b
     ·rw [zk e,zk e];rfl
     ·rw [zl e,zl e,zk hi];show (K.add (H i j) (K.mul (H i c) ((K.mul S (H b j)))))=(K.add (H i j) (K.mul (K.mul (H i c) S) (H b j)))
      rw [K.mul_assoc]
theorem rV(w:I)(B T l cl rows cols C:Nat)(G U:Nat->Nat)(A:M)(hr:rows<=1000)(hc:cols<=1000)(hC:C<=cols)(hm:Mat w B T l cl rows cols G U A):
  jf N 336 #[Q (O ⟨l,0,J⟩) rows cl,Z y (C:Int)] w fun e w'=>∃ b P G U,e=ja (Z y ((b:Nat):Int))/\Red je rows A C b P/\Mat w' B T l cl rows cols G U P/\Keeps B T w w':=by
 have HM:=am hm;clear hm;go_enter Tryz.func336,Tryz.ntmps336
 go_wp2;go_step3
 go_wp2;go_step3
 go_wp2;go_loopg [5,9] C (fun g x i wr=>∃ c b:Nat,c+g=C/\b<=rows/\i=Z y c/\x=Z y b/\jc (∃ P G U,Red je rows A c b P/\Mat wr B T l cl rows cols G U P)/\jc (Keeps B T w wr))
 case atStart=>exact⟨0,0,za,ji _,rfl,rfl,⟨A,G,U,Red.start _ _ _,HM.out⟩,Keeps.refl _ _ _⟩
 case round =>
  obtain⟨c,b,VS,B4,rfl,rfl,hall,i8⟩:=hrel;cases gk with
  | zero =>
   have VT:¬ ((c:Int)<(C:Int)):=za;obtain rfl:c=C:=za;go_wp2
   try rw [Exit.noGoto_ret]
   go_ret;obtain⟨P,G,U,o6,jE⟩:=hall.out;exact⟨b,P,G,U,rfl,o6,jE,i8.out⟩
  | succ g =>
   have VT:(c:Int)<(C:Int):=za;obtain⟨P,G,U,o6,jE⟩:=hall.out;have qL:=am o6;have kj:=am jE
   clear hall o6 jE
   obtain⟨wm,rfl⟩:∃ x,x=wr:=⟨wr,rfl⟩
   go_wp2;go_loopg [7] (rows-b) (fun g x wr=>∃ j:Nat,j+g=rows/\b<=j/\x=Z y j/\wr=wm/\jc (∀ i,b<=i->i<j->P i c=0))
   case atStart=>exact⟨b,za,D _,rfl,rfl,fun i h1 h2=>by omega⟩
   case round =>
    obtain⟨j,Yo,PG,rfl,rfl,hz⟩:=hrel;cases gk with
    | zero =>
     obtain rfl:j=rows:=za;have zM:((j:Int) == (j:Int))=je:=zi;go_wp2;go_roundg g
     case rel=>exact⟨c+1,b,za,B4,by go_num,rfl,⟨P,G,U,qL.out.skip hz.out,kj.out⟩,i8.out⟩
     case measure=>omega
    | succ g' =>
     have hj:j<rows:=za;have e1:=kj.out.cell_l hj;have e2:=(kj.out.row j hj).cell (show c<cols by omega);have zM:((j:Int) == (rows:Int))=jj:=zj;have i1:(0:Int)<=(j:Int):=za;have i2:(j:Int)<(rows:Int):=za;have i3:(0:Int)<=(c:Int):=za;have i4:(c:Int)<(cols:Int):=za;by_cases hp:P j c=0
     ·have hn0:(((P j c).n:Int) != 0)=jj:=by rw [hp];rfl
      go_wp2;go_roundg g'
      case rel=>exact⟨j+1,za,za,by go_num,rfl,fun i h1 h2=>(Nat.lt_or_ge i j).elim (fun h=>hz.out i h1 h) (fun h=>by rw [show i=j by omega];exact hp)⟩
      case measure=>omega
     ·have hn0:(((P j c).n:Int) != 0)=je:=by have:=K.ne_zero hp;simp;omega
      have HP:=am hp;have hb:b<rows:=za;have e3:=kj.out.cell_l hb;have z1:=kj.out.frozen_l b;have z2:=kj.out.frozen_l j;have i5:(0:Int)<=(b:Int):=za;have i6:(b:Int)<(rows:Int):=za;clear hp;have z3:(wr.setCell ⟨l,b,J⟩ (Q (O ⟨G j,0,J⟩) cols (U j))).cell? ⟨l,j,J⟩=O (Q (O ⟨G j,0,J⟩) cols (U j)):=by
       obtain⟨h,hr,hh⟩:=kj.out.lst;rw [(hr.set b _).cell (i:=j) (Nat.lt_of_lt_of_le hj kj.out.room)];show O (if j=b then _ else h j)=_;split
       ·rfl
       ·rw [hh j hj]
      have HT:jc (jf N 347 #[Q (O ⟨l,0,J⟩) rows cl,Z y (b:Int),Z y (c:Int)] ((wr.setCell ⟨l,b,J⟩ (Q (O ⟨G j,0,J⟩) cols (U j))).setCell ⟨l,j,J⟩ (Q (O ⟨G b,0,J⟩) cols (U b))).drew fun e w'=>e=ja (jn #[])/\Mat w' B T l cl rows cols (dD b j G) (dD b j U) (clr b (P j c).inv (fun i=>(K.mul (swp b j P i c) ((P j c).inv))) (swp b j P))/\Keeps B T ((wr.setCell ⟨l,b,J⟩ (Q (O ⟨G j,0,J⟩) cols (U j))).setCell ⟨l,j,J⟩ (Q (O ⟨G b,0,J⟩) cols (U b))).drew w'):=by
       have I1:swp b j P b=P j:=zk rfl;have:=rz _ B T l cl rows cols b c _ _ _ hr hc hb za ((kj.out.swap hb hj).below (bdw _ _)) (by rw [I1];exact HP.out)
       rwa [I1] at this
      have VU:jc (Keeps B T w ((wr.setCell ⟨l,b,J⟩ (Q (O ⟨G j,0,J⟩) cols (U j))).setCell ⟨l,j,J⟩ (Q (O ⟨G b,0,J⟩) cols (U b))).drew) :=
       ((i8.out.setCell kj.out.lo kj.out.hi b _).setCell kj.out.lo kj.out.hi j _).drew
      go_wp2;go_region
      go_wp2_with (go_at_call 347;refine HT.out.mono ?_;rintro e w2 ⟨rfl,kr,li⟩)
      have Fk:=am kr;have F4:=am (VU.out.trans li);clear kr li;go_roundg g
      case rel=>exact⟨c+1,b+1,za,hb,by go_num,by go_num,⟨_,_,_,qL.out.take1 PG hj HP.out,Fk.out⟩,F4.out⟩
      case measure=>omega
theorem bU:(Tryz.prog.info? 5).map (fun i=>(i.zero,i.size,i.bytes))=O (O (Z jh 0),1,1):=zh
theorem info34:(Tryz.prog.info? 36).map (fun i=>(i.zero,i.size,i.bytes))=O (O (Q J 0 0),1,24):=zh
def uP (w:I) (fn:Nat) (b8:Array jd) (rows cols:Nat) (f:M):Prop :=
  ∀ w' (i j:Nat),b7 w w'->i<rows->j<cols->jf N fn (#[.int .i64 (i:Int),.int .i64 (j:Int)] ++ b8) w' fun e E8=>e=.returned (.int .u8 ((f i j).n:Int))/\∃ q,E8=w'.drewN q
structure Part (w:World) (B rows cols k:Nat) (G:Nat->Nat) (f:M):Prop where
  lst:∃ h:Nat->Value,w.rowIs B 36 rows h/\∀ i,i<k->h i=.slice (some ⟨G i,0,none⟩) cols cols
  row:∀ i,i<k->Own w (G i) cols cols (f i)
  los:∀ i,i<k->B<G i
  apart:∀ i j,i<k->j<k->i ≠ j->G i ≠ G j
theorem Part.mat{w:I}{B rows cols:Nat}{G:Nat->Nat}{f:M}(h:Part w B rows cols rows G f):Mat w B w.heap.size B rows rows cols G (fun _=>cols) f:=by
 obtain⟨c,hr,hc⟩:=h.lst;exact⟨⟨c,hr,hc⟩,D _,h.row,D _,hr.lt,fun i hi=>Nat.le_of_lt (h.los i hi),fun i hi=>(h.row i hi).lt,h.apart⟩
theorem fA(w:I)(e n:Nat)(z:jd):(w.alloc (jk (madeCells #[z] n) e)).rowIs w.heap.size e n (fun _=>z):=by
 refine⟨_,heap_alloc_new w _,size_madeCells _ _,fun i hi=>?_⟩;simp [madeCells,hi,Nat.mod_one]
def put {α:Type} (k:Nat) (v:α) (f:Nat->α) (i:Nat):α:=if i=k then v else f i
theorem put_at{α:Type}(k:Nat)(v:α)(f:Nat->α):put k v f k=v:=by simp [put]
theorem put_ne{α:Type}{k i:Nat}(v:α)(f:Nat->α)(h:i ≠ k):put k v f i=f i:=by simp [put,h]
theorem Part.step{w w':I}{B rows cols k:Nat}{G:Nat->Nat}{f:M}{z:Nat->K}(h:Part w B rows cols k G f)(hn:Own w' w.heap.size cols cols (upto cols (f k) z))
  (hk:Keeps w.heap.size (w.heap.size+1) ((w.alloc (jk (madeCells #[Z jh 0] cols) 5)).setCell ⟨B,k,J⟩ (Q (O ⟨w.heap.size,0,J⟩) cols cols)) w'):Part w' B rows cols (k+1) (put k w.heap.size G) f:=by
 obtain⟨c,hr,hc⟩:=h.lst;have hB:=hr.lt;have KP:w'.rowIs B 36 rows (fun i=>if i=k then Q (O ⟨w.heap.size,0,J⟩) cols cols else c i):=by
  have h1:=(hr.of_block (w':=w.alloc (jk (madeCells #[Z jh 0] cols) 5)) (Below.heap_alloc _ _ _ hB)).set k (Q (O ⟨w.heap.size,0,J⟩) cols cols);exact h1.of_block (hk.block B (by simp [World.setCell];omega) za)
 have old:∀ i,i<k->w'.heap[G i]? = w.heap[G i]?:=fun i hi=>by
  have h1:=(h.row i hi).lt;have h2:=h.los i hi;rw [hk.block (G i) (by simp [World.setCell];omega) za,Below.heap_setCell _ _ _ _ zj,Below.heap_alloc _ _ _ h1]
 refine⟨⟨_,KP,fun i hi=>?_⟩,fun i hi=>?_,fun i hi=>?_,fun i j hi hj f9=>?_⟩
 ·by_cases e:i=k
  ·subst e;rw [put_at];simp
  ·rw [put_ne _ _ e];simp only [e,if_false];exact hc i za
 ·by_cases e:i=k
  ·subst e;rw [put_at];exact hn.all
  ·rw [put_ne _ _ e];exact(h.row i za).of_block (old i za)
 ·by_cases e:i=k
  ·subst e;rw [put_at];exact hB
  ·rw [put_ne _ _ e];exact h.los i za
 ·by_cases e:i=k
  ·by_cases e':j=k
   ·omega
   ·subst e;rw [put_at,put_ne _ _ e'];have:=(h.row j za).lt;omega
  ·by_cases e':j=k
   ·subst e';rw [put_at,put_ne _ _ e];have:=(h.row i za).lt;omega
   ·rw [put_ne _ _ e,put_ne _ _ e'];exact h.apart i j za za f9
theorem cN(w:I)(rows cols fn:Nat)(b8:Array jd)(f:M)(hr:rows<=1000)(hc:cols<=1000)(yO:∀ xs w,(callFunc fn xs).run N w=.ok (.enter fn xs) w)(hf:uP w fn b8 rows cols f):
  jf N 324 #[Z y (rows:Int),Z y (cols:Int),.func (.func fn) #[] b8] w fun e w'=>∃ l G U,e=ja (Q (O ⟨l,0,J⟩) rows rows)/\Mat w' w.heap.size w'.heap.size l rows rows cols G U f/\b7 w w':=by
 have HF:=am hf;have IZ:=run_make_row' (P:=N) 33 36 (Q J 0 0) 24 Tryz.underlying33 info34 rfl y y rows za za;have yr:=run_make_row' (P:=N) 36 5 (Z jh 0) 1 Tryz.underlying36 bU rfl y y cols za za;have Fk:=am yr;clear hf yr;go_enter Tryz.func324,Tryz.ntmps324
 go_wp2;go_loopw [14] (fun i wr=>∃ k:Nat,k<=rows/\i=Z y k/\jc (∃ G,Part wr w.heap.size rows cols k G f)/\jc (b7 w wr)) (fun i _=>rows-(intOf i).toNat)
 case atStart=>exact⟨0,ji _,rfl,⟨fun _=>0,⟨_,fA w 36 rows _,fun i hi=>absurd hi (Nat.not_lt_zero i)⟩,fun i hi=>absurd hi (Nat.not_lt_zero i),fun i hi=>absurd hi (Nat.not_lt_zero i),fun i j hi=>absurd hi (Nat.not_lt_zero i)⟩,(jm _ _).alloc (D _) _⟩
 case round =>
  obtain⟨k,hk,rfl,Gx,d8⟩:=hrel;by_cases hlt:k<rows
  ·obtain⟨G,hp⟩:=Gx.out;have HP:=am hp;obtain⟨c,jA,_⟩:=hp.lst;have hB:w.heap.size<wr.heap.size:=jA.lt;obtain⟨wa,yw⟩:=fd (wr.alloc (jk (madeCells #[Z jh 0] cols) 5))
   have hmk:=Fk.out wr;rw [<- yw] at hmk;have yd:=am yw;have E9:wa.rowIs w.heap.size 36 rows c:=by rw [yw];exact jA.of_block (Below.heap_alloc _ _ _ hB)
   have c1:=E9.cell hlt;have z1:=E9.frozen k;have I2:=E9.set k (Q (O ⟨wr.heap.size,0,J⟩) cols cols);have c2:(wa.setCell ⟨w.heap.size,k,J⟩ (Q (O ⟨wr.heap.size,0,J⟩) cols cols)).cell? ⟨w.heap.size,k,J⟩=O (Q (O ⟨wr.heap.size,0,J⟩) cols cols):=by rw [I2.cell hlt];simp
   have HO:jc (Own (wa.setCell ⟨w.heap.size,k,J⟩ (Q (O ⟨wr.heap.size,0,J⟩) cols cols)) wr.heap.size cols cols (upto 0 (f k) fun _=>0)) :=
    Own.of_block (w:=wa) ⟨D _,by unfold maxLen;omega,_,by rw [yw];exact fA wr 5 cols _,fun i _=>by rw [bR];rfl⟩ (Below.heap_setCell _ _ _ _ zj)
   have yD:jc (b7 w (wa.setCell ⟨w.heap.size,k,J⟩ (Q (O ⟨wr.heap.size,0,J⟩) cols cols))):=by
    rw [yw];exact((d8.out.alloc za _)).trans ⟨rfl,rfl,rfl,by simp [World.setCell],fun i hi=>Below.heap_setCell _ _ _ _ zj⟩
   clear hp Gx jA E9 I2 yw;have i1:(0:Int)<=(k:Int):=za;have i2:(k:Int)<(rows:Int):=za;obtain⟨wm,Hb⟩:∃ x,x=wr:=⟨wr,rfl⟩
   go_wp2;clear hmk c1 z1;obtain⟨w2,jz⟩:=fd (wa.setCell ⟨w.heap.size,k,J⟩ (Q (O ⟨wr.heap.size,0,J⟩) cols cols))
   rw [<- jz] at c2 HO yD ⊢;have KQ:=am jz;clear jz;obtain⟨g,hg⟩:=fd (wr.heap.size)
   rw [<- hg] at c2 HO hB ⊢;have HG:jc (g=wm.heap.size):=by rw [Hb];exact hg
   have D7:jc (Part wm w.heap.size rows cols k G f):=by rw [Hb];exact HP.out
   have VW:jc (w2=(wm.alloc (jk (madeCells #[Z jh 0] cols) 5)).setCell ⟨w.heap.size,k,J⟩ (Q (O ⟨wm.heap.size,0,J⟩) cols cols)):=by rw [Hb,KQ.out,yd.out];exact rfl
   clear hg Hb HP KQ yd;go_loopw [27] (fun i wx=>∃ j:Nat,j<=cols/\i=Z y j/\jc (Own wx g cols cols (upto j (f k) fun _=>0))/\jc (Keeps g (g+1) w2 wx)) (fun i _=>cols-(intOf i).toNat)
   case atStart=>exact⟨0,ji _,rfl,HO.out,Keeps.refl _ _ _⟩
   case round =>
    obtain⟨j,hj,rfl,em,i8⟩:=hrel;have jB:b7 w wr:=yD.out.trans (i8.out.below yD.out.size za);by_cases hjc:j<cols
    ·have d1:wr.cell? ⟨w.heap.size,k,J⟩=O (Q (O ⟨g,0,J⟩) cols cols):=i8.out.cell c2 (by simp only;omega);have d2:=em.out.cell hjc;have z2:=em.out.frozen j;have HC:jc (∀ q,jf N fn (#[Z y (k:Int),Z y (j:Int)] ++ b8) (wr.drewN q) fun e E8=>e=ja (Z jh ((f k j).n:Int))/\∃ q',E8=(wr.drewN q).drewN q'):=fun q=>HF.out _ k j ⟨jB.os,jB.tape,jB.output,jB.size,jB.block⟩ hlt hjc;have i3:(0:Int)<=(j:Int):=za
     have i4:(j:Int)<(cols:Int):=za;clear jB;have kk:∀ m v,((wr.drewN m).setCell ⟨g,j,J⟩ v).cell? ⟨w.heap.size,k,J⟩=O (Q (O ⟨g,0,J⟩) cols cols):=fun m v=>(World.cell?_of_block (Below.heap_setCell _ _ _ _ zj)).trans d1;go_wp2;go_region_held3 (fun w'=>w'.cell? ⟨w.heap.size,k,J⟩=O (Q (O ⟨g,0,J⟩) cols cols)) (go_keep) ((refine(HC.out 1).mono ?_;rintro e w' ⟨rfl,q,rfl⟩))
     have kH:jc (Own ((wr.drewN (1+q)).setCell ⟨g,j,J⟩ (Z jh ((f k j).n:Int))) g cols cols (upto (j+1) (f k) fun _=>0)):=(em.out.of_block (w':=wr.drewN (1+q)) rfl).store;have F4:jc (Keeps g (g+1) w2 ((wr.drewN (1+q)).setCell ⟨g,j,J⟩ (Z jh ((f k j).n:Int)))):=(i8.out.drewN (1+q)).setCell (D _) za j _;clear kk;go_wp2;go_roundw
     case rel=>exact⟨j+1,za,by go_num,kH.out,F4.out⟩
     case measure=>simp [intOf];omega
    ·obtain rfl:j=cols:=za;have HS:jc (∃ G,Part wr w.heap.size rows j (k+1) G f):=by
      have e1:=HG.out;have e2:=VW.out;have o1:=em.out;have k1:=i8.out;rw [e2] at k1;rw [e1] at o1 k1;exact⟨_,D7.out.step o1 k1⟩
     have jv:=am jB;clear jB;go_wp2;go_roundw
     case rel=>exact⟨k+1,za,by go_num,HS.out,jv.out⟩
     case measure=>simp [intOf];omega
  ·obtain rfl:k=rows:=za;go_wp2;go_ret;obtain⟨G,hp⟩:=Gx.out;exact⟨_,G,_,rfl,hp.mat,d8.out⟩
theorem nG(w:I)(i j:Nat):jf N 325 #[Z y (i:Int),Z y (j:Int)] w fun e w'=>e=ja (Z jh ((one i j).n:Int))/\w'=w:=by
 by_cases h:i=j
 ·have hb:((i:Int) == (j:Int))=je:=by simp [h]
  rw [show (one i j).n=1 by rw [one,zk h];rfl];clear h;go_enter Tryz.func325,Tryz.ntmps325
  go_wp2;go_ret;exact⟨rfl,rfl⟩
 ·have hb:((i:Int) == (j:Int))=jj:=zj;rw [show (one i j).n=0 by rw [one,zl h];rfl];clear h;go_enter Tryz.func325,Tryz.ntmps325
  go_wp2;go_ret;exact⟨rfl,rfl⟩
theorem bk(w:I)(n m:Int):jf N 323 #[Z y n,Z y m] w fun e w'=>e=ja (.bool (decide (1<=n/\n<=m)))/\w'=w:=by
 by_cases h:1<=n
 ·by_cases g:n<=m
  ·rw [show decide (1<=n/\n<=m)=je by simp [h,g]];go_enter Tryz.func323,Tryz.ntmps323
   go_wp2;go_ret;exact⟨zi,rfl⟩
  ·rw [show decide (1<=n/\n<=m)=jj by simp [g]];go_enter Tryz.func323,Tryz.ntmps323
   go_wp2;go_ret;exact⟨zi,rfl⟩
 ·rw [show decide (1<=n/\n<=m)=jj by simp [h]];go_enter Tryz.func323,Tryz.ntmps323
  go_wp2;go_ret;exact⟨zi,rfl⟩
def okM (ll:Nat) (L:Nat->Nat):Bool:=decide (1<=ll/\ll<=32/\1<=L 0/\L 0<=32/\∀ i,i<ll->L i=L 0)
theorem oZ{ll:Nat}{L:Nat->Nat}(h:okM ll L=je):1<=ll/\ll<=32/\1<=L 0/\L 0<=32/\∀ i,i<ll->L i=L 0:=of_decide_eq_true h
theorem cR{p:Nat->Prop}(j:Nat)(h:¬ p j):∃ k,k<=j/\¬ p k/\∀ i,i<k->p i:=by
 induction j using Nat.strongRecOn with
 | _ j ih =>
  by_cases g:∀ i,i<j->p i
  ·exact⟨j,D _,h,g⟩
  ·obtain⟨i,hi⟩:=Classical.not_forall.1 g;obtain⟨L6,PH⟩:=Classical.not_imp.1 hi;obtain⟨k,hk,h1,h2⟩:=ih i L6 PH;exact⟨k,za,h1,h2⟩
theorem bA{p:Nat->Prop}{n:Nat}(h:¬ ∀ i,i<n->p i):∃ q,q<n/\¬ p q/\∀ i,i<q->p i:=by
 obtain⟨i,hi⟩:=Classical.not_forall.1 h;obtain⟨p1,p2⟩:=Classical.not_imp.1 hi;obtain⟨k,hk,p3,p4⟩:=cR (p:=p) i p2;exact⟨k,za,p3,p4⟩
theorem uw(w:I)(lo:Option jg)(ll cl:Nat)(A:Nat->Option jg)(C L:Nat->Nat)(H:M)(hl:Lst w lo ll A C L H):
  jf N 334 #[Q lo ll cl] w fun e w'=>e=ja (Z y (dE (okM ll L) 30))/\w'=w:=by
 by_cases h1:1<=ll/\ll<=32
 ·obtain⟨b,off,rfl,jU⟩:=hl.at_ za;have B6:=am jU;have c0:=jU 0 za;rw [Nat.add_zero] at c0;have W1:=bk w (ll:Int) 32;rw [show decide ((1:Int)<=(ll:Int)/\(ll:Int)<=32)=je from zm za] at W1;have i1:(0:Int)<(ll:Int):=za;obtain⟨l0,yE⟩:=fd (L 0)
  rw [<- yE] at c0;by_cases h2:1<=l0/\l0<=32
  ·have W2:=bk w (l0:Int) 32;rw [show decide ((1:Int)<=(l0:Int)/\(l0:Int)<=32)=je from zm za] at W2;by_cases h3:∀ i,i<ll->L i=l0
   ·rw [show dE (okM ll L) 30=0 by rw [show okM ll L=je from zm ⟨h1.1,h1.2,by rw [<- yE];exact h2.1,by rw [<- yE];exact h2.2,by rw [<- yE];exact h3⟩];rfl];have H3:=am h3;clear jU hl h3 yE;have hq:((l0:Int) != (l0:Int))=jj:=zi;go_enter Tryz.func334,Tryz.ntmps334
    go_wp2_with fail
    refine W1.mono ?_;rintro e w' ⟨rfl,g8⟩;obtain rfl:=g8.symm;go_wp2_with fail
    refine W2.mono ?_;rintro e w' ⟨rfl,g8⟩;obtain rfl:=g8.symm;go_wp2_with fail
    go_loop [19] (fun i=>∃ k:Nat,k<=ll/\i=Z y k) (fun i=>ll-(intOf i).toNat)
    case atStart=>exact⟨0,ji _,rfl⟩
    case round =>
     obtain⟨k,hk,rfl⟩:=hrel;by_cases hlt:k<ll
     ·have ck:=B6.out k hlt;rw [H3.out k hlt] at ck;have i2:(0:Int)<=(k:Int):=za;have i3:(k:Int)<(ll:Int):=za;go_wp2;go_round
      case rel=>exact⟨k+1,za,by go_num⟩
      case measure=>simp [intOf];omega
     ·go_wp2;go_ret;exact⟨rfl,rfl⟩
   ·rw [show dE (okM ll L) 30=30 by rw [show okM ll L=jj from zp fun g=>h3 (by rw [yE];exact g.2.2.2.2)];rfl];obtain⟨q,hq,f9,heq⟩:=bA h3;have H3:=am heq;have HN:=am f9;clear jU hl h3 yE heq f9;have VX:((l0:Int) != (l0:Int))=jj:=zi;go_enter Tryz.func334,Tryz.ntmps334
    go_wp2_with fail
    refine W1.mono ?_;rintro e w' ⟨rfl,g8⟩;obtain rfl:=g8.symm;go_wp2_with fail
    refine W2.mono ?_;rintro e w' ⟨rfl,g8⟩;obtain rfl:=g8.symm;go_wp2_with fail
    go_loop [19] (fun i=>∃ k:Nat,k<=q/\i=Z y k) (fun i=>ll-(intOf i).toNat)
    case atStart=>exact⟨0,ji _,rfl⟩
    case round =>
     obtain⟨k,hk,rfl⟩:=hrel;have ck:=B6.out k za;have i2:(0:Int)<=(k:Int):=za;have i3:(k:Int)<(ll:Int):=za;by_cases hlt:k<q
     ·rw [H3.out k hlt] at ck;go_wp2;go_round
      case rel=>exact⟨k+1,za,by go_num⟩
      case measure=>simp [intOf];omega
     ·obtain rfl:k=q:=za;have hb:((L k:Int) != (l0:Int))=je:=by have:=HN.out;simp;omega
      go_wp2;go_ret;exact⟨rfl,rfl⟩
  ·rw [show dE (okM ll L) 30=30 by rw [show okM ll L=jj from zp fun g=>h2 (by rw [yE];exact⟨g.2.2.1,g.2.2.2.1⟩)];rfl];have W2:=bk w (l0:Int) 32;rw [show decide ((1:Int)<=(l0:Int)/\(l0:Int)<=32)=jj from zp za] at W2;clear jU hl yE;go_enter Tryz.func334,Tryz.ntmps334
   go_wp2_with fail
   refine W1.mono ?_;rintro e w' ⟨rfl,g8⟩;obtain rfl:=g8.symm;go_wp2_with fail
   refine W2.mono ?_;rintro e w' ⟨rfl,g8⟩;obtain rfl:=g8.symm;go_wp2_with fail
   go_ret;exact⟨rfl,rfl⟩
 ·rw [show dE (okM ll L) 30=30 by rw [show okM ll L=jj from zp fun g=>h1 ⟨g.1,g.2.1⟩];rfl];have W1:=bk w (ll:Int) 32;rw [show decide ((1:Int)<=(ll:Int)/\(ll:Int)<=32)=jj from zp za] at W1;clear hl;go_enter Tryz.func334,Tryz.ntmps334
  go_wp2_with fail
  refine W1.mono ?_;rintro e w' ⟨rfl,g8⟩;obtain rfl:=g8.symm;go_wp2_with fail
  go_ret;exact⟨rfl,rfl⟩
theorem uN(w:I)(rows cols:Nat):uP w 325 #[] rows cols one:=fun w' i j _ _ _ =>
 (nG w' i j).mono fun _ _ ⟨h1,h2⟩=>⟨h1,0,h2⟩
def okN (n m:Int):Bool:=decide (1<=n/\n<=m)
theorem held{w w':I}{a:jg}{v:jd}(h:w.cell? a=O v)(hb:b7 w w'):w'.cell? a=O v:=(hb.cell (World.block_lt_of_cell? w _ h)).trans h
theorem makes(fn:Fn)(first b8:Array jd)(w:I):(Instr.makeFunc fn first b8).run N w=.ok (.func fn first b8) w:=rfl
theorem Lst.spot{w:I}{lo:Option jg}{ll:Nat}{A:Nat->Option jg}{C L:Nat->Nat}{H:M}(h:Lst w lo ll A C L H){i j:Nat}(hi:i<ll)(hj:j<L i):
  ∃ b off b' qg,lo=O ⟨b,off,J⟩/\A i=O ⟨b',qg,J⟩/\w.cell? ⟨b,off+i,J⟩=O (Q (O ⟨b',qg,J⟩) (L i) (C i))/\w.cell? ⟨b',qg+j,J⟩=O (Z jh ((H i j).n:Int)):=by
 obtain⟨b,off,rfl,hc⟩:=h.at_ za;obtain⟨b',qg,e,hc'⟩:=h.rd i hi za;exact⟨b,off,b',qg,rfl,e,by rw [<- e];exact hc i hi,hc' j hj⟩
theorem Mat.lower{w:I}{B B' T l cl rows cols:Nat}{G U:Nat->Nat}{H:M}(h:Mat w B T l cl rows cols G U H)(hb:B'<=B):Mat w B' T l cl rows cols G U H :=
 ⟨h.lst,h.room,h.row,Nat.le_trans hb h.lo,h.hi,fun i hi=>Nat.le_trans hb (h.los i hi),h.his,h.apart⟩
theorem si{w w1 w2:I}{l n cols:Nat}{G U:Nat->Nat}{H:M}{err:Int}(ko:b7 w w1)(hm:Mat w2 w1.heap.size w2.heap.size l n n cols G U H)(hb:b7 w1 w2):
  Made w je err n cols H (ja (jn #[Q (O ⟨l,0,J⟩) n n,Z y 0])) w2 :=
 ⟨_,_,rfl,.inr ⟨l,G,U,rfl,hm.lower ko.size⟩,ag ko hb ko.size⟩
theorem bH{w w1:I}{n cols:Nat}{H:M}{err:Int}(ko:b7 w w1):Made w jj err n cols H (ja (jn #[Q J 0 0,Z y err])) w1 :=
 ⟨J,0,rfl,.inl ⟨rfl,rfl,rfl⟩,ko⟩
theorem oC(w:I)(p k r:Nat)(hk:k<=12)(hr:r<=4)(hp:w.cell? ⟨p,0,J⟩=O (.int .i64 (k:Int))):
  uP w 326 #[.pointer (O ⟨p,0,J⟩)] r k (cau k):=by
 intro w' i j hb hi hj;show jf N 326 #[.int .i64 (i:Int),.int .i64 (j:Int),.pointer (O ⟨p,0,J⟩)] w' _;have c0:=held hp hb;have e1:((K.of (k+i)).n:Int)=(k:Int)+(i:Int):=by rw [K.of_n _ za];omega
 have e2:((K.of j).n:Int)=(j:Int):=by rw [K.of_n _ za]
 have f9:(K.add (K.of (k+i)) (K.of j)) ≠ 0:=K.sub_ne fun e=>by have:=pD za za e;omega
 have HA:jc (jf N 328 #[.int .u8 ((k:Int)+(i:Int)),.int .u8 (j:Int)] w' fun e E8=>e=.returned (.int .u8 (((K.add (K.of (k+i)) (K.of j))).n:Int))/\E8=w'):=by rw [<- e1,<- e2];exact Dn _ _ w'
 have HI:jc (jf N 327 #[.int .u8 (((K.add (K.of (k+i)) (K.of j))).n:Int)] w' fun e E8=>e=.returned (.tuple #[.int .u8 ((cau k i j).n:Int),.int .i64 0])/\E8=w'):=Dy _ w' f9;clear hp hb e1 e2 f9;obtain⟨X,hX⟩:=fd (cau k i j)
 rw [<- hX] at HI ⊢;obtain⟨Y,hY⟩:=fd ((K.add (K.of (k+i)) (K.of j)))
 rw [<- hY] at HI HA;clear hX hY;have m1:((k:Int)+(i:Int)) % 256=(k:Int)+(i:Int):=za;have m2:(j:Int) % 256=(j:Int):=za;go_enter Tryz.func326,Tryz.ntmps326
 go_wp2_with fail
 refine HA.out.mono ?_;rintro e E8 ⟨rfl,g8⟩;obtain rfl:=g8.symm;go_wp2_with fail
 refine HI.out.mono ?_;rintro e E8 ⟨rfl,g8⟩;obtain rfl:=g8.symm;go_wp2_with fail
 go_ret;exact⟨rfl,0,rfl⟩
theorem rA(w:I)(k r:Int):jf N 293 #[Z y k,Z y r] w (Made w (okN k 12 && okN r 4) 2 r.toNat k.toNat (cau k.toNat)):=by
 obtain⟨w1,ci⟩:=fd (w.alloc (jk #[Z y k] 3))
 have ko:b7 w w1:=by rw [ci];exact(jm _ _).alloc (D _) _
 have cp:w1.cell? ⟨w.heap.size,0,J⟩=O (Z y k):=by rw [ci,World.cell?_alloc_at _ _ _ _ rfl];rfl
 have W1:=bk w1 k 12;rw [show decide (1<=k/\k<=12)=okN k 12 from rfl] at W1;have W2:=bk w1 r 4;rw [show decide (1<=r/\r<=4)=okN r 4 from rfl] at W2;cases hok:okN k 12
 ·rw [hok] at W1;go_enter Tryz.func293,Tryz.ntmps293
  go_wp2_with fail
  rw [<- ci];refine W1.mono ?_;rintro e w' ⟨rfl,g8⟩;obtain rfl:=g8.symm;clear ci;go_wp2_with fail
  go_ret2;exact bH ko
 ·cases hok2:okN r 4
  ·rw [hok] at W1;rw [hok2] at W2;go_enter Tryz.func293,Tryz.ntmps293
   go_wp2_with fail
   rw [<- ci];refine W1.mono ?_;rintro e w' ⟨rfl,g8⟩;obtain rfl:=g8.symm;clear ci;go_wp2_with fail
   refine W2.mono ?_;rintro e w' ⟨rfl,g8⟩;obtain rfl:=g8.symm;go_wp2_with fail
   go_ret2;exact bH ko
  ·have h1:=of_decide_eq_true hok;have h2:=of_decide_eq_true hok2;rw [hok] at W1;rw [hok2] at W2;obtain⟨k,rfl⟩:=Int.eq_ofNat_of_zero_le (show 0<=k by omega);obtain⟨r,rfl⟩:=Int.eq_ofNat_of_zero_le (show 0<=r by omega);rw [jo,jo];have zN:=cN w1 r k 326 #[jl (O ⟨w.heap.size,0,J⟩)] (cau k) za za (fun _ _=>rfl) (oC w1 w.heap.size k r za za cp);clear hok hok2;have VY:=makes;go_enter Tryz.func293,Tryz.ntmps293
   go_wp2_with fail
   rw [<- ci];refine W1.mono ?_;rintro e w' ⟨rfl,g8⟩;obtain rfl:=g8.symm;clear ci;go_wp2_with fail
   refine W2.mono ?_;rintro e w' ⟨rfl,g8⟩;obtain rfl:=g8.symm;go_wp2_with fail
   refine zN.mono ?_;rintro e w2 ⟨l,G,U,rfl,hm,hb⟩;go_wp2_with fail
   go_ret2;exact si ko hm hb
def RdI (w:I) (ao:Option jg) (n:Nat) (R:Nat->Int):Prop :=
  0<n->∃ b off,ao=O ⟨b,off,J⟩/\∀ i,i<n->w.cell? ⟨b,off+i,J⟩=O (.int .i64 (R i))
def fx (b:Bool) (e:Int):Int:=if b then e else 30
def cS (ll:Nat) (L:Nat->Nat):Bool:=okM ll L && decide (L 0=ll)
def cP (ll:Nat) (L:Nat->Nat) (H:M):Bool:=cS ll L && lq ll H
theorem nP(w:I)(p p':Nat)(lo:Option jg)(n cl:Nat)(A:Nat->Option jg)(C L:Nat->Nat)(H:M)(hp:w.cell? ⟨p,0,J⟩=O (Z y (n:Int)))(I3:w.cell? ⟨p',0,J⟩=O (Q lo n cl))(hl:Lst w lo n A C L H)(hL:∀ i,i<n->L i=n)(hn:n<=1000):
  uP w 335 #[jl (O ⟨p,0,J⟩),jl (O ⟨p',0,J⟩)] n (2*n) (beside n H):=by
 intro w' i j hb hi hj;show jf N 335 #[Z y (i:Int),Z y (j:Int),jl (O ⟨p,0,J⟩),jl (O ⟨p',0,J⟩)] w' _;have c0:=held hp hb;have c1:=held I3 hb;by_cases hjn:j<n
 ·rw [show beside n H i j=H i j from zk hjn];obtain⟨b1,PI,b2,Ly,rfl,_,c3,c4⟩:=(hl.below hb).spot hi (show j<L i by rw [hL i hi];exact hjn);rw [hL i hi] at c3;clear hp I3 hl hb hL;have i1:(0:Int)<=(i:Int):=za;have i2:(i:Int)<(n:Int):=za;have i3:(0:Int)<=(j:Int):=za;have i4:(j:Int)<(n:Int):=za;go_enter Tryz.func335,Tryz.ntmps335
  go_wp2;go_ret;exact⟨rfl,0,rfl⟩
 ·rw [show beside n H i j=one i (j-n) from zl hjn];have HU:=nG w' i (j-n);rw [show ((j-n:Nat):Int)=(j:Int)-(n:Int) by omega] at HU;clear hp I3 hl hb hL c1;go_enter Tryz.func335,Tryz.ntmps335
  go_wp2_with fail
  refine HU.mono ?_;rintro e E8 ⟨rfl,g8⟩;obtain rfl:=g8.symm;go_wp2_with fail
  go_ret;exact⟨rfl,0,rfl⟩
theorem px(w:I)(p p':Nat)(lo:Option jg)(n cl m:Nat)(A:Nat->Option jg)(C L:Nat->Nat)(P:M)(hp:w.cell? ⟨p,0,J⟩=O (Q lo n cl))(I3:w.cell? ⟨p',0,J⟩=O (Z y (n:Int)))(hl:Lst w lo n A C L P)(hL:∀ i,i<n->L i=m)(hm:m=2*n)(hn:n<=1000):
  uP w 337 #[jl (O ⟨p,0,J⟩),jl (O ⟨p',0,J⟩)] n n (fun i j=>P i (n+j)):=by
 intro w' i j hb hi hj;show jf N 337 #[Z y (i:Int),Z y (j:Int),jl (O ⟨p,0,J⟩),jl (O ⟨p',0,J⟩)] w' _;have c0:=held hp hb;have c1:=held I3 hb;obtain⟨b1,PI,b2,Ly,rfl,_,c3,c4⟩:=(hl.below hb).spot hi (show n+j<L i by rw [hL i hi];omega);rw [hL i hi] at c3;clear hp I3 hl hb hL;have i1:(0:Int)<=(i:Int):=za;have i2:(i:Int)<(n:Int):=za;have i3:(0:Int)<=(n:Int)+(j:Int):=za;have i4:(n:Int)+(j:Int)<(m:Int):=za;have i5:((n:Int)+(j:Int)).toNat=n+j:=za;go_enter Tryz.func337,Tryz.ntmps337
 go_wp2;go_quiet (fail)
 go_wp2;go_ret;exact⟨rfl,_,rfl⟩
theorem nI(w:I)(lo:Option jg)(ll cl:Nat)(A:Nat->Option jg)(C L:Nat->Nat)(H:M)(hl:Lst w lo ll A C L H):
  jf N 318 #[Q lo ll cl] w (Made w (cP ll L H) (fx (cS ll L) 5) ll ll (bX ll H)):=by
 obtain⟨w1,ci⟩:=fd (w.alloc (jk #[Q lo ll cl] 33))
 have ko:b7 w w1:=by rw [ci];exact(jm _ _).alloc (D _) _
 have cp:w1.cell? ⟨w.heap.size,0,J⟩=O (Q lo ll cl):=by rw [ci,World.cell?_alloc_at _ _ _ _ rfl];rfl
 have N1:=am (hl.below ko);have CA:=fun m=>uw (w1.drewN m) lo ll cl A C L H (N1.out.below (below_drewN _ _ m));clear hl;cases hok:okM ll L
 ·rw [show cP ll L H=jj by unfold cP cS;rw [hok];rfl,show fx (cS ll L) 5=30 by unfold cS;rw [hok];rfl];rw [hok] at CA;have L7:=am CA;clear hok CA;go_enter Tryz.func318,Tryz.ntmps318
  go_wp2_with fail
  rw [<- ci];clear ci;go_quiet (first | (go_at_call 334;exact Calls.quiet_of_same (L7.out _)))
  go_wp2;go_ret2;exact bH (ag ko (below_drewN _ _ _) ko.size)
 ·rw [hok] at CA;have L7:=am CA;obtain⟨h1,h2,h3,h4,h5⟩:=oZ hok;obtain⟨b,off,rfl,jU⟩:=N1.out.at_ za;have c0:=jU 0 za;rw [Nat.add_zero] at c0;have i0:0<ll:=za;have i1:(0:Int)<(ll:Int):=za;clear CA jU;by_cases hsq:L 0=ll
  ·rw [show cP ll L H=lq ll H by unfold cP cS;rw [hok,hsq];simp,show fx (cS ll L) 5=5 by unfold cS;rw [hok,hsq];simp [fx]];have JI:jc (∀ i,i<ll->L i=ll):=fun i hi=>by rw [h5 i hi,hsq]
   rw [hsq] at c0;have zM:((ll:Int) != (ll:Int))=jj:=zi;have VY:=makes;clear h5 hsq hok h3 h4;go_enter Tryz.func318,Tryz.ntmps318
   go_wp2_with fail
   rw [<- ci];clear ci;go_quiet (first | (go_at_call 334;exact Calls.quiet_of_same (L7.out _)))
   have jP:b7 w (w1.drewN nq):=⟨ko.os,ko.tape,ko.output,ko.size,ko.block⟩
   have dp:(w1.drewN nq).cell? ⟨w.heap.size,0,J⟩=O (Q (O ⟨b,off,J⟩) ll cl):=cp;have Sr:jc (Lst (w1.drewN nq) (O ⟨b,off,J⟩) ll A C L H):=N1.out.below (below_drewN _ _ _);clear cp c0 ko N1 L7;generalize w1.drewN nq=wq at *
   obtain⟨w2,jz⟩:=fd (wq.alloc (jk #[Z y (ll:Int)] 3))
   have bn:b7 wq w2:=by rw [jz];exact(jm _ _).alloc (D _) _
   have cn:w2.cell? ⟨wq.heap.size,0,J⟩=O (Z y (ll:Int)):=by rw [jz,World.cell?_alloc_at _ _ _ _ rfl];rfl
   have ku:b7 w w2:=ag jP bn jP.size;have zN:=cN w2 ll (2*ll) 335 _ (beside ll H) za za (fun _ _=>rfl) (nP w2 wq.heap.size w.heap.size (O ⟨b,off,J⟩) ll cl A C L H cn (held dp bn) (Sr.out.below bn) JI.out za);rw [show ((2*ll:Nat):Int)=2*(ll:Int) by omega] at zN;go_wp2_with fail
   rw [<- jz];refine zN.mono ?_;rintro e w3 ⟨l,G,U,rfl,hm,N2⟩;have F7:=am hm;have PJ:w3.cell? ⟨wq.heap.size,0,J⟩=O (Z y (ll:Int)):=held cn N2;have Ss:wq.heap.size<w2.heap.size:=World.block_lt_of_cell? w2 _ cn;have VZ:w2.heap.size<=w3.heap.size:=N2.size;have E5:b7 w w3:=ag ku N2 ku.size;have N3:w.heap.size<=w2.heap.size:=ku.size;clear hm N2 zN jz cn bn Sr dp jP ku;obtain⟨pn,G8⟩:=fd (wq.heap.size)
   rw [<- G8] at PJ Ss ⊢;clear G8;obtain⟨w4,Hw⟩:=fd (w3.alloc (jk #[Q (O ⟨l,0,J⟩) ll ll] 33))
   have bn:b7 w3 w4:=by rw [Hw];exact(jm _ _).alloc (D _) _
   have PK:w4.cell? ⟨w3.heap.size,0,J⟩=O (Q (O ⟨l,0,J⟩) ll ll):=by rw [Hw,World.cell?_alloc_at _ _ _ _ rfl];rfl
   have St:=held PJ bn;have JJ:jc (Mat w4.drew w2.heap.size w3.heap.size l ll ll (2*ll) G U (beside ll H)):=(F7.out.below bn).below (bdw _ _);have Su:b7 w w4:=ag E5 bn E5.size;have Hc:jc (jf N 336 #[Q (O ⟨l,0,J⟩) ll ll,Z y (ll:Int)] w4.drew fun e w'=>∃ b P G U,e=ja (Z y ((b:Nat):Int))/\Red je ll (beside ll H) ll b P/\Mat w' w2.heap.size w3.heap.size l ll ll (2*ll) G U P/\Keeps w2.heap.size w3.heap.size w4.drew w') :=
    rV w4.drew _ _ l ll ll (2*ll) ll G U (beside ll H) za za za JJ.out
   go_wp2_with fail
   rw [<- Hw];clear Hw PJ F7 JJ bn E5;obtain⟨pb,Sv⟩:=fd (w3.heap.size)
   rw [<- Sv] at PK VZ Hc ⊢;clear Sv;go_region_held3 (fun w'=>w'.cell? ⟨pn,0,J⟩=O (Z y (ll:Int))/\w'.cell? ⟨pb,0,J⟩=O (Q (O ⟨l,0,J⟩) ll ll)) (go_keep)
    ((go_at_call 336;refine Hc.out.mono ?_;rintro e w5 ⟨r,P,G',U',rfl,o6,Sw,N4⟩;have V0:w5.cell? ⟨pn,0,J⟩=O (Z y (ll:Int)):=N4.cell (w:=w4.drew) St (.inl Ss);have V2:w5.cell? ⟨pb,0,J⟩=O (Q (O ⟨l,0,J⟩) ll ll):=N4.cell (w:=w4.drew) PK (.inr (D _))))
   have qL:=am o6;have PM:=am Sw;have Sx:b7 w w5:=Su.drew.trans (N4.below Su.size N3);have I4:r<=ll:=o6.rows;clear o6 Sw N4 Hc St PK;by_cases hr:r<ll
   ·have hI:jc (lq ll H=jj):=by rw [th,fW (eU qL.out.rk)];exact zp za
    go_wp2_with fail
    go_ret2;rw [hI.out];exact bH Sx
   ·obtain rfl:r=ll:=za;have HV:=am (qL.out.inv);have zN:=cN w5 r r 337 _ (fun i j=>P i (r+j)) za za (fun _ _=>rfl) (px w5 pb pn _ r r (2*r) _ _ _ P V2 V0 PM.out.lst_ (fun _ _=>rfl) rfl za);go_wp2_with fail
    refine zN.mono ?_;rintro e w6 ⟨l6,G6,U6,rfl,V3,JK⟩;go_wp2_with fail
    go_ret2;rw [show lq r H=je from fr HV.out];refine si Sx (V3.congr fun i j hi hj=>?_) JK;rw [<- oP HV.out i j hi hj,qL.out.one_diag i hi];have:(1:K).inv=1:=by have:=K.mul_inv K.one_ne_zero;rwa [K.one_mul] at this
    rw [this,K.mul_one]
  ·have zM:((L 0:Int) != (ll:Int))=je:=zj;rw [show cP ll L H=jj by unfold cP cS;rw [hok];simp [hsq],show fx (cS ll L) 5=30 by unfold cS;rw [hok];simp [hsq,fx]];clear hok h5;go_enter Tryz.func318,Tryz.ntmps318
   go_wp2_with fail
   rw [<- ci];clear ci;go_quiet (first | (go_at_call 334;exact Calls.quiet_of_same (L7.out _)))
   go_wp2;go_ret2;exact bH (ag ko (below_drewN _ _ _) ko.size)
def cellsOf (n:Nat) (f:Nat->K):List jd:=(List.range n).map fun i=>.int .u8 ((f i).n:Int)
theorem aD(n:Nat)(f:Nat->K):(cellsOf n f).length=n:=by simp [cellsOf]
theorem bP(n:Nat)(f:Nat->K)(i:Nat)(h:i<n):(cellsOf n f)[i]? = O (Z jh ((f i).n:Int)):=by simp [cellsOf,h]
theorem gF(n:Nat)(f:Nat->K):∀ v ∈ cellsOf n f,v.oneCell'=je:=by
 intro v hv;simp only [cellsOf,List.mem_map] at hv;obtain⟨i,_,rfl⟩:=hv;rfl
theorem bal(w:I)(o:Obj):b7 w (w.alloc o):=(jm _ w).alloc (D _) o
theorem more{w w':I}(h:b7 w w')(o:Obj):b7 w (w'.alloc o):=h.alloc h.size o
theorem DW{n m:Nat}(h1:1<=n)(h2:n<=32)(h3:1<=m)(h4:m<=32):okM n (fun _=>m)=je:=zm ⟨h1,h2,h3,h4,fun _ _=>rfl⟩
theorem oM{n:Nat}{A V:M}(h1:1<=n)(h2:n<=32)(h:IsInv n A V):cP n (fun _=>n) A=je:=by
 unfold cP cS;rw [DW h1 h2 h1 h2,fr h];simp
def rowsOf (k:Nat) (T:Nat->Option jg) (L U:Nat->Nat):List jd:=(List.range k).map fun i=>.slice (T i) (L i) (U i)
theorem rowsOf_length(k:Nat)(T:Nat->Option jg)(L U:Nat->Nat):(rowsOf k T L U).length=k:=by simp [rowsOf]
theorem rowsOf_get(k:Nat)(T:Nat->Option jg)(L U:Nat->Nat)(i:Nat)(h:i<k):(rowsOf k T L U)[i]? = O (Q (T i) (L i) (U i)):=by simp [rowsOf,h]
theorem rowsOf_one(k:Nat)(T:Nat->Option jg)(L U:Nat->Nat):∀ v ∈ rowsOf k T L U,v.oneCell'=je:=by
 intro v hv;simp only [rowsOf,List.mem_map] at hv;obtain⟨i,_,rfl⟩:=hv;rfl
theorem db{α:Type}{l:List α}{n i:Nat}{x:α}(hl:l.length=n)(h:l[i]? = O x):i<n:=by
 rcases Nat.lt_or_ge i n with g | g
 ·exact g
 ·rw [List.getElem?_eq_none za] at h;cases h
theorem nR{B:Nat}{w w':I}{row:Option Nat}(hg:w.grownBy w' row)(hB:B<=w.heap.size)(hr:∀ k,row=O k->B<=k):jb B w w':=(jm B w).grown hg hB hr
def bE (k:Nat) (R:Nat->Nat):List jd:=(List.range k).map fun i=>.int .i64 ((R i:Nat):Int)
theorem cY(k:Nat)(R:Nat->Nat)(i:Nat)(h:i<k):(bE k R)[i]? = O (Z y ((R i:Nat):Int)):=by simp [bE,h]
theorem dO(k:Nat)(R:Nat->Nat)(x:Nat):bE (k+1) (put k x R)=bE k R ++ [Z y (x:Int)]:=by
 simp only [bE,List.range_succ,List.map_append,List.map_cons,List.map_nil,put_at];congr 1
 apply List.map_congr_left
 intro i hi;have:i ≠ k:=by have:=List.mem_range.1 hi;omega
 rw [put_ne _ _ this]
theorem vP{w:I}{base:Nat}{ao:Option jg}{n b8:Nat}{R:Nat->Nat}(h:w.ownsRow base 3 1 (Q ao n b8) n (bE n R)):RdI w ao n (fun i=>(R i:Int)):=by
 intro hp;rcases h.2 with ⟨_,h1⟩ | ⟨g,jy,jw,h1,_⟩
 ·omega
 ·cases h1
  refine⟨g,0,rfl,fun i hi=>?_⟩;have:=h.cells (g:=g) rfl i _ (cY n R i hi)
  rwa [Addr.add_lit] at this
theorem owns_form{w:I}{base e n:Nat}{v:jd}{xs:List jd}(h:w.ownsRow base e 1 v n xs):∃ ao b8,v=Q ao n b8:=by
 rcases h.2 with ⟨rfl,rfl⟩ | ⟨g,b8,jw,rfl,_⟩
 ·exact⟨J,0,rfl⟩
 ·exact⟨_,b8,rfl⟩
theorem rF{w:I}{b e e' n g q:Nat}{v:jd}{xs:List jd}{f:Nat->jd}(h:w.ownsRow b e 1 v n xs)(k:w.rowIs g e' q f)(he:e ≠ e'):v.ownBlock ≠ O g:=by
 rcases h.2 with ⟨rfl,_⟩ | ⟨g',b8,jw,rfl,_,h1,_⟩
 ·intro e;cases e
 ·intro e;have e':g'=g:=Option.some.inj e;obtain⟨c,h2,_⟩:=k;rw [e',h2] at h1;cases h1
  exact he rfl
theorem gy:(Tryz.prog.info? 3).map (fun i=>(i.zero,i.size,i.bytes))=O (O (Z y 0),1,8):=zh
theorem mA{w:I}{n cols:Nat}{H:M}{err:Int}{e:Ending}{w':I}(h:Made w je err n cols H e w')(hn:0<n):
  ∃ l b8 G U,e=ja (jn #[Q (O ⟨l,0,J⟩) n b8,Z y 0])/\Mat w' w.heap.size w'.heap.size l b8 n cols G U H/\b7 w w':=by
 obtain⟨ao,b8,rfl,ha,hb⟩:=h;rcases ha with ⟨_,h0,_⟩ | ⟨l,G,U,rfl,hm⟩
 ·exact absurd (show n=0 from h0) za
 ·exact⟨l,b8,G,U,rfl,hm,hb⟩
theorem BN(w:I)(m:Nat)(h1:1<=m)(h2:m<=32):jf N 291 #[Z y (m:Int)] w fun e w'=>∃ l G U,e=ja (jn #[Q (O ⟨l,0,J⟩) m m,Z y 0])/\Mat w' w.heap.size w'.heap.size l m m m G U one/\b7 w w':=by
 have W1:=bk w (m:Int) 32;rw [show decide (1<=(m:Int)/\(m:Int)<=32)=je from zm za] at W1;have zN:=cN w m m 325 #[] one za za (fun _ _=>rfl) (uN w m m);go_enter Tryz.func291,Tryz.ntmps291
 go_wp2_with fail
 refine W1.mono ?_;rintro e w' ⟨rfl,g8⟩;obtain rfl:=g8.symm;go_wp2_with fail
 refine zN.mono ?_;rintro e w1 ⟨l,G,U,rfl,hm,hb⟩;go_wp2_with fail
 go_ret2;exact⟨l,G,U,rfl,hm,hb⟩
def join {α:Type} (k:Nat) (f h:Nat->α) (i:Nat):α:=if i<k then f i else h (i-k)
theorem dN(k:Nat)(T:Nat->Option jg)(L U:Nat->Nat)(ao:Option jg)(l c:Nat):rowsOf (k+1) (put k ao T) (put k l L) (put k c U)=rowsOf k T L U ++ [Q ao l c]:=by
 simp only [rowsOf,List.range_succ,List.map_append,List.map_cons,List.map_nil,put_at];congr 1
 apply List.map_congr_left
 intro i hi;have:i ≠ k:=by have:=List.mem_range.1 hi;omega
 rw [put_ne _ _ this,put_ne _ _ this,put_ne _ _ this]
structure Rows0 (w:World) (B k cols:Nat) (v:Value) (G:Nat->Nat) (H:M):Prop where
  lst:w.ownsRow B 36 1 v k (rowsOf k (fun i=>some ⟨G i,0,none⟩) (fun _=>cols) (fun _=>cols))
  row:∀ i,i<k->Own w (G i) cols cols (H i)
  los:∀ i,i<k->B<=G i
  apart:∀ i j,i<k->j<k->i ≠ j->G i ≠ G j
theorem wJ{w:I}{b n g m u:Nat}{v:jd}{xs:List jd}{f:Nat->K}(h:w.ownsRow b 36 1 v n xs)(k:Own w g m u f):v.ownBlock ≠ O g:=by
 obtain⟨_,_,c,hr,_⟩:=k;exact rF h hr zb
theorem Rows0.step{w w2:I}{B k cols g b8:Nat}{v:jd}{G:Nat->Nat}{H:M}{o:Obj}(h:Rows0 w B k cols v G H)(hB:B<=w.heap.size)(I0:cols<=maxLen)(hH:∀ j,j<cols->H k j=0)
  (em:w2.ownsRow B 36 1 (Q (O ⟨g,0,J⟩) (k+1) b8) (k+1) (rowsOf k (fun i=>O ⟨G i,0,J⟩) (fun _=>cols) (fun _=>cols) ++ [Q (O ⟨w.heap.size,0,J⟩) cols cols]))
  (hg:((w.alloc (jk (madeCells #[Z jh 0] cols) 5)).alloc o).grownBy w2 v.ownBlock):Rows0 w2 B (k+1) cols (Q (O ⟨g,0,J⟩) (k+1) b8) (put k w.heap.size G) H:=by
 have Gy:Own ((w.alloc (jk (madeCells #[Z jh 0] cols) 5)).alloc o) w.heap.size cols cols (H k) :=
  Own.of_block (w:=w.alloc (jk (madeCells #[Z jh 0] cols) 5)) ⟨D _,I0,_,fA w 5 cols _,fun i hi=>by rw [hH i hi];rfl⟩ (Below.heap_alloc _ _ _ zi)
 have hv:∀ q,v.ownBlock=O q->q<w.heap.size:=fun q hq=>(h.lst.lt q hq).2;refine⟨?_,fun i hi=>?_,fun i hi=>?_,fun i j hi hj f9=>?_⟩
 ·have e:=dN k (fun i=>O ⟨G i,0,J⟩) (fun _=>cols) (fun _=>cols) (O ⟨w.heap.size,0,J⟩) cols cols;rw [show put k cols (fun _=>cols)=(fun _=>cols) from funext fun i=>by unfold put;split <;> rfl,show put k (O (⟨w.heap.size,0,J⟩:jg)) (fun i=>O ⟨G i,0,J⟩)=(fun i=>O ⟨put k w.heap.size G i,0,J⟩) from funext fun i=>by unfold put;split <;> rfl] at e;rw [e];exact em
 ·by_cases e:i=k
  ·subst e;rw [put_at];exact Gy.of_block (hg.block _ Gy.lt fun e=>by have:=hv _ e.symm;omega)
  ·rw [put_ne _ _ e];have hr:=h.row i za;have KP:=(hr.below (bal w (jk (madeCells #[Z jh 0] cols) 5))).below (bal _ o);exact KP.of_block (hg.block _ KP.lt fun e=>wJ h.lst hr e.symm)
 ·by_cases e:i=k
  ·subst e;rw [put_at];exact hB
  ·rw [put_ne _ _ e];exact h.los i za
 ·by_cases e:i=k
  ·subst e;rw [put_at,put_ne _ _ (Ne.symm f9)];have:=(h.row j za).lt;omega
  ·by_cases e':j=k
   ·subst e';rw [put_at,put_ne _ _ e];have:=(h.row i za).lt;omega
   ·rw [put_ne _ _ e,put_ne _ _ e'];exact h.apart i j za za f9
theorem Mat.store{w:I}{B T l cl rows cols:Nat}{G U:Nat->Nat}{H:M}{k j:Nat}(h:Mat w B T l cl rows cols G U H)(hk:k<rows)(x:K):
  Mat (w.setCell ⟨G k,j,J⟩ (Z jh (x.n:Int))) B T l cl rows cols G U (fun i b=>if i=k/\b=j then x else H i b):=by
 refine(h.put hk ((h.row k hk).set j x) ((Keeps.refl _ _ w).setCell (D _) (Nat.lt_succ_self _) j _)).congr fun i b _ _=>?_;by_cases e:i=k
 ·subst e;simp
 ·simp [e]
theorem Bu{w:I}{ad:jg}{n:Nat}{f:Nat->K}(h:Rd w (O ad) n f):∀ j u,(cellsOf n f)[j]? = O u->w.cell? (ad.add j)=O u:=by
 intro j u hu;have hj:j<n:=db (aD n f) hu;rw [bP _ _ _ hj] at hu;obtain⟨b,off,e,hc⟩:=h za;cases e
 rw [Addr.add_lit,hc j hj];exact hu
theorem cy{w:I}{base I5 e size n:Nat}{v:jd}{xs:List jd}(h:w.ownsRow base e size v n xs)(hb:I5<=base):w.ownsRow I5 e size v n xs:=by
 refine⟨h.1,?_⟩;rcases h.2 with h1 | ⟨g,b8,jw,h1,h2,h3⟩
 ·exact .inl h1
 ·exact .inr ⟨g,b8,jw,h1,za,h3⟩
theorem di{w:I}{b b' n m:Nat}{v u:jd}{xs ys:List jd}(h:w.ownsRow b 5 1 v n xs)(k:w.ownsRow b' 36 1 u m ys):v.ownBlock=J\/v.ownBlock ≠ u.ownBlock:=by
 rcases h.2 with ⟨rfl,_⟩ | ⟨g,b8,jw,rfl,_,h1,_⟩
 ·exact .inl rfl
 ·right
  rcases k.2 with ⟨rfl,_⟩ | ⟨g',jy,Gz,rfl,_,k1,_⟩
  ·intro e;cases e
  ·intro e;have e':g=g':=Option.some.inj e;rw [e',k1] at h1;cases h1
theorem Cs{w:I}{base:Nat}{ao:Option jg}{n b8:Nat}{f:Nat->K}(h:w.ownsRow base 5 1 (Q ao n b8) n (cellsOf n f)):Rd w ao n f:=by
 intro hp;rcases h.2 with ⟨_,h1⟩ | ⟨g,jy,jw,h1,_⟩
 ·omega
 ·cases h1
  refine⟨g,0,rfl,fun i hi=>?_⟩;have:=h.cells (g:=g) rfl i _ (bP n f i hi)
  rwa [Addr.add_lit] at this
theorem vG{w:I}{base g n b8:Nat}{f:Nat->K}(h:w.ownsRow base 5 1 (Q (O ⟨g,0,J⟩) n b8) n (cellsOf n f)):Own w g n b8 f:=by
 rcases h.2 with ⟨h1,_⟩ | ⟨g',jy,jw,h1,_,h3,h4,h5,h6,h7⟩
 ·cases h1
 ·cases h1
  refine⟨h4,h5,fun i=>jw.getD i (Z jh 0),⟨jw,h3,by rw [h6,Nat.mul_one],fun i hi=>?_⟩,fun i hi=>?_⟩
  ·have:i<jw.size:=za;simp [this]
  ·have e:=bP n f i hi;rw [<- h7,Nat.mul_one,List.getElem?_take_of_lt hi,Array.getElem?_toList] at e;have hc:i<jw.size:=za;rw [Array.getElem?_eq_getElem hc] at e;simp only [Array.getD,hc,dif_pos];exact Option.some.inj e
theorem ep{w:I}{g n u:Nat}{f:Nat->K}(h:Own w g n u f):w.ownsRow g 5 1 (Q (O ⟨g,0,J⟩) n u) n (cellsOf n f):=by
 obtain⟨h1,h2,c,⟨jw,hb,hs,hc⟩,hh⟩:=h;refine⟨by rw [aD,Nat.mul_one],.inr ⟨g,u,jw,rfl,D _,hb,h1,h2,by rw [hs,Nat.mul_one],?_⟩⟩;rw [Nat.mul_one];apply List.ext_getElem?
 intro i;by_cases hi:i<n
 ·rw [List.getElem?_take_of_lt hi,bP _ _ _ hi,Array.getElem?_toList,hc i za,hh i hi]
 ·rw [List.getElem?_eq_none zj,List.getElem?_eq_none (by rw [aD];omega)]
theorem bG{α:Type}(k i:Nat)(f:Nat->α):put k (f k) f i=f i:=by
 by_cases e:i=k
 ·rw [e,put_at]
 ·rw [put_ne _ _ e]
structure Copied (w:World) (B k:Nat) (v:Value) (T:Nat->Option Addr) (L U:Nat->Nat) (H:M):Prop where
  out:w.ownsRow B 36 1 v k (rowsOf k T L U)
  row:∀ i,i<k->w.ownsRow B 5 1 (.slice (T i) (L i) (U i)) (L i) (cellsOf (L i) (H i))
  apart:∀ i j a b,i<k->j<k->i ≠ j->T i=some a->T j=some b->a.block ≠ b.block
theorem Copied.lst{w:I}{B ll b8:Nat}{to:Option jg}{T:Nat->Option jg}{L U:Nat->Nat}{H:M}(h:Copied w B ll (Q to ll b8) T L U H):Lst w to ll T U L H:=by
 refine⟨fun i hi=>Cs (h.row i hi),fun hp=>?_⟩;rcases h.out.2 with ⟨_,h1⟩ | ⟨g,jy,jw,h1,_⟩
 ·omega
 ·cases h1
  refine⟨g,0,rfl,fun i hi=>?_⟩;have:=h.out.cells (g:=g) rfl i _ (rowsOf_get ll T L U i hi)
  rwa [Addr.add_lit] at this
theorem Copied.congr{w:I}{B k:Nat}{v:jd}{T T':Nat->Option jg}{L L' U U':Nat->Nat}{H H':M}(h:Copied w B k v T L U H)(e1:∀ i,i<k->T i=T' i)(e2:∀ i,i<k->L i=L' i)(e3:∀ i,i<k->U i=U' i)(e4:∀ i,i<k->H i=H' i):Copied w B k v T' L' U' H':=by
 have er:rowsOf k T L U=rowsOf k T' L' U':=List.map_congr_left fun i hi=>by
  have:=List.mem_range.1 hi;rw [e1 i this,e2 i this,e3 i this]
 refine⟨by rw [<- er];exact h.out,fun i hi=>by rw [<- e1 i hi,<- e2 i hi,<- e3 i hi,<- e4 i hi];exact h.row i hi,fun i j a b hi hj f9 ea eb=>h.apart i j a b hi hj f9 (by rw [e1 i hi];exact ea) (by rw [e1 j hj];exact eb)⟩
end Go.Proofs.YtemlojjkokooeaaGreat.Cod
