import Derived.Deep.CutRange
import Derived.Lib.AppendZeros
import Derived.Test.YtemlojjkokooeaaGreatTj23
set_option maxHeartbeats 4000000
set_option maxRecDepth 100000
namespace Go.Proofs.YtemlojjkokooeaaGreat.Cod
open Go.RowKit
theorem enc_add(k:Nat)(D E:M)(i b:Nat):enc k (fun j b=>K.add (D j b) (E j b)) i b=K.add (enc k D i b) (enc k E i b):=by
 show sum k (fun l=>K.mul (gen k i l) (K.add (D l b) (E l b)))=K.add (sum k _) (sum k _);rw [<- sum_add];exact sum_congr fun l _=>K.mul_add _ _ _
def RowSolD (w:World) (B T:Nat) (ao:Option Addr) (n cap:Nat) (f:Nat->K):Prop:=(ao=none/\n=0/\cap=0)\/∃ g,ao=some ⟨g,0,none⟩/\B<=g/\g<T/\Own w g n cap f
def OneAnsD (w:World) (ok:Bool) (err:Int) (n:Nat) (f:Nat->K) (e:Ending) (w':World):Prop :=
  ∃ ao cap,e=.returned (.tuple #[.slice ao (lenB ok n) cap,.int .i64 (errB ok err)])/\RowSolD w' w.heap.size w'.heap.size ao (lenB ok n) cap f/\Below w.heap.size w w'
def okRowD (k r c:Int):Bool:=mayB k r && decide (0<=c/\c<k+r)
theorem Row_any(w:World)(k r c:Int):Calls Tryz.prog 234 #[.int .i64 k,.int .i64 r,.int .i64 c] w (OneAnsD w (okRowD k r c) 2 k.toNat (gen k.toNat c.toNat)):=by
 have HM:=may_any w k r;have bad:OneAnsD w false 2 k.toNat (gen k.toNat c.toNat) (.returned (.tuple #[.slice none 0 0,.int .i64 2])) w:=⟨none,0,rfl,.inl ⟨rfl,rfl,rfl⟩,Below.refl _ _⟩
 cases hmay:mayB k r
 ·rw [show okRowD k r c=false by unfold okRowD; rw [hmay]; rfl];rw [hmay] at HM;clear hmay;go_enter Tryz.func234,Tryz.ntmps234
  go_wp2_with (go_at_call 143; refine HM.mono ?_; rintro e w' ⟨rfl,rfl⟩)
  go_ret2;exact bad
 ·obtain⟨h1,h2,h3,h4⟩:=mayB_true hmay;rw [hmay] at HM;by_cases h5:0<=c
  ·by_cases h6:c<k+r
   ·rw [show okRowD k r c=true by unfold okRowD; rw [hmay]; simp [h5,h6]];clear hmay bad;obtain⟨k,rfl⟩:=Int.eq_ofNat_of_zero_le (show 0<=k by omega);obtain⟨r,rfl⟩:=Int.eq_ofNat_of_zero_le (show 0<=r by omega);obtain⟨c,rfl⟩:=Int.eq_ofNat_of_zero_le h5;rw [Int.toNat_natCast,Int.toNat_natCast];have hmm:=@run_makeMap Tryz.prog;have HR:=row_any (w.alloc (.map #[] 0)) w.heap.size w.heap.size k r 0 c (by omega) (by omega) (by omega) (by omega) (by omega) (by simp) (Kept.made w k r);unfold key at HR;have HRR:Hid (Calls Tryz.prog 218 #[.map (some w.heap.size),.agg #[.int .i64 (k:Int),.int .i64 (r:Int),.int .i64 (c:Int)]] (w.alloc (.map #[] 0)) (RowOf (w.alloc (.map #[] 0)) w.heap.size w.heap.size k r 0 c)):=HR;clear HR;go_enter Tryz.func234,Tryz.ntmps234
    go_wp2_with (first | (go_at_call 143; refine HM.mono ?_; rintro e w' ⟨rfl,rfl⟩) | (go_at_call 218; refine HRR.out.mono ?_; rintro e w' ⟨g,u,rfl,hg,ho,_,hke⟩))
    go_ret2;exact⟨_,_,rfl,.inr ⟨g,rfl,hg,ho.lt,ho⟩,below_map hke⟩
   ·rw [show okRowD k r c=false by unfold okRowD; simp [h6]];clear hmay;go_enter Tryz.func234,Tryz.ntmps234
    go_wp2_with (go_at_call 143; refine HM.mono ?_; rintro e w' ⟨rfl,rfl⟩)
    go_ret2;exact bad
  ·rw [show okRowD k r c=false by unfold okRowD; simp [h5]];clear hmay;go_enter Tryz.func234,Tryz.ntmps234
   go_wp2_with (go_at_call 143; refine HM.mono ?_; rintro e w' ⟨rfl,rfl⟩)
   go_ret2;exact bad
theorem below_2(w:World)(o o':Obj):Below w.heap.size w ((w.alloc o).alloc o'):=((Below.refl _ _).alloc (Nat.le_refl _) o).alloc (by simp) o'
theorem info5d:(Tryz.prog.info? 5).map (fun i=>(i.zero,i.size,i.bytes))=some (some (.int .u8 0),1,1):=by kernel_rfl
end Go.Proofs.YtemlojjkokooeaaGreat.Cod
namespace Go.Proofs.YtemlojjkokooeaaGreat.Cod
def cat {α:Type} (p:Nat) (f g:Nat->α) (i:Nat):α:=if i<p then f i else g (i-p)
theorem cat_lo{α:Type}{p i:Nat}(f g:Nat->α)(h:i<p):cat p f g i=f i:=if_pos h
theorem cat_hi{α:Type}(p i:Nat)(f g:Nat->α):cat p f g (p+i)=g i:=by unfold cat; rw [if_neg (by omega),Nat.add_sub_cancel_left]
theorem cat_at{α:Type}(p:Nat)(f g:Nat->α):cat p f g p=g 0:=cat_hi p 0 f g
def alikeB (n:Nat) (L:Nat->Nat):Bool:=decide (∀ i,i<n->1<=L i/\L i<=65536/\L i=L 0)
theorem alikeB_true{n:Nat}{L:Nat->Nat}(h:alikeB n L=true):∀ i,i<n->1<=L i/\L i<=65536/\L i=L 0:=of_decide_eq_true h
def onceB (k:Int) (n:Nat) (R:Nat->Int):Bool:=decide ((n:Int)<=k/\∀ i,i<n->(0<=R i/\R i<k)/\∀ j,j<i->R j ≠ R i)
theorem onceB_true{k:Int}{n:Nat}{R:Nat->Int}(h:onceB k n R=true):(n:Int)<=k/\∀ i,i<n->(0<=R i/\R i<k)/\∀ j,j<i->R j ≠ R i:=of_decide_eq_true h
def parB (r:Int) (pl:Nat) (PL:Nat->Nat):Bool:=decide ((pl:Int)=r) && alikeB pl PL
def fitB (pl:Nat) (PL:Nat->Nat) (n dl:Nat) (DL:Nat->Nat):Bool:=decide (dl=n) && alikeB (pl+dl) (cat pl PL DL)
def okAll (k r:Int) (pl:Nat) (PL:Nat->Nat) (n:Nat) (R:Nat->Int) (dl:Nat) (DL:Nat->Nat):Bool:=mayB k r && (parB r pl PL && (onceB k n R && fitB pl PL n dl DL))
def errAll (k r:Int) (pl:Nat) (PL:Nat->Nat) (n:Nat) (R:Nat->Int):Int:=if mayB k r then (if parB r pl PL then (if onceB k n R then 40 else 2) else 40) else 2
theorem okAll_of{k r:Int}{pl:Nat}{PL:Nat->Nat}{n:Nat}{R:Nat->Int}{dl:Nat}{DL:Nat->Nat}(h1:mayB k r=true)(h2:(pl:Int)=r)(h3:alikeB pl PL=true)(h4:onceB k n R=true)(h5:dl=n)(h6:alikeB (pl+dl) (cat pl PL DL)=true):okAll k r pl PL n R dl DL=true:=by
 unfold okAll parB fitB;simp only [Bool.and_eq_true,decide_eq_true_eq];exact⟨h1,⟨h2,h3⟩,h4,h5,h6⟩
def fac (k:Nat) (R:Nat->Int) (i j:Nat):K:=gen k (k+i) (R j).toNat
def upd (k n:Nat) (R:Nat->Int) (D P:M):M:=fun i b=>K.add (lin n (fac k R i) D b) (P i b)
theorem lin_zero(F:Nat->K)(H:M)(b:Nat):lin 0 F H b=0:=rfl
theorem lin_succ(n:Nat)(F:Nat->K)(H:M)(b:Nat):lin (n+1) F H b=K.add (lin n F H b) (K.mul (F n) (H n b)):=rfl
theorem lin_congr{n:Nat}{F F':Nat->K}{H H':M}{b:Nat}(h:∀ j,j<n->F j=F' j)(g:∀ j,j<n->H j b=H' j b):lin n F H b=lin n F' H' b:=sum_congr fun j hj=>by rw [h j hj,g j hj]
theorem upd_sum(k n:Nat)(R:Nat->Int)(D P:M)(i b:Nat):lin (n+1) (cat n (fac k R i) (fun _=>1)) (cat n D (fun _=>P i)) b=upd k n R D P i b:=by
 rw [lin_succ,cat_at,cat_at,K.one_mul];unfold upd;rw [lin_congr (fun j hj=>cat_lo _ _ hj) (fun j hj=>by rw [cat_lo _ _ hj])]
theorem upd_step(k j:Nat)(R:Nat->Int)(D P:M)(i b:Nat):K.add (upd k j R D P i b) (K.mul (fac k R i j) (D j b))=upd k (j+1) R D P i b:=by
 have:=K.aA;have:=K.cA;unfold upd;rw [lin_succ]
 ac_rfl
theorem upd_congr{k n:Nat}{R R':Nat->Int}{D D' P P':M}{i b:Nat}(h1:∀ j,j<n->R j=R' j)(h2:∀ j,j<n->D j b=D' j b)(h3:P i b=P' i b):upd k n R D P i b=upd k n R' D' P' i b:=by
 unfold upd;rw [h3,lin_congr (F':=fac k R' i) (H':=D') (fun j hj=>by unfold fac; rw [h1 j hj]) h2]
theorem par_put{k c:Nat}(hc:c<k)(D:M)(d:Nat->K)(i b:Nat):par k (put c (fun b=>K.add (D c b) (d b)) D) i b=K.add (K.mul (gen k (k+i) c) (d b)) (par k D i b):=by
 have e:∀ j,put c (fun b=>K.add (D c b) (d b)) D j b=K.add (D j b) ((fun j b=>if j=c then d b else 0:M) j b):=fun j=>by
  by_cases h:j=c
  ·subst h; rw [put_at]; simp
  ·rw [put_ne _ _ h]; simp [h,K.add_zero]
 show enc k _ (k+i) b=_;rw [enc_congr (D':=fun j b=>K.add (D j b) ((fun j b=>if j=c then d b else 0:M) j b)) (fun j _=>e j),enc_add,K.add_comm];have:enc k (fun j b=>if j=c then d b else 0) (k+i) b=K.mul (gen k (k+i) c) (d b):=by
  show sum k (fun l=>K.mul (gen k (k+i) l) (if l=c then d b else 0))=_;rw [sum_one hc (fun l _ hne=>by rw [if_neg hne,K.mul_zero]),if_pos rfl]
 rw [this];rfl
theorem par_step{k t c:Nat}{R:Nat->Int}{D X P:M}{x y:Nat->K}(hc:c<k)(hx:∀ b,X c b=x b)(h:∀ i b,par k X i b=upd k t R D P i b)(i b:Nat):
  par k (put c y X) i b=upd k (t+1) (put t (c:Int) R) (put t (fun b=>K.add (x b) (y b)) D) P i b:=by
 have e:put c y X=put c (fun b=>K.add (X c b) (K.add (x b) (y b))) X:=by
  funext j
  by_cases g:j=c
  ·subst g; rw [put_at,put_at]; funext b; rw [hx b,<- K.add_assoc,K.add_self,K.zero_add]
  ·rw [put_ne _ _ g,put_ne _ _ g]
 rw [e,par_put hc X (fun b=>K.add (x b) (y b)),h i b,<- upd_step];rw [upd_congr (R':=R) (D':=D) (P':=P) (fun j hj=>put_ne _ _ (by omega)) (fun j hj=>by rw [put_ne _ _ (by omega)]) rfl];unfold fac;rw [put_at,put_at,K.add_comm,Int.toNat_natCast]
end Go.Proofs.YtemlojjkokooeaaGreat.Cod
namespace Go.Proofs.YtemlojjkokooeaaGreat.Cod
open Go.RowKit
theorem alike_any(w:World)(lo:Option Addr)(ll cl:Nat)(A:Nat->Option Addr)(C L:Nat->Nat)(H:M)(hll:ll<=1000000)(hl:Lst w lo ll A C L H):
  Calls Tryz.prog 232 #[.slice lo ll cl] w fun e w'=>e=.returned (.bool (alikeB ll L))/\w'=w:=by
 have HL:Hid (Lst w lo ll A C L H):=hl;clear hl;by_cases hall:∀ i,i<ll->1<=L i/\L i<=65536/\L i=L 0
 ·rw [show alikeB ll L=true from decide_eq_true hall];have HA:Hid (∀ i,i<ll->1<=L i/\L i<=65536/\L i=L 0):=hall;clear hall;go_enter Tryz.func232,Tryz.ntmps232
  go_wp2;go_loop [7] (fun x=>∃ i:Nat,i<=ll/\x=.int .i64 i) (fun x=>ll-(intOf x).toNat)
  case atStart=>exact⟨0,Nat.zero_le _,rfl⟩
  case round =>
   obtain⟨i,hi,rfl⟩:=hrel;by_cases hlt:i<ll
   ·obtain⟨b,off,rfl,hc⟩:=HL.out.at_ (by omega);have c0:=hc 0 (by omega);rw [Nat.add_zero] at c0;have ck:=hc i hlt;obtain⟨h1,h2,h3⟩:=HA.out i hlt;rw [h3] at ck h1 h2;clear h3 hc;obtain⟨m,hm⟩:∃ m,m=L 0:=⟨_,rfl⟩
    rw [<- hm] at c0 ck h1 h2;clear hm;have hd1:decide ((m:Int)<1)=false:=by simp; omega
    have hd2:decide ((65536:Int)<(m:Int))=false:=by simp; omega
    have hbn:((m:Int) != (m:Int))=false:=by simp
    have i1:(0:Int)<=(i:Int):=by omega
    have i2:(i:Int)<(ll:Int):=by omega
    have i3:(0:Int)<(ll:Int):=by omega
    go_wp2;go_round
    case rel=>exact⟨i+1,by omega,by go_num⟩
    case measure=>simp [intOf]; omega
   ·go_wp2;go_ret;exact⟨rfl,rfl⟩
 ·rw [show alikeB ll L=false from decide_eq_false hall];obtain⟨q,hq,hne,heq⟩:=first_not hall;have HE:Hid (∀ i,i<q->1<=L i/\L i<=65536/\L i=L 0):=heq;have HNE:Hid (¬ (1<=L q/\L q<=65536/\L q=L 0)):=hne;clear hall hne heq;go_enter Tryz.func232,Tryz.ntmps232
  go_wp2;go_loop [7] (fun x=>∃ i:Nat,i<=q/\x=.int .i64 i) (fun x=>ll-(intOf x).toNat)
  case atStart=>exact⟨0,Nat.zero_le _,rfl⟩
  case round =>
   obtain⟨i,hi,rfl⟩:=hrel;have hlt:i<ll:=by omega
   obtain⟨b,off,rfl,hc⟩:=HL.out.at_ (by omega);have c0:=hc 0 (by omega);rw [Nat.add_zero] at c0;have ck:=hc i hlt;have i1:(0:Int)<=(i:Int):=by omega
   have i2:(i:Int)<(ll:Int):=by omega
   have i3:(0:Int)<(ll:Int):=by omega
   by_cases hiq:i<q
   ·obtain⟨h1,h2,h3⟩:=HE.out i hiq;rw [h3] at ck h1 h2;clear h3 hc;obtain⟨m,hm⟩:∃ m,m=L 0:=⟨_,rfl⟩
    rw [<- hm] at c0 ck h1 h2;clear hm;have hd1:decide ((m:Int)<1)=false:=by simp; omega
    have hd2:decide ((65536:Int)<(m:Int))=false:=by simp; omega
    have hbn:((m:Int) != (m:Int))=false:=by simp
    go_wp2;go_round
    case rel=>exact⟨i+1,by omega,by go_num⟩
    case measure=>simp [intOf]; omega
   ·obtain rfl:i=q:=by omega
    have hn:=HNE.out;clear hc;obtain⟨m,hm⟩:∃ m,m=L i:=⟨_,rfl⟩
    obtain⟨m0,hm0⟩:∃ m,m=L 0:=⟨_,rfl⟩
    rw [<- hm] at ck hn;rw [<- hm0] at c0 hn;clear hm hm0;by_cases h1:1<=m
    ·have hd1:decide ((m:Int)<1)=false:=by simp; omega
     by_cases h2:m<=65536
     ·have hd2:decide ((65536:Int)<(m:Int))=false:=by simp; omega
      have hbn:((m:Int) != (m0:Int))=true:=by
       have:¬ m=m0:=fun e=>hn ⟨h1,h2,e⟩;simp; omega
      go_wp2;go_ret;exact⟨rfl,rfl⟩
     ·have hd2:decide ((65536:Int)<(m:Int))=true:=by simp; omega
      go_wp2;go_ret;exact⟨rfl,rfl⟩
    ·have hd1:decide ((m:Int)<1)=true:=by simp; omega
     go_wp2;go_ret;exact⟨rfl,rfl⟩
def hasB (n:Nat) (R:Nat->Int) (v:Int):Bool:=!decide (∀ j,j<n->R j ≠ v)
theorem contains_any(w:World)(ao:Option Addr)(n ca:Nat)(R:Nat->Int)(v:Int)(hn:n<=1000000)(hr:RdI w ao n R):
  Calls Tryz.prog 299 #[.slice ao n ca,.int .i64 v] w fun e w'=>e=.returned (.bool (hasB n R v))/\w'=w:=by
 have HX:Calls Tryz.prog 329 #[.slice ao n ca,.int .i64 v] w fun e w'=>∃ x:Int,e=.returned (.int .i64 x)/\decide (0<=x)=hasB n R v/\w'=w:=by
  have HR:Hid (RdI w ao n R):=hr;clear hr;by_cases hall:∀ j,j<n->R j ≠ v
  ·have HB:Hid (hasB n R v=false):=by show _=_; unfold hasB; rw [decide_eq_true hall]; rfl
   have HA:Hid (∀ j,j<n->R j ≠ v):=hall;clear hall;go_enter Tryz.func329,Tryz.ntmps329
   go_wp2;go_loop [8] (fun x=>∃ i:Nat,i<=n/\x=.int .i64 i) (fun x=>n-(intOf x).toNat)
   case atStart=>exact⟨0,Nat.zero_le _,rfl⟩
   case round =>
    obtain⟨i,hi,rfl⟩:=hrel;by_cases hlt:i<n
    ·obtain⟨b,off,rfl,hc⟩:=HR.out (by omega);have ck:=hc i hlt;have hb:(v == R i)=false:=by have:=HA.out i hlt; simp; omega
     clear hc;have i1:(0:Int)<=(i:Int):=by omega
     have i2:(i:Int)<(n:Int):=by omega
     go_wp2;go_round
     case rel=>exact⟨i+1,by omega,by go_num⟩
     case measure=>simp [intOf]; omega
    ·go_wp2;go_ret;exact⟨_,rfl,by rw [HB.out]; rfl,rfl⟩
  ·have HB:Hid (hasB n R v=true):=by show _=_; unfold hasB; rw [decide_eq_false hall]; rfl
   obtain⟨q,hq,hne,heq⟩:=first_not hall;have HE:Hid (∀ j,j<q->R j ≠ v):=heq;have HN:Hid (R q=v):=by show _=_; exact Classical.byContradiction hne
   clear hall hne heq;go_enter Tryz.func329,Tryz.ntmps329
   go_wp2;go_loop [8] (fun x=>∃ i:Nat,i<=q/\x=.int .i64 i) (fun x=>n-(intOf x).toNat)
   case atStart=>exact⟨0,Nat.zero_le _,rfl⟩
   case round =>
    obtain⟨i,hi,rfl⟩:=hrel;have hlt:i<n:=by omega
    obtain⟨b,off,rfl,hc⟩:=HR.out (by omega);have ck:=hc i hlt;clear hc;have i1:(0:Int)<=(i:Int):=by omega
    have i2:(i:Int)<(n:Int):=by omega
    by_cases hiq:i<q
    ·have hb:(v == R i)=false:=by have:=HE.out i hiq; simp; omega
     go_wp2;go_round
     case rel=>exact⟨i+1,by omega,by go_num⟩
     case measure=>simp [intOf]; omega
    ·obtain rfl:i=q:=by omega
     rw [HN.out] at ck;have hb:(v == v)=true:=by simp
     go_wp2;go_ret;exact⟨_,rfl,by rw [HB.out]; simp,rfl⟩
 clear hr;go_enter Tryz.func299,Tryz.ntmps299
 go_wp2_with (go_at_call 329; refine HX.mono ?_; rintro e w' ⟨x,rfl,hx,rfl⟩)
 go_ret;exact⟨by rw [<- hx]; rfl,rfl⟩
theorem once_any(w:World)(k:Int)(co:Option Addr)(n cc:Nat)(R:Nat->Int)(hcap:n<=cc)(hk:k<=12)(hr:RdI w co n R):
  Calls Tryz.prog 235 #[.int .i64 k,.slice co n cc] w fun e w'=>e=.returned (.bool (onceB k n R))/\w'=w:=by
 have HR:Hid (RdI w co n R):=hr;clear hr;by_cases hnk:(n:Int)<=k
 ·by_cases hall:∀ i,i<n->(0<=R i/\R i<k)/\∀ j,j<i->R j ≠ R i
  ·rw [show onceB k n R=true from decide_eq_true ⟨hnk,hall⟩];have HA:Hid (∀ i,i<n->(0<=R i/\R i<k)/\∀ j,j<i->R j ≠ R i):=hall;clear hall;go_enter Tryz.func235,Tryz.ntmps235
   go_wp2;go_loop [13] (fun x=>∃ i:Nat,i<=n/\x=.int .i64 i) (fun x=>n-(intOf x).toNat)
   case atStart=>exact⟨0,Nat.zero_le _,rfl⟩
   case round =>
    obtain⟨i,hi,rfl⟩:=hrel;by_cases hlt:i<n
    ·obtain⟨b,off,rfl,hc⟩:=HR.out (by omega);have ck:=hc i hlt;obtain⟨⟨h1,h2⟩,h3⟩:=HA.out i hlt;have HC:=contains_any w (some ⟨b,off,none⟩) i cc R (R i) (by omega) (fun _=>⟨b,off,rfl,fun j hj=>hc j (by omega)⟩);rw [show hasB i R (R i)=false by unfold hasB; rw [decide_eq_true h3]; rfl] at HC;clear hc h3;have hd1:decide (R i<0)=false:=by simp; omega
     have hd2:decide (k<=R i)=false:=by simp; omega
     have i1:(0:Int)<=(i:Int):=by omega
     have i2:(i:Int)<(n:Int):=by omega
     have i3:(i:Int)<=(cc:Int):=by omega
     go_wp2_with (go_at_call 299; refine HC.mono ?_; rintro e w' ⟨rfl,rfl⟩)
     go_round
     case rel=>exact⟨i+1,by omega,by go_num⟩
     case measure=>simp [intOf]; omega
    ·go_wp2;go_ret;exact⟨rfl,rfl⟩
  ·rw [show onceB k n R=false from decide_eq_false fun h=>hall h.2];obtain⟨q,hq,hne,heq⟩:=first_not hall;have HE:Hid (∀ i,i<q->(0<=R i/\R i<k)/\∀ j,j<i->R j ≠ R i):=heq;have HNE:Hid (¬ ((0<=R q/\R q<k)/\∀ j,j<q->R j ≠ R q)):=hne;clear hall hne heq;go_enter Tryz.func235,Tryz.ntmps235
   go_wp2;go_loop [13] (fun x=>∃ i:Nat,i<=q/\x=.int .i64 i) (fun x=>n-(intOf x).toNat)
   case atStart=>exact⟨0,Nat.zero_le _,rfl⟩
   case round =>
    obtain⟨i,hi,rfl⟩:=hrel;have hlt:i<n:=by omega
    obtain⟨b,off,rfl,hc⟩:=HR.out (by omega);have ck:=hc i hlt;have HC:=contains_any w (some ⟨b,off,none⟩) i cc R (R i) (by omega) (fun _=>⟨b,off,rfl,fun j hj=>hc j (by omega)⟩);clear hc;have i1:(0:Int)<=(i:Int):=by omega
    have i2:(i:Int)<(n:Int):=by omega
    have i3:(i:Int)<=(cc:Int):=by omega
    by_cases hiq:i<q
    ·obtain⟨⟨h1,h2⟩,h3⟩:=HE.out i hiq;rw [show hasB i R (R i)=false by unfold hasB; rw [decide_eq_true h3]; rfl] at HC;clear h3;have hd1:decide (R i<0)=false:=by simp; omega
     have hd2:decide (k<=R i)=false:=by simp; omega
     go_wp2_with (go_at_call 299; refine HC.mono ?_; rintro e w' ⟨rfl,rfl⟩)
     go_round
     case rel=>exact⟨i+1,by omega,by go_num⟩
     case measure=>simp [intOf]; omega
    ·obtain rfl:i=q:=by omega
     have hn:=HNE.out;by_cases h1:0<=R i
     ·have hd1:decide (R i<0)=false:=by simp; omega
      by_cases h2:R i<k
      ·have hd2:decide (k<=R i)=false:=by simp; omega
       rw [show hasB i R (R i)=true by unfold hasB; rw [decide_eq_false fun h=>hn ⟨⟨h1,h2⟩,h⟩]; rfl] at HC;clear hn;go_wp2_with (go_at_call 299; refine HC.mono ?_; rintro e w' ⟨rfl,rfl⟩)
       go_ret;exact⟨rfl,rfl⟩
      ·have hd2:decide (k<=R i)=true:=by simp; omega
       clear hn HC;go_wp2;go_ret;exact⟨rfl,rfl⟩
     ·have hd1:decide (R i<0)=true:=by simp; omega
      clear hn HC;go_wp2;go_ret;exact⟨rfl,rfl⟩
 ·rw [show onceB k n R=false from decide_eq_false fun h=>hnk h.1];go_enter Tryz.func235,Tryz.ntmps235
  go_wp2;go_ret;exact⟨rfl,rfl⟩
theorem rowsOf_cat(p d:Nat)(T T':Nat->Option Addr)(L L' U U':Nat->Nat):rowsOf p T L U ++ rowsOf d T' L' U'=rowsOf (p+d) (cat p T T') (cat p L L') (cat p U U'):=by
 unfold rowsOf;rw [List.range_add,List.map_append,List.map_map];congr 1
 ·refine List.map_congr_left fun i hi=>?_;have:=List.mem_range.1 hi;rw [cat_lo _ _ this,cat_lo _ _ this,cat_lo _ _ this]
 ·refine List.map_congr_left fun i _=>?_;simp only [Function.comp,cat_hi]
theorem lst_owns{w:World}{B n c:Nat}{ao:Option Addr}{A:Nat->Option Addr}{L C:Nat->Nat}{H:M}(h:w.ownsRow B 36 1 (.slice ao n c) n (rowsOf n A L C))(hr:∀ i,i<n->Rd w (A i) (L i) (H i)):Lst w ao n A C L H :=
 ⟨hr,fun hp=>by
  rcases h.2 with ⟨_,h1⟩ | ⟨g,cap',cur,h1,_⟩
  ·omega
  ·cases h1
   refine⟨g,0,rfl,fun i hi=>?_⟩;have:=h.cells (g:=g) rfl i _ (rowsOf_get n _ _ _ i hi)
   rwa [Addr.add_lit] at this⟩
theorem wpList_append_list{w:World}{ops:Array Oper}{rest:List Oper}{o:Oper}{a:Act}{Q:Exit->Act->World->Prop}(hgd:o.guard=none)(s x:Operand)
  (ho:o.op=.call { callee:=.builtin .append,args:=#[s,x],argTypes:=#[33,33]}) (B k n ca cb:Nat) (ao bo:Option Addr) (xs:List Value) (A:Nat->Option Addr) (L C:Nat->Nat) (H:M)
  (hs:a.eval s=.slice ao k ca) (hx:a.eval x=.slice bo n cb) (h:w.ownsRow B 36 1 (.slice ao k ca) k xs) (hnil:bo=none->n=0/\cb=0) (hl:Lst w bo n A C L H) (hk:k<=1000) (hn:n<=1000) (hB:B<=w.heap.size)
  (cont:∀ ao' c' w',w'.ownsRow B 36 1 (.slice ao' (k+n) c') (k+n) (xs ++ rowsOf n A L C)->w.grownBy w' (Value.slice ao k ca).ownBlock->wpList Tryz.prog ops Q rest (a.put o.dst (.slice ao' (k+n) c')) w'):wpList Tryz.prog ops Q (o :: rest) a w:=by
 obtain⟨j0,hj,hj0,hj1,hj2⟩:=info_parts info23c;cases bo with
 | none =>
  obtain⟨rfl,rfl⟩:=hnil rfl;have:=cont ao ca w (by rw [show rowsOf 0 A L C=[] from rfl,List.append_nil]; exact h) (grown_refl w _);exact wpList_append_own_none hgd s x 33 ho B 36 j0 1 Tryz.underlying33 hj (.slice ao k ca) k xs hs h hx this
 | some ad =>
  refine wpList_append_own w hgd s x 33 ho B 36 j0 (.slice none 0 0) 1 24 Tryz.underlying33 hj hj0 hj1 hj2 rfl (by decide) (.slice ao k ca) k xs hs h ad n cb (rowsOf n A L C) hx (by rw [rowsOf_length,Nat.mul_one]) (fun j u hu=>?_) (rowsOf_one _ _ _ _) (by unfold maxLen; omega) (by omega) hB ?_
  ·have hj:j<n:=list_lt (rowsOf_length n A L C) hu;rw [rowsOf_get _ _ _ _ _ hj] at hu;obtain⟨b,off,e,hc⟩:=hl.at_ (by omega);cases e
   rw [Addr.add_lit,hc j hj]; exact hu
  ·intro v' w' h1 h2 _;obtain⟨ao',c',rfl⟩:=owns_form h1;exact cont ao' c' w' h1 h2
theorem zero_size(m n:Nat):(Builtin.zeroCells (Value.slice none 0 0).cells m ++ Builtin.zeroCells (Value.slice none 0 0).cells n).size=(m+n)*1:=by
 rw [Array.size_append,size_zeroCells,size_zeroCells];have:(Value.slice none 0 0).cells.size=1:=rfl;rw [this]; omega
theorem grow_any(w:World)(n:Nat)(hn:n<=1000):
  Calls Tryz.prog 300 #[.slice none 0 0,.int .i64 (n:Int)] w fun e w'=>∃ ao cap,e=.returned (.slice ao 0 cap)/\w'.ownsRow w.heap.size 36 1 (.slice ao 0 cap) 0 []/\Below w.heap.size w w':=by
 by_cases h0:n=0
 ·subst h0;go_enter Tryz.func300,Tryz.ntmps300
  go_wp2;go_ret;exact⟨none,0,rfl,World.ownsRow_nil _ _ _ _,Below.refl _ _⟩
 ·obtain⟨j0,hj,hj0,hj1,hj2⟩:=info_parts info23c;have hr:=fun ty=>Lib.run_append_nil_zeros (P:=Tryz.prog) w 33 3 ty 36 j0 (.slice none 0 0) .i64 .i64 Tryz.underlying33 Tryz.underlying3 hj hj0 n (by omega) (by rw [hj1]; decide) (by omega) (by rw [hj2]; omega);have hc1:=grownCap_ge w n 0 36;have hc2:=grownCap_le_maxLen w n 0 36 (by unfold maxLen; omega);obtain⟨cp,hcp⟩:∃ c,c=grownCap w n 0 36:=⟨_,rfl⟩
  rw [<- hcp] at hr hc1 hc2;obtain⟨w1,hw1⟩:∃ w1,w1=w.drew.alloc (.cells (Builtin.zeroCells (Value.slice none 0 0).cells n ++ Builtin.zeroCells (Value.slice none 0 0).cells (cp-n)) 36):=⟨_,rfl⟩
  rw [<- hw1] at hr;have HO:Hid (w1.ownsRow w.heap.size 36 1 (.slice (some ⟨w.heap.size,0,none⟩) 0 cp) 0 []):=by
   refine⟨rfl,.inr ⟨w.heap.size,cp,_,rfl,Nat.le_refl _,by rw [hw1]; exact heap_alloc_new w.drew _,Nat.zero_le _,hc2,?_,by simp⟩⟩;rw [zero_size,Nat.add_sub_cancel' hc1]
  have HB:Hid (Below w.heap.size w w1):=by rw [hw1]; exact(bdw _ w).alloc (Nat.le_refl _) _
  clear hw1 hcp hj hj0 hj1 hj2 hc2;have hpos:(0:Int)<(n:Int):=by omega
  go_enter Tryz.func300,Tryz.ntmps300
  go_wp2_with (at_builtin; refine Lib.wpList_append_run _ (by rfl) (.tmp 20) (.tmp 21) 33 3 (by rfl) (.slice none 0 0) (.int .i64 (n:Int)) (by rfl) (by rfl) _ _ (hr _) ?_)
  go_ret;exact⟨_,_,rfl,HO.out,HB.out⟩
def termsOf (F:Nat->K) (A:Nat->Option Addr) (L C:Nat->Nat):Nat->List Value
  | 0=>[]
  | n+1=>termsOf F A L C n ++ [.int .u8 ((F n).n:Int),.slice (A n) (L n) (C n)]
theorem termsOf_length(F:Nat->K)(A:Nat->Option Addr)(L C:Nat->Nat)(n:Nat):(termsOf F A L C n).length=n*2:=by
 induction n with
 | zero=>rfl
 | succ n ih=>rw [termsOf,List.length_append,ih,Nat.succ_mul]; rfl
theorem termsOf_get(F:Nat->K)(A:Nat->Option Addr)(L C:Nat->Nat)(n i:Nat)(hi:i<n):(termsOf F A L C n)[i*2]? = some (.int .u8 ((F i).n:Int))/\(termsOf F A L C n)[i*2+1]? = some (.slice (A i) (L i) (C i)):=by
 induction n with
 | zero=>omega
 | succ n ih =>
  have hl:=termsOf_length F A L C n;rw [termsOf];by_cases e:i=n
  ·subst e;rw [List.getElem?_append_right (by omega),List.getElem?_append_right (by omega),hl,Nat.sub_self,show i*2+1-i*2=1 by omega];exact⟨rfl,rfl⟩
  ·rw [List.getElem?_append_left (by omega),List.getElem?_append_left (by omega)];exact ih (by omega)
theorem termsOf_congr{F F':Nat->K}{A A':Nat->Option Addr}{L L' C C':Nat->Nat}{n:Nat}(h1:∀ i,i<n->F i=F' i)(h2:∀ i,i<n->A i=A' i)(h3:∀ i,i<n->L i=L' i)(h4:∀ i,i<n->C i=C' i):termsOf F A L C n=termsOf F' A' L' C' n:=by
 induction n with
 | zero=>rfl
 | succ n ih=>rw [termsOf,termsOf,ih (fun i hi=>h1 i (by omega)) (fun i hi=>h2 i (by omega)) (fun i hi=>h3 i (by omega)) (fun i hi=>h4 i (by omega)),h1 n (by omega),h2 n (by omega),h3 n (by omega),h4 n (by omega)]
structure Trm (w:World) (ta:Option Addr) (n:Nat) (F:Nat->K) (A:Nat->Option Addr) (C L:Nat->Nat) (H:M):Prop where
  rd:∀ i,i<n->Rd w (A i) (L i) (H i)
  at_:0<n->∃ b,ta=some ⟨b,0,none⟩/\∀ i,i<n->w.cell? ⟨b,i*2,none⟩=some (.int .u8 ((F i).n:Int))/\w.cell? ⟨b,i*2+1,none⟩=some (.slice (A i) (L i) (C i))
theorem trm_owns{w:World}{B n c:Nat}{ao:Option Addr}{F:Nat->K}{A:Nat->Option Addr}{L C:Nat->Nat}{H:M}(h:w.ownsRow B 283 2 (.slice ao n c) n (termsOf F A L C n))(hr:∀ i,i<n->Rd w (A i) (L i) (H i)):Trm w ao n F A C L H :=
 ⟨hr,fun hp=>by
  rcases h.2 with ⟨_,h1⟩ | ⟨g,cap',cur,h1,_⟩
  ·omega
  ·cases h1
   refine⟨g,rfl,fun i hi=>?_⟩;obtain⟨e1,e2⟩:=termsOf_get F A L C n i hi;have c1:=h.cells (g:=g) rfl _ _ e1;have c2:=h.cells (g:=g) rfl _ _ e2;rw [Addr.add_lit,Nat.zero_add] at c1 c2;exact⟨c1,c2⟩⟩
theorem box_cell(w:World)(x y:Value)(e:TypeId)(o:Obj):((w.alloc (.cells #[x,y] e)).alloc o).cell? ⟨w.heap.size,1,none⟩=some y:=by
 rw [World.cell?_of_block (Below.heap_alloc _ _ _ (by simp)),cell_of_row _ _ _ _ _ _ (heap_alloc_new w _)];rfl
theorem news_at{w:World}{g:Nat}(hg:w.heap.size=g)(xs:Array Value)(e:TypeId):∀(j:Nat) u,xs.toList[j]? = some u->(w.alloc (.cells xs e)).cell? ((⟨g,0,none⟩:Addr).add j)=some u:=by
 subst hg;exact World.news_of_block (heap_alloc_new w _)
theorem cellsOf_push(m:Nat)(f:Nat->K):cellsOf (m+1) f=cellsOf m f ++ [.int .u8 ((f m).n:Int)]:=by simp [cellsOf,List.range_succ]
theorem rowsOf_push(m:Nat)(A:Nat->Option Addr)(L C:Nat->Nat):rowsOf (m+1) A L C=rowsOf m A L C ++ [.slice (A m) (L m) (C m)]:=by simp [rowsOf,List.range_succ]
theorem owns_apart2{w:World}{b b' n m:Nat}{v u:Value}{xs ys:List Value}(h:w.ownsRow b 5 1 v n xs)(k:w.ownsRow b' 36 1 u m ys):u.ownBlock=none\/u.ownBlock ≠ v.ownBlock:=by
 cases e:u.ownBlock with
 | none=>exact .inl rfl
 | some g =>
  right
  rcases owns_apart' h k with h1 | h1
  ·rw [h1]; intro e'; cases e'
  ·intro e'; exact h1 (by rw [e,e'])
theorem dsum_any (w : World) (ta : Option Addr) (n tc m : Nat) (F : Nat -> K) (A : Nat -> Option Addr) (C L : Nat -> Nat) (H : M) (hn1 : 1 <= n) (hn : n <= 16) (hm1 : 1 <= m) (hm : m <= 65536) (ht : Trm w ta n F A C L H) (hL : ∀ i, i < n -> L i = m) :
    Calls Tryz.prog 233 #[.slice ta n tc] w fun e w' => ∃ g, e = .returned (.slice (some ⟨g, 0, none⟩) m m) /\ w.heap.size <= g /\ Own w' g m m (lin n F H) /\ Below w.heap.size w w' := by
  obtain ⟨i0, hi0, hz0, hz1, hz2⟩ := info_parts info5d
  obtain ⟨j0, hj, hj0, hj1, hj2⟩ := info_parts info23c
  have HT : Hid (Trm w ta n F A C L H) := ht
  have HLL : Hid (∀ i, i < n -> L i = m) := hL
  obtain ⟨b, rfl, _⟩ := ht.at_ (by omega)
  clear ht hL
  go_enter Tryz.func233, Tryz.ntmps233
  go_wp2
  go_loopw [3, 4, 11] (fun v u x wr => ∃ i : Nat, i <= n /\ x = .int .i64 i /\ (∃ fo fc, v = .slice fo i fc) /\ (∃ lo lc, u = .slice lo i lc) /\ Hid (wr.ownsRow w.heap.size 5 1 v i (cellsOf i F)) /\ Hid (wr.ownsRow w.heap.size 36 1 u i (rowsOf i A L C)) /\ Hid (Below w.heap.size w wr)) (fun _ _ x _ => n - (intOf x).toNat)
  case atStart => exact ⟨0, Nat.zero_le _, rfl, ⟨none, 0, rfl⟩, ⟨none, 0, rfl⟩, World.ownsRow_nil _ _ _ _, World.ownsRow_nil _ _ _ _, Below.refl _ _⟩
  case round =>
    obtain ⟨i, hi, rfl, ⟨fo, fc, rfl⟩, ⟨lo, lc, rfl⟩, hv, hu, hbel⟩ := hrel
    by_cases hlt : i < n
    · obtain ⟨b', e, hc⟩ := HT.out.at_ (by omega)
      cases e
      obtain ⟨c1, c2⟩ := hc i hlt
      replace c1 := held c1 hbel.out
      replace c2 := held c2 hbel.out
      clear hc
      have hws := hbel.out.size
      have i1 : (0 : Int) <= (i : Int) := by omega
      have i2 : (i : Int) < (n : Int) := by omega
      obtain ⟨XS, hXS⟩ : ∃ X, X = cellsOf i F := ⟨_, rfl⟩
      have HXS : Hid (cellsOf i F = XS) := hXS.symm
      obtain ⟨YS, hYS⟩ : ∃ X, X = rowsOf i A L C := ⟨_, rfl⟩
      have HYS : Hid (rowsOf i A L C = YS) := hYS.symm
      have HV : Hid (wr.ownsRow w.heap.size 5 1 (.slice fo i fc) i XS) := by rw [hXS]; exact hv.out
      have HU : Hid (wr.ownsRow w.heap.size 36 1 (.slice lo i lc) i YS) := by rw [hYS]; exact hu.out
      clear hXS hYS hv hu
      go_wp2_with (first
        | (at_builtin; refine wpList_append_lies _ (by rfl) (.tmp 15) (.tmp 18) 36 (by rfl) w.heap.size 5 i0 (.int .u8 0) 1 1 Tryz.underlying36 hi0 hz0 hz1 hz2 (by rfl) (by decide) (.slice fo i fc) i XS (by rfl) ((HV.out.alloc _).alloc _) ⟨wr.heap.size + 1, 0, none⟩ 1 1 [.int .u8 ((F i).n : Int)] (by rfl) (by rfl) (news_at (by simp) #[.int .u8 ((F i).n : Int)] 5) (by simp [Value.oneCell']) (by decide) (by unfold maxLen; omega) (by omega) (by simp; omega) (wr.heap.size + 2) (by simp) ?_; intro g1 cap1 w1 hown1 hgrow1 _ _
           have c3 : w1.cell? ⟨wr.heap.size, 1, none⟩ = some (.slice (A i) (L i) (C i)) := (by
             refine (World.cell?_of_block (hgrow1.block wr.heap.size (by simp; omega) (fun e => ?_))).trans (box_cell wr _ _ _ _)
             have := (HV.out.lt _ e.symm).2
             omega)
           have HV1 : Hid (w1.ownsRow w.heap.size 5 1 (.slice (some ⟨g1, 0, none⟩) (i + 1) cap1) (i + 1) (cellsOf (i + 1) F)) := (by rw [cellsOf_push, HXS.out]; exact hown1)
           have HU1 : Hid (w1.ownsRow w.heap.size 36 1 (.slice lo i lc) i YS) := ((HU.out.alloc _).alloc _).kept hgrow1 (owns_apart2 HV.out HU.out)
           have HB1 : Hid (Below w.heap.size w w1) := ((hbel.out.alloc (by omega) _).alloc (by simp; omega) _).grown hgrow1 (by simp; omega) (fun r hr => (HV.out.lt r hr).1)
           have hs1 := HB1.out.size
           clear hown1 hgrow1)
        | (at_builtin; refine wpList_append_lies _ (by rfl) (.tmp 20) (.tmp 23) 33 (by rfl) w.heap.size 36 j0 (.slice none 0 0) 1 24 Tryz.underlying33 hj hj0 hj1 hj2 (by rfl) (by decide) (.slice lo i lc) i YS (by rfl) (HU1.out.alloc _) ⟨w1.heap.size, 0, none⟩ 1 1 [.slice (A i) (L i) (C i)] (by rfl) (by rfl) (World.news_of_block (heap_alloc_new w1 _)) (by simp [Value.oneCell']) (by decide) (by unfold maxLen; omega) (by omega) (by simp; omega) (w1.heap.size + 1) (by simp) ?_; intro g2 cap2 w2 hown2 hgrow2 _ _))
      have HU2 : Hid (w2.ownsRow w.heap.size 36 1 (.slice (some ⟨g2, 0, none⟩) (i + 1) cap2) (i + 1) (rowsOf (i + 1) A L C)) := by rw [rowsOf_push, HYS.out]; exact hown2
      have HV2 : Hid (w2.ownsRow w.heap.size 5 1 (.slice (some ⟨g1, 0, none⟩) (i + 1) cap1) (i + 1) (cellsOf (i + 1) F)) := (HV1.out.alloc _).kept hgrow2 (owns_apart' HV1.out HU1.out)
      have HB2 : Hid (Below w.heap.size w w2) := (HB1.out.alloc (by omega) _).grown hgrow2 (by simp; omega) (fun r hr => (HU1.out.lt r hr).1)
      clear hown2 hgrow2
      go_roundw
      case rel => exact ⟨i + 1, by omega, by go_num, ⟨_, _, rfl⟩, ⟨_, _, rfl⟩, HV2, HU2, HB2⟩
      case measure => simp [intOf]; omega
    · obtain rfl : i = n := by omega
      have HD := dot_k wr fo lo i fc lc m F A C L H hn1 hn hm1 hm (owns_rd hv.out) (lst_owns hu.out fun j hj => (HT.out.rd j hj).below hbel.out) HLL.out
      have hws := hbel.out.size
      clear hv hu
      go_wp2_with (go_at_call 290; refine HD.mono ?_; rintro e w' ⟨g, rfl, hg, ho, hb⟩)
      go_ret
      exact ⟨g, rfl, by omega, ho, below_step hbel.out hb hws⟩
def duo {α:Type} (a b:α) (i:Nat):α:=if i=0 then a else b
theorem duo_0{α:Type}(a b:α):duo a b 0=a:=rfl
theorem duo_1{α:Type}(a b:α):duo a b 1=b:=rfl
theorem lst_duo{w:World}{g:Nat}(hg:w.heap.size=g)(ao bo:Option Addr)(la ca lb cb:Nat)(f h:Nat->K)(ha:Rd w ao la f)(hb:Rd w bo lb h):
  Lst (w.alloc (.cells #[.slice ao la ca,.slice bo lb cb] 36)) (some ⟨g,0,none⟩) 2 (duo ao bo) (duo ca cb) (duo la lb) (duo f h):=by
 subst hg;refine⟨fun i hi=>?_,fun _=>⟨_,0,rfl,fun i hi=>?_⟩⟩
 ·obtain rfl | rfl:i=0\/i=1:=by omega
  ·exact ha.alloc _
  ·exact hb.alloc _
 ·rw [Nat.zero_add,cell_of_row _ _ _ _ _ _ (heap_alloc_new w _)];obtain rfl | rfl:i=0\/i=1:=by omega
  ·rfl
  ·rfl
theorem trm_duo{w:World}{g:Nat}(hg:w.heap.size=g)(ao bo:Option Addr)(la ca lb cb:Nat)(f h:Nat->K)(ha:Rd w ao la f)(hb:Rd w bo lb h):
  Trm (w.alloc (.cells #[.int .u8 1,.slice ao la ca,.int .u8 1,.slice bo lb cb] 283)) (some ⟨g,0,none⟩) 2 (fun _=>1) (duo ao bo) (duo ca cb) (duo la lb) (duo f h):=by
 subst hg;refine⟨fun i hi=>?_,fun _=>⟨_,rfl,fun i hi=>?_⟩⟩
 ·obtain rfl | rfl:i=0\/i=1:=by omega
  ·exact ha.alloc _
  ·exact hb.alloc _
 ·rw [cell_of_row _ _ _ _ _ _ (heap_alloc_new w _),cell_of_row _ _ _ _ _ _ (heap_alloc_new w _)];obtain rfl | rfl:i=0\/i=1:=by omega
  ·exact⟨rfl,rfl⟩
  ·exact⟨rfl,rfl⟩
def okOf (la lb:Nat):Bool:=alikeB 2 (duo la lb)
theorem okOf_true{la lb:Nat}(h:okOf la lb=true):1<=la/\la<=65536/\lb=la:=by
 have h0:=alikeB_true h 0 (by omega);have h1:=alikeB_true h 1 (by omega);rw [duo_0] at h0;rw [duo_0,duo_1] at h1;exact⟨h0.1,h0.2.1,h1.2.2⟩
def addF (f h:Nat->K) (i:Nat):K:=K.add (f i) (h i)
theorem lin_duo(f h:Nat->K):lin 2 (fun _=>1) (duo f h)=addF f h:=by
 funext b
 rw [lin_succ,lin_succ,lin_zero,K.zero_add,K.one_mul,K.one_mul];rfl
theorem Of_any(w:World)(ao bo:Option Addr)(la ca lb cb:Nat)(f h:Nat->K)(ha:Rd w ao la f)(hb:Rd w bo lb h):
  Calls Tryz.prog 161 #[.slice ao la ca,.slice bo lb cb] w (OneAnsD w (okOf la lb) 40 la (addF f h)):=by
 have HA:=alike_any (w.alloc (.cells #[.slice ao la ca,.slice bo lb cb] 36)) (some ⟨w.heap.size,0,none⟩) 2 2 _ _ _ _ (by omega) (lst_duo rfl ao bo la ca lb cb f h ha hb);cases hok:okOf la lb
 ·rw [show alikeB 2 (duo la lb)=false from hok] at HA;clear ha hb hok;go_enter Tryz.func161,Tryz.ntmps161
  go_wp2_with (go_at_call 232; refine HA.mono ?_; rintro e w' ⟨rfl,hw'⟩; obtain rfl:=hw'.symm)
  go_ret2;exact⟨none,0,rfl,.inl ⟨rfl,rfl,rfl⟩,bal _ _⟩
 ·obtain⟨h1,h2,rfl⟩:=okOf_true hok;rw [show alikeB 2 (duo lb lb)=true from hok] at HA;have HS:Hid (Calls Tryz.prog 233 #[.slice (some ⟨w.heap.size+1,0,none⟩) 2 2] ((w.alloc (.cells #[.slice ao lb ca,.slice bo lb cb] 36)).alloc (.cells #[.int .u8 1,.slice ao lb ca,.int .u8 1,.slice bo lb cb] 283)) fun e w'=>∃ g,e=.returned (.slice (some ⟨g,0,none⟩) lb lb)/\((w.alloc (.cells #[.slice ao lb ca,.slice bo lb cb] 36)).alloc (.cells #[.int .u8 1,.slice ao lb ca,.int .u8 1,.slice bo lb cb] 283)).heap.size<=g/\Own w' g lb lb (lin 2 (fun _=>1) (duo f h))/\Below ((w.alloc (.cells #[.slice ao lb ca,.slice bo lb cb] 36)).alloc (.cells #[.int .u8 1,.slice ao lb ca,.int .u8 1,.slice bo lb cb] 283)).heap.size ((w.alloc (.cells #[.slice ao lb ca,.slice bo lb cb] 36)).alloc (.cells #[.int .u8 1,.slice ao lb ca,.int .u8 1,.slice bo lb cb] 283)) w') :=
   dsum_any _ _ 2 2 lb _ _ _ _ _ (by omega) (by omega) h1 h2 (trm_duo (by simp) ao bo lb ca lb cb f h (ha.alloc _) (hb.alloc _)) (fun i hi=>by unfold duo; split <;> rfl)
  clear ha hb hok;go_enter Tryz.func161,Tryz.ntmps161
  go_wp2_with (first | (go_at_call 232; refine HA.mono ?_; rintro e w' ⟨rfl,hw'⟩; obtain rfl:=hw'.symm) | (go_at_call 233; refine HS.out.mono ?_; rintro e w2 ⟨g,rfl,hg,ho,hbel⟩))
  go_ret2;rw [lin_duo] at ho;refine⟨_,_,rfl,.inr ⟨g,rfl,?_,ho.lt,ho⟩,below_step (below_2 w _ _) hbel (by simp; omega)⟩;simp at hg;omega
theorem concat_any(w:World)(g:Nat)(po qo:Option Addr)(pl pc ql qc:Nat)(PA QA:Nat->Option Addr)(PC PL QC QL:Nat->Nat)(P Q:M)(c0:w.cell? ⟨g,0,none⟩=some (.slice po pl pc))(c1:w.cell? ⟨g,1,none⟩=some (.slice qo ql qc))
  (hpl:pl<=100) (hql:ql<=100) (hpn:po=none->pl=0/\pc=0) (hqn:qo=none->ql=0/\qc=0) (hp:Lst w po pl PA PC PL P) (hq:Lst w qo ql QA QC QL Q) :
  Calls Tryz.prog 236 #[.slice (some ⟨g,0,none⟩) 2 2] w fun e w'=>∃ ro rc,e=.returned (.slice ro (pl+ql) rc)/\Lst w' ro (pl+ql) (cat pl PA QA) (cat pl PC QC) (cat pl PL QL) (cat pl P Q)/\Below w.heap.size w w':=by
 have HP:Hid (Lst w po pl PA PC PL P):=hp;have HQ:Hid (Lst w qo ql QA QC QL Q):=hq;have HPN:Hid (po=none->pl=0/\pc=0):=hpn;have HQN:Hid (qo=none->ql=0/\qc=0):=hqn;clear hp hq hpn hqn;go_enter Tryz.func236,Tryz.ntmps236
 go_wp2;go_loop [3,11] (fun s x=>(s=.int .i64 0/\x=.int .i64 0)\/(s=.int .i64 (pl:Int)/\x=.int .i64 1)\/(s=.int .i64 ((pl:Int)+(ql:Int))/\x=.int .i64 2)) (fun _ x=>2-(intOf x).toNat)
 case atStart=>exact .inl ⟨rfl,rfl⟩
 case round =>
  rcases hrel with ⟨rfl,rfl⟩ | ⟨rfl,rfl⟩ | ⟨rfl,rfl⟩
  ·go_wp2;go_round
   case rel=>exact .inr (.inl ⟨by go_num,by go_num⟩)
   case measure=>simp [intOf]
  ·go_wp2;go_round
   case rel=>exact .inr (.inr ⟨by go_num,by go_num⟩)
   case measure=>simp [intOf]
  ·have HG:=grow_any w (pl+ql) (by omega);rw [Int.natCast_add] at HG;go_wp2_with (go_at_call 300; refine HG.mono ?_; rintro e w1 ⟨ao,cap,rfl,hown,hb⟩)
   have HO1:Hid (w1.ownsRow w.heap.size 36 1 (.slice ao 0 cap) 0 []):=hown;have HB1:Hid (Below w.heap.size w w1):=hb;clear hown hb HG;go_loopw [6,27] (fun v x wr=>(x=.int .i64 0/\∃ ao c,v=.slice ao 0 c/\Hid (wr.ownsRow w.heap.size 36 1 v 0 [])/\Hid (Below w.heap.size w wr))\/(x=.int .i64 1/\∃ ao c,v=.slice ao pl c/\Hid (wr.ownsRow w.heap.size 36 1 v pl (rowsOf pl PA PL PC))/\Hid (Below w.heap.size w wr))
    \/ (x=.int .i64 2/\∃ ao c,v=.slice ao (pl+ql) c/\Hid (wr.ownsRow w.heap.size 36 1 v (pl+ql) (rowsOf pl PA PL PC ++ rowsOf ql QA QL QC))/\Hid (Below w.heap.size w wr))) (fun _ x _=>2-(intOf x).toNat)
   case atStart=>exact .inl ⟨rfl,ao,cap,rfl,HO1,HB1⟩
   case round =>
    rcases hrel with ⟨rfl,ao,c,rfl,hown,hbel⟩ | ⟨rfl,ao,c,rfl,hown,hbel⟩ | ⟨rfl,ao,c,rfl,hown,hbel⟩
    ·have d0:=held c0 hbel.out;have hws:=hbel.out.size;have HL:Hid (Lst wr po pl PA PC PL P):=HP.out.below hbel.out;go_wp2_with (at_builtin; refine wpList_append_list (by rfl) (.tmp 31) (.tmp 32) (by rfl) w.heap.size 0 pl c pc ao po [] PA PL PC P (by rfl) (by rfl) hown.out HPN.out HL.out (by omega) (by omega) (by omega) ?_; intro ao' c' w' hown' hgrow')
     have HO2:Hid (w'.ownsRow w.heap.size 36 1 (.slice ao' (0+pl) c') (0+pl) ([] ++ rowsOf pl PA PL PC)):=hown';have HB2:Hid (Below w.heap.size w w'):=hbel.out.grown hgrow' hws (fun r hr=>(hown.out.lt r hr).1);rw [Nat.zero_add] at HO2;clear hown' hgrow';go_roundw
     case rel=>exact .inr (.inl ⟨by go_num,ao',c',rfl,HO2,HB2⟩)
     case measure=>simp [intOf]
    ·have d0:=held c1 hbel.out;have hws:=hbel.out.size;have HL:Hid (Lst wr qo ql QA QC QL Q):=HQ.out.below hbel.out;obtain⟨XS,hXS⟩:∃ X,X=rowsOf pl PA PL PC:=⟨_,rfl⟩
     have HXS:Hid (rowsOf pl PA PL PC=XS):=hXS.symm;have HO:Hid (wr.ownsRow w.heap.size 36 1 (.slice ao pl c) pl XS):=by rw [hXS]; exact hown.out
     clear hXS hown;go_wp2_with (at_builtin; refine wpList_append_list (by rfl) (.tmp 31) (.tmp 32) (by rfl) w.heap.size pl ql c qc ao qo XS QA QL QC Q (by rfl) (by rfl) HO.out HQN.out HL.out (by omega) (by omega) (by omega) ?_; intro ao' c' w' hown' hgrow')
     have HO2:Hid (w'.ownsRow w.heap.size 36 1 (.slice ao' (pl+ql) c') (pl+ql) (rowsOf pl PA PL PC ++ rowsOf ql QA QL QC)):=by rw [HXS.out]; exact hown'
     have HB2:Hid (Below w.heap.size w w'):=hbel.out.grown hgrow' hws (fun r hr=>(HO.out.lt r hr).1);clear hown' hgrow';go_roundw
     case rel=>exact .inr (.inr ⟨by go_num,ao',c',rfl,HO2,HB2⟩)
     case measure=>simp [intOf]
    ·go_wp2;go_ret;refine⟨ao,c,rfl,lst_owns (by rw [<- rowsOf_cat]; exact hown.out) fun i hi=>?_,hbel.out⟩;by_cases e:i<pl
     ·rw [cat_lo _ _ e,cat_lo _ _ e,cat_lo _ _ e];exact(HP.out.rd i e).below hbel.out
     ·obtain⟨q,rfl⟩:∃ q,i=pl+q:=⟨i-pl,by omega⟩
      rw [cat_hi,cat_hi,cat_hi];exact(HQ.out.rd q (by omega)).below hbel.out
theorem crow_good(w:World)(k r i:Nat)(hk1:1<=k)(hk:k<=12)(hr:r<=4)(hi:i<r):
  Calls Tryz.prog 234 #[.int .i64 (k:Int),.int .i64 (r:Int),.int .i64 ((k:Int)+(i:Int))] w fun e w'=>∃ g u,e=.returned (.tuple #[.slice (some ⟨g,0,none⟩) k u,.int .i64 0])/\w.heap.size<=g/\Own w' g k u (gen k (k+i))/\Below w.heap.size w w':=by
 have h:=Row_any w (k:Int) (r:Int) ((k:Int)+(i:Int));have e1:okRowD (k:Int) (r:Int) ((k:Int)+(i:Int))=true:=by
  unfold okRowD;rw [Bool.and_eq_true];exact⟨decide_eq_true (by omega),decide_eq_true (by omega)⟩
 rw [e1,Int.toNat_natCast,show ((k:Int)+(i:Int)).toNat=k+i by omega] at h;refine h.mono ?_;rintro e w' ⟨ao,cap,rfl,hs,hb⟩;rcases hs with ⟨_,h0,_⟩ | ⟨g,rfl,hg,_,ho⟩
 ·exact absurd (show k=0 from h0) (by omega)
 ·exact⟨g,cap,rfl,hg,ho,hb⟩
theorem owns_drew{w:World}{base e size n:Nat}{v:Value}{xs:List Value}(h:w.ownsRow base e size v n xs):w.drew.ownsRow base e size v n xs:=h
theorem news_drew(w:World)(xs:Array Value)(e:TypeId):∀(j:Nat) u,xs.toList[j]? = some u->(w.alloc (.cells xs e)).drew.cell? ((⟨w.heap.size,0,none⟩:Addr).add j)=some u:=fun j u h=>news_at rfl xs e j u h
theorem step_append_lies{P:Program}{ops:Array Oper}{o:Oper}{a:Act}{w:World}{K:Act->World->Prop}{Q:Exit->Act->World->Prop}{E:Prop}(hgd:o.guard=none)(s x:Operand)(t:TypeId)
  (ho:o.op=.call { callee:=.builtin .append,args:=#[s,x],argTypes:=#[t,t]})
  (base:Nat) (e:TypeId) (i:TypeInfo) (z:Value) (size bytes:Nat) (ht:P.underlying t=some (.slice e)) (hi:P.info? e=some i) (hz:i.zero=some z)
  (hsize:i.size=size) (hby:i.bytes=bytes) (hzs:z.cells.size=size) (hsz:0<size)
  (v:Value) (n:Nat) (xs:List Value) (hs:a.eval s=v) (hown:w.ownsRow base e size v n xs)
  (ad:Addr) (m c:Nat) (news:List Value) (hx:a.eval x=.slice (some ad) m c) (hl:news.length=m*size) (hnews:∀ j u,news[j]? = some u->w.cell? (ad.add j)=some u) (h1:∀ u ∈ news,u.oneCell'=true)
  (hm:0<m) (h63:n+m<=maxLen) (hbytes:(n+m)*bytes<=140737488355328) (hbase:base<=w.heap.size) (H:Nat) (hH:w.heap.size=H)
  (h:∀ g cap w',w'.ownsRow base e size (.slice (some ⟨g,0,none⟩) (n+m) cap) (n+m) (xs ++ news)->w.grownBy w' v.ownBlock->(v.ownBlock=some g\/g=H)->g<w'.heap.size->K (a.put o.dst (.slice (some ⟨g,0,none⟩) (n+m) cap)) w') :
  if Region.wanted o (yielded ops a.tmps)=true then Oper.wp P o a w K Q else E:=by
 have hw:Region.wanted o (yielded ops a.tmps)=true:=by simp [Region.wanted,hgd]
 rw [if_pos hw];exact wp_append_lies w s x t ho base e i z size bytes ht hi hz hsize hby hzs hsz v n xs hs hown ad m c news hx hl hnews h1 hm h63 hbytes hbase H hH h
theorem info45d:(Tryz.prog.info? 283).map (fun i=>(i.zero,i.size,i.bytes))=some (some (.agg #[.int .u8 0,.slice none 0 0]),2,32):=by kernel_rfl
theorem added_any(w:World)(b1 b2 b3 b4 k r i n cc dc:Nat)(co qo:Option Addr)(R:Nat->Int)(DA:Nat->Option Addr)(DC DL:Nat->Nat)(D:M)
  (h1:w.cell? ⟨b1,0,none⟩=some (.int .i64 (k:Int))) (h2:w.cell? ⟨b2,0,none⟩=some (.int .i64 (r:Int))) (h3:w.cell? ⟨b3,0,none⟩=some (.slice co n cc)) (h4:w.cell? ⟨b4,0,none⟩=some (.slice qo n dc))
  (hk1:1<=k) (hk:k<=12) (hr:r<=4) (hi:i<r) (hn:n<=12) (hc:RdI w co n R) (hR:∀ j,j<n->0<=R j/\R j<(k:Int)) (hd:Lst w qo n DA DC DL D) :
  Calls Tryz.prog 301 #[.int .i64 (i:Int),.pointer (some ⟨b1,0,none⟩),.pointer (some ⟨b2,0,none⟩),.pointer (some ⟨b3,0,none⟩),.pointer (some ⟨b4,0,none⟩)] w fun e w'=>∃ ao c,e=.returned (.slice ao n c)/\w'.ownsRow w.heap.size 283 2 (.slice ao n c) n (termsOf (fac k R i) DA DL DC n)/\Below w.heap.size w w':=by
 obtain⟨j0,hj,hj0,hj1,hj2⟩:=info_parts info45d;have HROW:=crow_good w k r i hk1 hk hr hi;have HC:Hid (RdI w co n R):=hc;have HR:Hid (∀ j,j<n->0<=R j/\R j<(k:Int)):=hR;have HD:Hid (Lst w qo n DA DC DL D):=hd;have H4:Hid (w.cell? ⟨b4,0,none⟩=some (.slice qo n dc)):=h4;have H3:Hid (w.cell? ⟨b3,0,none⟩=some (.slice co n cc)):=h3;clear hc hR hd h3 h4;go_enter Tryz.func301,Tryz.ntmps301
 go_wp2_with (go_at_call 234; refine HROW.mono ?_; rintro e w1 ⟨g,u,rfl,hg,ho,hb⟩; have d3:=held H3.out hb)
 have HO:Hid (Own w1 g k u (gen k (k+i))):=ho;have HB:Hid (Below w.heap.size w w1):=hb;have hw1:=hb.size;clear ho hb HROW d3;go_loopw [9,23] (fun v x wr=>∃ j:Nat,j<=n/\x=.int .i64 j/\(∃ ao c,v=.slice ao j c)/\Hid (wr.ownsRow w1.heap.size 283 2 v j (termsOf (fac k R i) DA DL DC j))/\Hid (Below w1.heap.size w1 wr)) (fun _ x _=>n-(intOf x).toNat)
 case atStart=>exact⟨0,Nat.zero_le _,rfl,⟨none,0,rfl⟩,World.ownsRow_nil _ _ _ _,Below.refl _ _⟩
 case round =>
  obtain⟨j,hjn,rfl,⟨ao,c,rfl⟩,hown,hbel⟩:=hrel;have bb:Below w.heap.size w wr:=below_step HB.out hbel.out hw1;by_cases hlt:j<n
  ·obtain⟨bc,oc,rfl,hcc⟩:=HC.out (by omega);obtain⟨bd,od,rfl,hcd⟩:=HD.out.at_ (by omega);have d1:=held (hcc j hlt) bb;have d2:=held (hcd j hlt) bb;have d4:=held H4.out bb;have E2:Hid (w1.cell? ⟨b4,0,none⟩=some (.slice (some ⟨bd,od,none⟩) n dc)):=held H4.out HB.out;have E3:Hid (w1.cell? ⟨bd,od+j,none⟩=some (.slice (DA j) (DL j) (DC j))):=held (hcd j hlt) HB.out;obtain⟨x1,x2⟩:=HR.out j hlt;obtain⟨q,hq⟩:=Int.eq_ofNat_of_zero_le x1;have d5:=(HO.out.below hbel.out).cell (i:=q) (by omega);have E1:w1.cell? ⟨g,q,none⟩=some (.int .u8 ((gen k (k+i) q).n:Int)):=HO.out.cell (by omega);have HF:Hid (gen k (k+i) q=fac k R i j):=by show _=_; unfold fac; rw [hq,Int.toNat_natCast]
   rw [hq] at d1;have x3:(0:Int)<=(q:Int):=by omega
   have x4:(q:Int)<(k:Int):=by omega
   obtain⟨fx,hfx⟩:∃ fx,fx=gen k (k+i) q:=⟨_,rfl⟩
   rw [<- hfx] at d5 E1
   replace E1:Hid (w1.cell? ⟨g,q,none⟩=some (.int .u8 (fx.n:Int))):=E1
   have HFX:Hid (fx=fac k R i j):=by show _=_; rw [hfx]; exact HF.out
   clear hcc hcd hq x1 x2 hfx HF;have i1:(0:Int)<=(j:Int):=by omega
   have i2:(j:Int)<(n:Int):=by omega
   have hws:=hbel.out.size;have hwb:=bb.size;obtain⟨XS,hXS⟩:∃ X,X=termsOf (fac k R i) DA DL DC j:=⟨_,rfl⟩
   have HXS:Hid (termsOf (fac k R i) DA DL DC j=XS):=hXS.symm;have HV:Hid (wr.ownsRow w1.heap.size 283 2 (.slice ao j c) j XS):=by rw [hXS]; exact hown.out
   clear hXS hown bb;have k1:∀ o,(wr.alloc o).cell? ⟨g,q,none⟩=some (.int .u8 (fx.n:Int)):=fun o=>held d5 (bal wr o);have k2:∀ o,(wr.alloc o).cell? ⟨b4,0,none⟩=some (.slice (some ⟨bd,od,none⟩) n dc):=fun o=>held d4 (bal wr o);have k3:∀ o,(wr.alloc o).cell? ⟨bd,od+j,none⟩=some (.slice (DA j) (DL j) (DC j)):=fun o=>held d2 (bal wr o);go_wp2;go_region_held3 (fun w'=>w'.cell? ⟨g,q,none⟩=some (.int .u8 (fx.n:Int))/\w'.cell? ⟨b4,0,none⟩=some (.slice (some ⟨bd,od,none⟩) n dc)/\w'.cell? ⟨bd,od+j,none⟩=some (.slice (DA j) (DL j) (DC j))) (go_keep) ((refine step_append_lies (by rfl) (.tmp 28) (.tmp 38) 288 (by rfl) w1.heap.size 283 j0 (.agg #[.int .u8 0,.slice none 0 0]) 2 32 Tryz.underlying288 hj hj0 hj1 hj2 (by rfl) (by decide) (.slice ao j c) j XS (by simp [Act.eval]) (owns_drew (HV.out.alloc _)) ⟨wr.heap.size,0,none⟩ 1 1 [.int .u8 (fx.n:Int),.slice (DA j) (DL j) (DC j)] (by simp [Act.eval]) (by rfl) (news_drew wr #[.int .u8 (fx.n:Int),.slice (DA j) (DL j) (DC j)] 283) (by simp [Value.oneCell']) (by decide) (by unfold maxLen; omega) (by omega) (by show _<=(wr.alloc _).heap.size; simp; omega) (wr.heap.size+1) (by show (wr.alloc _).heap.size=_; simp) ?_; intro g2 cap2 w2 hown2 hgrow2 _ _; have HB2:Hid (Below w1.heap.size w1 w2):=((hbel.out.alloc (by omega) _).drew).grown hgrow2 (by show _<=(wr.alloc _).heap.size; simp; omega) (fun r hr=>(HV.out.lt r hr).1); have s1:=held E1.out HB2.out; have s2:=held E2.out HB2.out; have s3:=held E3.out HB2.out))
   have HV2:Hid (w2.ownsRow w1.heap.size 283 2 (.slice (some ⟨g2,0,none⟩) (j+1) cap2) (j+1) (termsOf (fac k R i) DA DL DC (j+1))):=by rw [termsOf,HXS.out,<- HFX.out]; exact hown2
   clear hown2 hgrow2 s1 s2 s3 k1 k2 k3;go_wp2;go_roundw
   case rel=>exact⟨j+1,by omega,by go_num,⟨_,_,rfl⟩,HV2,HB2⟩
   case measure=>simp [intOf]; omega
  ·obtain rfl:j=n:=by omega
   go_wp2;go_ret;exact⟨ao,c,rfl,owns_base hown.out hw1,bb⟩
theorem prod_any(w:World)(k r:Int)(co qo:Option Addr)(n cc dl dc:Nat):
  Calls Tryz.prog 237 #[.int .i64 k,.int .i64 r,.slice co n cc,.slice qo dl dc] w fun e w'=>∃ b1 b2 b3 b4,e=.returned (.func (.func 301) #[] #[.pointer (some ⟨b1,0,none⟩),.pointer (some ⟨b2,0,none⟩),.pointer (some ⟨b3,0,none⟩),.pointer (some ⟨b4,0,none⟩)]) /\
   w'.cell? ⟨b1,0,none⟩=some (.int .i64 k)/\w'.cell? ⟨b2,0,none⟩=some (.int .i64 r)/\w'.cell? ⟨b3,0,none⟩=some (.slice co n cc)/\w'.cell? ⟨b4,0,none⟩=some (.slice qo dl dc)/\Below w.heap.size w w':=by
 go_enter Tryz.func237,Tryz.ntmps237
 go_wp2;go_ret;have bx:∀(w:World) (v:Value) (e:TypeId),(w.alloc (.cells #[v] e)).cell? ⟨w.heap.size,0,none⟩=some v:=fun w v e=>by rw [cell_of_row _ _ _ _ _ _ (heap_alloc_new w _)]; rfl
 have up:∀(w:World) (o:Obj) (a:Addr) (v:Value),w.cell? a=some v->(w.alloc o).cell? a=some v:=fun w o a v h=>held h (bal w o);have sz:∀(w:World) (o:Obj),(w.alloc o).heap.size=w.heap.size+1:=fun w o=>by simp
 refine⟨_,_,_,_,rfl,up _ _ _ _ (up _ _ _ _ (up _ _ _ _ (bx _ _ _))),up _ _ _ _ (up _ _ _ _ ?_),up _ _ _ _ ?_,?_,((below_2 w _ _).alloc (by simp; omega) _).alloc (by simp; omega) _⟩
 ·rw [<- sz w (.cells #[.int .i64 k] 3)]; exact bx _ _ _
 ·rw [<- sz w (.cells #[.int .i64 k] 3),<- sz _ (.cells #[.int .i64 r] 3)]; exact bx _ _ _
 ·rw [<- sz w (.cells #[.int .i64 k] 3),<- sz _ (.cells #[.int .i64 r] 3),<- sz _ (.cells #[.slice co n cc] 27)]; exact bx _ _ _
theorem Part.fill{w w':World}{B rows cols k g:Nat}{G:Nat->Nat}{f:M}(h:Part w B rows cols k G f)(hb:Below w.heap.size w w')(hg:w.heap.size<=g)(ho:Own w' g cols cols (f k)):
  Part (w'.setCell ⟨B,k,none⟩ (.slice (some ⟨g,0,none⟩) cols cols)) B rows cols (k+1) (put k g G) f:=by
 obtain⟨c,hr,hc⟩:=h.lst;have hB:=hr.lt;have hr2:=(hr.of_block (hb.block B hB)).set k (.slice (some ⟨g,0,none⟩) cols cols);refine⟨⟨_,hr2,fun i hi=>?_⟩,fun i hi=>?_,fun i hi=>?_,fun i j hi hj hne=>?_⟩
 ·by_cases e:i=k
  ·subst e; rw [put_at]; simp
  ·rw [put_ne _ _ e]; simp only [e,if_false]; exact hc i (by omega)
 ·by_cases e:i=k
  ·subst e; rw [put_at]; exact ho.of_block (Below.heap_setCell _ _ _ _ (by simp; omega))
  ·rw [put_ne _ _ e];have h1:=(h.row i (by omega)).lt;have h2:=h.los i (by omega);exact(h.row i (by omega)).of_block ((Below.heap_setCell _ _ _ _ (by simp; omega)).trans (hb.block _ h1))
 ·by_cases e:i=k
  ·subst e; rw [put_at]; omega
  ·rw [put_ne _ _ e]; exact h.los i (by omega)
 ·by_cases e:i=k
  ·by_cases e':j=k
   ·omega
   ·subst e;rw [put_at,put_ne _ _ e'];have:=(h.row j (by omega)).lt;omega
  ·by_cases e':j=k
   ·subst e';rw [put_at,put_ne _ _ e];have:=(h.row i (by omega)).lt;omega
   ·rw [put_ne _ _ e,put_ne _ _ e']; exact h.apart i j (by omega) (by omega) hne
theorem Mat.base{w:World}{B B' T l cl rows cols:Nat}{G U:Nat->Nat}{H:M}(h:Mat w B T l cl rows cols G U H)(hb:B'<=B):Mat w B' T l cl rows cols G U H :=
 ⟨h.lst,h.room,h.row,Nat.le_trans hb h.lo,h.hi,fun i hi=>Nat.le_trans hb (h.los i hi),h.his,h.apart⟩
theorem okRow_zero(k r:Int):okRowD k r 0=mayB k r:=by
 unfold okRowD;cases h:mayB k r
 ·rfl
 ·obtain⟨h1,h2,h3,h4⟩:=mayB_true h;rw [Bool.true_and];exact decide_eq_true (by omega)
theorem all_no{w w':World}{err:Int}{n cols:Nat}{H:M}(hb:Below w.heap.size w w'):Made w false err n cols H (.returned (.tuple #[.slice none 0 0,.int .i64 err])) w':=⟨none,0,rfl,.inl ⟨rfl,rfl,rfl⟩,hb⟩
theorem bne_yes{a b:Int}(h:a ≠ b):(a != b)=true:=by simp [h]
theorem bne_no(a:Int):(a != a)=false:=by simp
theorem all_good(w:World)(k pl n pc cc dc:Nat)(po co qo:Option Addr)(PA:Nat->Option Addr)(PC PL:Nat->Nat)(P:M)(R:Nat->Int)(DA:Nat->Option Addr)(DC DL:Nat->Nat)(D:M)
  (hk1:1<=k) (hk:k<=12) (hr:pl<=4) (hp:Lst w po pl PA PC PL P) (hpn:po=none->pl=0/\pc=0) (hcr:RdI w co n R) (hcc:n<=cc) (hq:Lst w qo n DA DC DL D) (hqn:qo=none->n=0/\dc=0)
  (ha:alikeB pl PL=true) (ho:onceB (k:Int) n R=true) (hf:alikeB (pl+n) (cat pl PL DL)=true) :
  Calls Tryz.prog 162 #[.int .i64 (k:Int),.int .i64 (pl:Int),.slice po pl pc,.slice co n cc,.slice qo n dc] w (Made w true 0 pl (PL 0) (upd k n R D P)):=by
 have hROW:=Row_any w (k:Int) (pl:Int) 0;rw [okRow_zero,show mayB (k:Int) (pl:Int)=true from decide_eq_true (by omega)] at hROW;have e0:errB true 2=0:=rfl;obtain⟨o1,o2⟩:=onceB_true ho;have HA:Hid (∀ w1,Below w.heap.size w w1->Calls Tryz.prog 232 #[.slice po pl pc] w1 fun e w'=>e=.returned (.bool true)/\w'=w1):=fun w1 hb=>by
  have:=alike_any w1 po pl pc PA PC PL P (by omega) (hp.below hb); rwa [ha] at this
 have HO:Hid (∀ w1,Below w.heap.size w w1->Calls Tryz.prog 235 #[.int .i64 (k:Int),.slice co n cc] w1 fun e w'=>e=.returned (.bool true)/\w'=w1):=fun w1 hb=>by
  have:=once_any w1 (k:Int) co n cc R hcc (by omega) (hcr.below hb); rwa [ho] at this
 have HC:Hid (∀ w1,Below w.heap.size w w1->Calls Tryz.prog 236 #[.slice (some ⟨w1.heap.size,0,none⟩) 2 2] (w1.alloc (.cells #[.slice po pl pc,.slice qo n dc] 33)) fun e w'=>∃ ro rc,e=.returned (.slice ro (pl+n) rc)/\Lst w' ro (pl+n) (cat pl PA DA) (cat pl PC DC) (cat pl PL DL) (cat pl P D)/\Below w.heap.size w w'):=fun w1 hb=>by
  refine(concat_any (w1.alloc (.cells #[.slice po pl pc,.slice qo n dc] 33)) w1.heap.size po qo pl pc n dc PA DA PC PL DC DL P D ?_ ?_ (by omega) (by omega) hpn hqn ((hp.below hb).alloc _) ((hq.below hb).alloc _)).mono ?_
  ·rw [cell_of_row _ _ _ _ _ _ (heap_alloc_new w1 _)]; rfl
  ·rw [cell_of_row _ _ _ _ _ _ (heap_alloc_new w1 _)]; rfl
  ·rintro e w' ⟨ro,rc,rfl,hl,hb'⟩;exact⟨ro,rc,rfl,hl,below_step (hb.alloc hb.size _) hb' (by have:=hb.size; simp; omega)⟩
 have HP:Hid (Lst w po pl PA PC PL P):=hp;have HCR:Hid (RdI w co n R):=hcr;have HQ:Hid (Lst w qo n DA DC DL D):=hq;have HL:Hid ((∀ i,i<pl->PL i=PL 0)/\(∀ i,i<n->0<pl->DL i=PL 0)/\(0<pl->1<=PL 0/\PL 0<=65536)):=by
  have h1:=alikeB_true ha;have h2:=alikeB_true hf;refine⟨fun i hi=>(h1 i hi).2.2,fun i hi hp=>?_,fun hp=>⟨(h1 0 hp).1,(h1 0 hp).2.1⟩⟩;have:=(h2 (pl+i) (by omega)).2.2;rw [cat_hi,cat_lo _ _ hp] at this;exact this
 have HR:Hid (∀ j,j<n->0<=R j/\R j<(k:Int)):=fun j hj=>(o2 j hj).1;have HF:Hid (alikeB (pl+n) (cat pl PL DL)=true):=hf;obtain⟨m,hm⟩:∃ m,m=PL 0:=⟨_,rfl⟩
 have HM:Hid (m=PL 0):=hm;rw [<- hm];have hm1:=run_make_row' (P:=Tryz.prog) 33 36 (.slice none 0 0) 24 Tryz.underlying33 info34 rfl .i64 .i64 pl (by omega) (by omega);obtain⟨j0,hj,hj0,hj1,hj2⟩:=info_parts info45d;have hbn1:=bne_no (pl:Int);have hbn2:=bne_no (n:Int);clear hp hcr hq hpn hqn ha ho hf hm o2 hcc;go_enter Tryz.func162,Tryz.ntmps162
 go_wp2_with fail
 refine hROW.mono ?_;rintro e w1 ⟨ra,rc,rfl,_,b1⟩;go_wp2_with fail
 refine(HA.out w1 b1).mono ?_;rintro e w' ⟨rfl,hw'⟩;obtain rfl:=hw'.symm;go_wp2_with fail
 refine(HO.out w1 b1).mono ?_;rintro e w' ⟨rfl,hw'⟩;obtain rfl:=hw'.symm;go_wp2_with fail
 refine(HC.out w1 b1).mono ?_;rintro e w2 ⟨ro,rc2,rfl,hl2,b2⟩;have HA2:Calls Tryz.prog 232 #[.slice ro (pl+n) rc2] w2 fun e w'=>e=.returned (.bool true)/\w'=w2:=by
  have:=alike_any w2 ro (pl+n) rc2 _ _ _ _ (by omega) hl2; rwa [HF.out] at this
 clear hl2 b1 hROW;go_wp2_with fail
 refine HA2.mono ?_;rintro e w' ⟨rfl,hw'⟩;obtain rfl:=hw'.symm;clear HA2;go_wp2_with fail
 refine(prod_any w2 (k:Int) (pl:Int) co qo n cc n dc).mono ?_;rintro e w3 ⟨b1,b2',b3,b4,rfl,x1,x2,x3,x4,bel3⟩;have B3:Hid (Below w.heap.size w w3):=below_step b2 bel3 b2.size;obtain⟨w4,hw4⟩:∃ w4,w4=w3.alloc (.cells (madeCells #[.slice none 0 0] pl) 36):=⟨_,rfl⟩
 have hmk:=hm1 w3;rw [<- hw4] at hmk;have B4:Hid (Below w.heap.size w w4):=by rw [hw4]; exact B3.out.alloc B3.out.size _
 have X1:Hid (w4.cell? ⟨b1,0,none⟩=some (.int .i64 (k:Int))/\b1<w3.heap.size):=⟨by rw [hw4]; exact held x1 (bal _ _),World.block_lt_of_cell? w3 _ x1⟩
 have X2:Hid (w4.cell? ⟨b2',0,none⟩=some (.int .i64 (pl:Int))/\b2'<w3.heap.size):=⟨by rw [hw4]; exact held x2 (bal _ _),World.block_lt_of_cell? w3 _ x2⟩
 have X3:Hid (w4.cell? ⟨b3,0,none⟩=some (.slice co n cc)/\b3<w3.heap.size):=⟨by rw [hw4]; exact held x3 (bal _ _),World.block_lt_of_cell? w3 _ x3⟩
 have X4:Hid (w4.cell? ⟨b4,0,none⟩=some (.slice qo n dc)/\b4<w3.heap.size):=⟨by rw [hw4]; exact held x4 (bal _ _),World.block_lt_of_cell? w3 _ x4⟩
 have HP0:Hid (Part w4 w3.heap.size pl m 0 (fun _=>0) (upd k n R D P)):=by
  rw [hw4];exact⟨⟨_,row_made w3 36 pl _,fun i hi=>absurd hi (Nat.not_lt_zero i)⟩,fun i hi=>absurd hi (Nat.not_lt_zero i),fun i hi=>absurd hi (Nat.not_lt_zero i),fun i j hi=>absurd hi (Nat.not_lt_zero i)⟩
 have hs3:=B3.out.size;have hs4:w3.heap.size<w4.heap.size:=by rw [hw4]; simp
 clear x1 x2 x3 x4 bel3 b2 hw4 hm1;go_wp2_with fail
 go_loopw [62] (fun x wr=>∃ j:Nat,j<=pl/\x=.int .i64 j/\Hid (∃ G,Part wr w3.heap.size pl m j G (upd k n R D P))/\Hid (Keeps w3.heap.size (w3.heap.size+1) w4 wr)) (fun x _=>pl-(intOf x).toNat)
 case atStart=>exact⟨0,Nat.zero_le _,rfl,⟨_,HP0.out⟩,Keeps.refl _ _ _⟩
 case round =>
  obtain⟨j,hjp,rfl,hpart,hkeep⟩:=hrel;have bw:Below w.heap.size w wr:=B4.out.trans (hkeep.out.below B4.out.size hs3);by_cases hlt:j<pl
  ·obtain⟨G,hpt⟩:=hpart.out;have HPT:Hid (Part wr w3.heap.size pl m j G (upd k n R D P)):=hpt;have c1:=hkeep.out.cell X1.out.1 (.inl X1.out.2);have c2:=hkeep.out.cell X2.out.1 (.inl X2.out.2);have c3:=hkeep.out.cell X3.out.1 (.inl X3.out.2);have c4:=hkeep.out.cell X4.out.1 (.inl X4.out.2);have hLP:=HP.out.below bw;have HRP:Hid (Rd wr (PA j) m (P j)):=by have:=hLP.rd j hlt; rwa [HL.out.1 j hlt,<- HM.out] at this
   obtain⟨bp,op,rfl,hcp⟩:=hLP.at_ (by omega);have c5:=hcp j hlt;rw [HL.out.1 j hlt,<- HM.out] at c5;have HADD:=added_any wr b1 b2' b3 b4 k pl j n cc dc co qo R DA DC DL D c1 c2 c3 c4 hk1 hk hr hlt (by omega) (HCR.out.below bw) HR.out (HQ.out.below bw);have BW:Hid (Below w.heap.size w wr):=bw;have hm2:1<=m/\m<=65536:=by rw [HM.out]; exact HL.out.2.2 (by omega)
   have hLD:Hid (∀ i,i<n->DL i=m):=fun i hi=>by rw [HM.out]; exact HL.out.2.1 i hi (by omega)
   have hwz:=bw.size;clear hpart hpt hLP hcp c1 c2 c3 c4 bw;have i1:(0:Int)<=(j:Int):=by omega
   have i2:(j:Int)<(pl:Int):=by omega
   go_wp2_with fail
   refine HADD.mono ?_;rintro e w5 ⟨ta,tc,rfl,ht,b5⟩;obtain⟨TS,hTS⟩:∃ X,X=termsOf (fac k R j) DA DL DC n:=⟨_,rfl⟩
   have HTS:Hid (termsOf (fac k R j) DA DL DC n=TS):=hTS.symm;have HT:Hid (w5.ownsRow wr.heap.size 283 2 (.slice ta n tc) n TS):=by rw [hTS]; exact ht
   have B5:Hid (Below wr.heap.size wr w5):=b5;have hs5:=b5.size;clear ht hTS b5 HADD;go_wp2_with (at_builtin; refine wpList_append_lies _ (by rfl) (.tmp 71) (.tmp 74) 288 (by rfl) wr.heap.size 283 j0 (.agg #[.int .u8 0,.slice none 0 0]) 2 32 Tryz.underlying288 hj hj0 hj1 hj2 (by rfl) (by decide) (.slice ta n tc) n TS (by rfl) (HT.out.alloc _) ⟨w5.heap.size,0,none⟩ 1 1 [.int .u8 1,.slice (PA j) m (PC j)] (by rfl) (by rfl) (news_at rfl #[.int .u8 1,.slice (PA j) m (PC j)] 283) (by simp [Value.oneCell']) (by decide) (by unfold maxLen; omega) (by omega) (by simp; omega) (w5.heap.size+1) (by simp) ?_; intro g6 cap6 w6 hown6 hgrow6 _ _)
   have B6:Hid (Below wr.heap.size wr w6):=(B5.out.alloc (by omega) _).grown hgrow6 (by simp; omega) (fun r hr=>(HT.out.lt r hr).1);have HT6:Trm w6 (some ⟨g6,0,none⟩) (n+1) (cat n (fac k R j) (fun _=>1)) (cat n DA (fun _=>PA j)) (cat n DC (fun _=>PC j)) (cat n DL (fun _=>m)) (cat n D (fun _=>P j)):=by
    refine trm_owns (B:=wr.heap.size) (c:=cap6) ?_ fun i hi=>?_
    ·rw [termsOf,cat_at,cat_at,cat_at,cat_at,termsOf_congr (F':=fac k R j) (A':=DA) (L':=DL) (C':=DC) (fun i hi=>cat_lo _ _ hi) (fun i hi=>cat_lo _ _ hi) (fun i hi=>cat_lo _ _ hi) (fun i hi=>cat_lo _ _ hi),HTS.out];exact hown6
    ·by_cases e:i<n
     ·rw [cat_lo _ _ e,cat_lo _ _ e,cat_lo _ _ e];exact((HQ.out.below BW.out).rd i e).below B6.out
     ·obtain rfl:i=n:=by omega
      rw [cat_at,cat_at,cat_at];exact HRP.out.below B6.out
   have HSUM:=dsum_any w6 (some ⟨g6,0,none⟩) (n+1) cap6 m _ _ _ _ _ (by omega) (by omega) hm2.1 hm2.2 HT6 (fun i hi=>by
    by_cases e:i<n
    ·rw [cat_lo _ _ e]; exact hLD.out i e
    ·obtain rfl:i=n:=by omega
     rw [cat_at])
   have hs6:=B6.out.size;clear hown6 hgrow6 HT6;refine HSUM.mono ?_;rintro e w7 ⟨g7,rfl,hg7,ho7,b7⟩;have B7:Hid (Below wr.heap.size wr w7):=below_step B6.out b7 hs6;have HO7:Hid (Own w7 g7 m m (upd k n R D P j)):=by rw [show upd k n R D P j=lin (n+1) (cat n (fac k R j) (fun _=>1)) (cat n D (fun _=>P j)) from funext fun b=>(upd_sum k n R D P j b).symm]; exact ho7
   obtain⟨cv,hrow,_⟩:=HPT.out.lst;have hrow7:=hrow.of_block (B7.out.block _ hrow.lt);have c7:=hrow7.cell hlt;have z7:=hrow7.frozen j;have hB:=hrow.lt;have HP7:Hid (∃ G,Part (w7.setCell ⟨w3.heap.size,j,none⟩ (.slice (some ⟨g7,0,none⟩) m m)) w3.heap.size pl m (j+1) G (upd k n R D P)):=⟨_,HPT.out.fill B7.out (by omega) HO7.out⟩
   have HK7:Hid (Keeps w3.heap.size (w3.heap.size+1) w4 (w7.setCell ⟨w3.heap.size,j,none⟩ (.slice (some ⟨g7,0,none⟩) m m))):=(hkeep.out.trans (Keeps.of_below B7.out)).setCell (Nat.le_refl _) (by omega) j _;clear hrow hrow7 ho7 b7 HSUM;go_wp2_with fail
   go_roundw
   case rel=>exact⟨j+1,by omega,by go_num,HP7,HK7⟩
   case measure=>simp [intOf]; omega
  ·obtain rfl:j=pl:=by omega
   have BW:Hid (Below w.heap.size w wr):=bw;clear bw;go_wp2;go_ret2;obtain⟨G,hpt⟩:=hpart.out;exact⟨_,_,rfl,.inr ⟨w3.heap.size,G,_,rfl,hpt.mat.base hs3⟩,BW.out⟩
theorem All_any(w:World)(k r:Int)(po:Option Addr)(pl pc:Nat)(PA:Nat->Option Addr)(PC PL:Nat->Nat)(P:M)(co:Option Addr)(n cc:Nat)(R:Nat->Int)(qo:Option Addr)(dl dc:Nat)(DA:Nat->Option Addr)(DC DL:Nat->Nat)(D:M)
  (hp:Lst w po pl PA PC PL P) (hpn:po=none->pl=0/\pc=0) (hcr:RdI w co n R) (hcc:n<=cc) (hq:Lst w qo dl DA DC DL D) (hqn:qo=none->dl=0/\dc=0) :
  Calls Tryz.prog 162 #[.int .i64 k,.int .i64 r,.slice po pl pc,.slice co n cc,.slice qo dl dc] w (Made w (okAll k r pl PL n R dl DL) (errAll k r pl PL n R) pl (PL 0) (upd k.toNat n R D P)):=by
 have hROW:=Row_any w k r 0;rw [okRow_zero] at hROW;cases hmay:mayB k r
 ·rw [show okAll k r pl PL n R dl DL=false by unfold okAll; rw [hmay]; rfl,show errAll k r pl PL n R=2 by unfold errAll; rw [hmay]; rfl];rw [hmay] at hROW;have e0:errB false 2=2:=rfl;clear hmay hp hcr hq;go_enter Tryz.func162,Tryz.ntmps162
  go_wp2_with fail
  refine hROW.mono ?_;rintro e w1 ⟨ra,rc,rfl,_,b1⟩;go_wp2_with fail
  go_ret2;exact all_no b1
 ·obtain⟨h1,h2,h3,h4⟩:=mayB_true hmay;have e0:errB true 2=0:=rfl;by_cases hpr:(pl:Int)=r
  ·subst hpr;obtain⟨k,rfl⟩:=Int.eq_ofNat_of_zero_le (show 0<=k by omega);rw [Int.toNat_natCast];cases ha:alikeB pl PL
   ·have ep:parB (pl:Int) pl PL=false:=by unfold parB; rw [ha,Bool.and_false]
    rw [show okAll k pl pl PL n R dl DL=false by unfold okAll; rw [ep,Bool.false_and,Bool.and_false],show errAll k pl pl PL n R=40 by unfold errAll; rw [hmay,ep]; rfl];rw [hmay] at hROW;have HA:Hid (∀ w1,Below w.heap.size w w1->Calls Tryz.prog 232 #[.slice po pl pc] w1 fun e w'=>e=.returned (.bool false)/\w'=w1):=fun w1 hb=>by
     have:=alike_any w1 po pl pc PA PC PL P (by omega) (hp.below hb); rwa [ha] at this
    have hbn:=bne_no (pl:Int);clear hmay hp hcr hq ha ep;go_enter Tryz.func162,Tryz.ntmps162
    go_wp2_with fail
    refine hROW.mono ?_;rintro e w1 ⟨ra,rc,rfl,_,b1⟩;go_wp2_with fail
    refine(HA.out w1 b1).mono ?_;rintro e w' ⟨rfl,hw'⟩;obtain rfl:=hw'.symm;go_wp2_with fail
    go_ret2;exact all_no b1
   ·have ep:parB (pl:Int) pl PL=true:=by unfold parB; rw [ha,decide_eq_true rfl]; rfl
    cases ho:onceB k n R
    ·rw [show okAll k pl pl PL n R dl DL=false by unfold okAll; rw [ho,Bool.false_and,Bool.and_false,Bool.and_false],show errAll k pl pl PL n R=2 by unfold errAll; rw [hmay,ep,ho]; rfl];rw [hmay] at hROW;have HA:Hid (∀ w1,Below w.heap.size w w1->Calls Tryz.prog 232 #[.slice po pl pc] w1 fun e w'=>e=.returned (.bool true)/\w'=w1):=fun w1 hb=>by
      have:=alike_any w1 po pl pc PA PC PL P (by omega) (hp.below hb); rwa [ha] at this
     have HO:Hid (∀ w1,Below w.heap.size w w1->Calls Tryz.prog 235 #[.int .i64 (k:Int),.slice co n cc] w1 fun e w'=>e=.returned (.bool false)/\w'=w1):=fun w1 hb=>by
      have:=once_any w1 (k:Int) co n cc R hcc (by omega) (hcr.below hb); rwa [ho] at this
     have hbn:=bne_no (pl:Int);clear hmay hp hcr hq ha ep ho;go_enter Tryz.func162,Tryz.ntmps162
     go_wp2_with fail
     refine hROW.mono ?_;rintro e w1 ⟨ra,rc,rfl,_,b1⟩;go_wp2_with fail
     refine(HA.out w1 b1).mono ?_;rintro e w' ⟨rfl,hw'⟩;obtain rfl:=hw'.symm;go_wp2_with fail
     refine(HO.out w1 b1).mono ?_;rintro e w' ⟨rfl,hw'⟩;obtain rfl:=hw'.symm;go_wp2_with fail
     go_ret2;exact all_no b1
    ·have ee:errAll k pl pl PL n R=40:=by unfold errAll; rw [hmay,ep,ho]; rfl
     by_cases hdn:dl=n
     ·subst hdn;cases hf:alikeB (pl+dl) (cat pl PL DL)
      ·rw [show okAll k pl pl PL dl R dl DL=false by unfold okAll fitB; rw [hf,Bool.and_false,Bool.and_false,Bool.and_false,Bool.and_false],ee];rw [hmay] at hROW;obtain⟨o1,_⟩:=onceB_true ho;have HA:Hid (∀ w1,Below w.heap.size w w1->Calls Tryz.prog 232 #[.slice po pl pc] w1 fun e w'=>e=.returned (.bool true)/\w'=w1):=fun w1 hb=>by
        have:=alike_any w1 po pl pc PA PC PL P (by omega) (hp.below hb); rwa [ha] at this
       have HO:Hid (∀ w1,Below w.heap.size w w1->Calls Tryz.prog 235 #[.int .i64 (k:Int),.slice co dl cc] w1 fun e w'=>e=.returned (.bool true)/\w'=w1):=fun w1 hb=>by
        have:=once_any w1 (k:Int) co dl cc R hcc (by omega) (hcr.below hb); rwa [ho] at this
       have HC:Hid (∀ w1,Below w.heap.size w w1->Calls Tryz.prog 236 #[.slice (some ⟨w1.heap.size,0,none⟩) 2 2] (w1.alloc (.cells #[.slice po pl pc,.slice qo dl dc] 33)) fun e w'=>∃ ro rc,e=.returned (.slice ro (pl+dl) rc)/\Lst w' ro (pl+dl) (cat pl PA DA) (cat pl PC DC) (cat pl PL DL) (cat pl P D)/\Below w.heap.size w w'):=fun w1 hb=>by
        refine(concat_any (w1.alloc (.cells #[.slice po pl pc,.slice qo dl dc] 33)) w1.heap.size po qo pl pc dl dc PA DA PC PL DC DL P D ?_ ?_ (by omega) (by omega) hpn hqn ((hp.below hb).alloc _) ((hq.below hb).alloc _)).mono ?_
        ·rw [cell_of_row _ _ _ _ _ _ (heap_alloc_new w1 _)]; rfl
        ·rw [cell_of_row _ _ _ _ _ _ (heap_alloc_new w1 _)]; rfl
        ·rintro e w' ⟨ro,rc,rfl,hl,hb'⟩;exact⟨ro,rc,rfl,hl,below_step (hb.alloc hb.size _) hb' (by have:=hb.size; simp; omega)⟩
       have HF:Hid (alikeB (pl+dl) (cat pl PL DL)=false):=hf;have hbn:=bne_no (pl:Int);have hbn2:=bne_no (dl:Int);clear hmay hp hcr hq ha ep ho ee hf;go_enter Tryz.func162,Tryz.ntmps162
       go_wp2_with fail
       refine hROW.mono ?_;rintro e w1 ⟨ra,rc,rfl,_,b1⟩;go_wp2_with fail
       refine(HA.out w1 b1).mono ?_;rintro e w' ⟨rfl,hw'⟩;obtain rfl:=hw'.symm;go_wp2_with fail
       refine(HO.out w1 b1).mono ?_;rintro e w' ⟨rfl,hw'⟩;obtain rfl:=hw'.symm;go_wp2_with fail
       refine(HC.out w1 b1).mono ?_;rintro e w2 ⟨ro,rc2,rfl,hl2,b2⟩;have HA2:Calls Tryz.prog 232 #[.slice ro (pl+dl) rc2] w2 fun e w'=>e=.returned (.bool false)/\w'=w2:=by
        have:=alike_any w2 ro (pl+dl) rc2 _ _ _ _ (by omega) hl2; rwa [HF.out] at this
       clear hl2;go_wp2_with fail
       refine HA2.mono ?_;rintro e w' ⟨rfl,hw'⟩;obtain rfl:=hw'.symm;go_wp2_with fail
       go_ret2;exact all_no b2
      ·rw [show okAll k pl pl PL dl R dl DL=true from okAll_of hmay rfl ha ho rfl hf,ee];exact all_good w k pl dl pc cc dc po co qo PA PC PL P R DA DC DL D (by omega) (by omega) (by omega) hp hpn hcr hcc hq hqn ha ho hf
     ·rw [show okAll k pl pl PL n R dl DL=false by unfold okAll fitB; rw [decide_eq_false hdn,Bool.false_and,Bool.and_false,Bool.and_false,Bool.and_false],ee];rw [hmay] at hROW;have HA:Hid (∀ w1,Below w.heap.size w w1->Calls Tryz.prog 232 #[.slice po pl pc] w1 fun e w'=>e=.returned (.bool true)/\w'=w1):=fun w1 hb=>by
       have:=alike_any w1 po pl pc PA PC PL P (by omega) (hp.below hb); rwa [ha] at this
      have HO:Hid (∀ w1,Below w.heap.size w w1->Calls Tryz.prog 235 #[.int .i64 (k:Int),.slice co n cc] w1 fun e w'=>e=.returned (.bool true)/\w'=w1):=fun w1 hb=>by
       have:=once_any w1 (k:Int) co n cc R hcc (by omega) (hcr.below hb); rwa [ho] at this
      have hbn:=bne_no (pl:Int);have hbn2:((dl:Int) != (n:Int))=true:=bne_yes (by omega);clear hmay hp hcr hq ha ep ho ee;go_enter Tryz.func162,Tryz.ntmps162
      go_wp2_with fail
      refine hROW.mono ?_;rintro e w1 ⟨ra,rc,rfl,_,b1⟩;go_wp2_with fail
      refine(HA.out w1 b1).mono ?_;rintro e w' ⟨rfl,hw'⟩;obtain rfl:=hw'.symm;go_wp2_with fail
      refine(HO.out w1 b1).mono ?_;rintro e w' ⟨rfl,hw'⟩;obtain rfl:=hw'.symm;go_wp2_with fail
      go_ret2;exact all_no b1
  ·have ep:parB r pl PL=false:=by unfold parB; rw [decide_eq_false hpr]; rfl
   rw [show okAll k r pl PL n R dl DL=false by unfold okAll; rw [ep,Bool.false_and,Bool.and_false],show errAll k r pl PL n R=40 by unfold errAll; rw [hmay,ep]; rfl];rw [hmay] at hROW;have hbn:((pl:Int) != r)=true:=bne_yes hpr;clear hmay hp hcr hq ep;go_enter Tryz.func162,Tryz.ntmps162
   go_wp2_with fail
   refine hROW.mono ?_;rintro e w1 ⟨ra,rc,rfl,_,b1⟩;go_wp2_with fail
   go_ret2;exact all_no b1
end Go.Proofs.YtemlojjkokooeaaGreat.Cod
