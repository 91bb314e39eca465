import Derived.Lib.AppendZeros
import Derived.Test.YtemlojjkokooeaaGreatTj30
set_option maxHeartbeats 4000000
set_option maxRecDepth 100000
namespace Go.Proofs.YtemlojjkokooeaaGreat
open Go.RowKit
def erV2 (E L:Int):Int:=if E=0 then L else E
theorem Cells_any{k r c q:Int}{N W:Nat}{x:Int}(h:Par k r c q N W x)(w:World)(ro:Option Addr)(rn rc:Nat)(A:Nat->Option Addr)(L C:Nat->Nat)(F:Nat->Nat->UInt8)(hr:Rw w ro rn A L C F)(kd:UInt8)(v:Int)(E:Int)(hE:erV2 (erK x N c rn L kd v) (erL k.toNat (zv N c L F kd v) N)=E):
  Calls Tryz.prog 15 #[.agg #[.int .i64 k,.int .i64 r,.int .i64 c,.int .i64 q],.slice ro rn rc,.int .u8 ((kd.toNat:Nat):Int),.int .i64 v] w (AnsC w E N c.toNat (cH k.toNat (zv N c L F kd v) N)):=by
 obtain⟨D,hD⟩:∃ D,erK x N c rn L kd v=D:=⟨_,rfl⟩
 have HA:Hid (∀ u,Below w.heap.size w u->Calls Tryz.prog 67 #[.agg #[.int .i64 k,.int .i64 r,.int .i64 c,.int .i64 q],.slice ro rn rc,.int .u8 ((kd.toNat:Nat):Int),.int .i64 v] u fun e w'=>e=.returned (.tuple #[if D=0 then stv k r c q ro rn rc kd else stz,.int .i64 D])/\Below u.heap.size u w'):=fun u hu=>asked_any h u ro rn rc A L C F (hr.below hu) kd v D hD;rw [hD] at hE;unfold erV2 at hE;obtain⟨w0,hw0⟩:∃ w0,w0=w.alloc (.cells #[.int .i64 k,.int .i64 r,.int .i64 c,.int .i64 q] 23):=⟨_,rfl⟩
 have B0:Hid (Below w.heap.size w w0):=by show Below _ _ _; rw [hw0]; exact bal _ _
 by_cases he:D=0
 ·subst he;rw [if_pos rfl] at hE HA;obtain⟨hR,hk,_⟩:=erK_zero hD;obtain⟨rfl,rfl,hL⟩:=erR_zero hR;have HC:Hid (∀ u,Below w.heap.size w u->Calls Tryz.prog 74 #[stv k r c q ro rn rc kd,.int .i64 v] u (AnsC u E rn c.toNat (cH k.toNat (zv rn c L F kd v) rn))):=fun u hu=>by
   rw [<- hE]; exact cells_any h u ro rc A L C F (hr.below hu) hL kd hk v
  generalize cH k.toNat (zv rn c L F kd v) rn=H at *
  clear h hr hE hD hR hL hk;unfold stv at HA HC;unfold AnsC at HC ⊢;go_enter Tryz.func15,Tryz.ntmps15
  go_wp2_with fail
  rw [<- hw0];clear hw0;refine(HA.out _ B0.out).mono ?_;rintro e wa ⟨rfl,ha⟩;obtain⟨w2,hw2⟩:∃ w2,w2=wa.alloc (.cells #[.int .i64 k,.int .i64 r,.int .i64 c,.int .i64 q,.slice ro rn rc,.int .u8 ((kd.toNat:Nat):Int)] 99):=⟨_,rfl⟩
  have HB2:Hid (Below w.heap.size w w2):=by show Below _ _ _; rw [hw2]; exact bth (bth B0.out ha) (bal _ _)
  go_wp2_with fail
  rw [<- hw2];clear hw2 ha;refine(HC.out _ HB2.out).mono ?_;rintro e wf ⟨ao,cap,T,U,rfl,hc,hb⟩;go_wp2_with fail
  go_ret2;exact⟨ao,cap,T,U,rfl,hc.mono HB2.out.size,bth HB2.out hb⟩
 ·rw [if_neg he] at hE HA;subst hE;have e1:(D != 0)=true:=by simp [he]
  generalize cH k.toNat (zv N c L F kd v) N=H at *
  clear h hr hD;unfold stz at HA;unfold AnsC;rw [show lenE D N=0 from if_neg he];go_enter Tryz.func15,Tryz.ntmps15
  go_wp2_with fail
  rw [<- hw0];clear hw0;refine(HA.out _ B0.out).mono ?_;rintro e wa ⟨rfl,ha⟩;go_wp2_with fail
  go_ret2;exact⟨none,0,fun _=>none,fun _=>0,rfl,cls_nil _ _ _ _ _ _,bth (bth B0.out ha) (bal _ _)⟩
theorem wpList_append_bytes{w:World}{ops:Array Oper}{rest:List Oper}{o:Oper}{a:Act}{Q:Exit->Act->World->Prop}(hgd:o.guard=none)(s x:Operand)
  (ho:o.op=.call { callee:=.builtin .append,args:=#[s,x],argTypes:=#[36,36]}) (B k n ca cb:Nat) (ao bo:Option Addr) (xs:List Value) (F:Nat->UInt8)
  (hs:a.eval s=.slice ao k ca) (hx:a.eval x=.slice bo n cb) (h:w.ownsRow B 5 1 (.slice ao k ca) k xs) (hv:Bec w bo n cb F) (hk:k<=100000) (hn:n<=100000) (hB:B<=w.heap.size)
  (cont:∀ ao' c' w',w'.ownsRow B 5 1 (.slice ao' (k+n) c') (k+n) (xs ++ byF n F)->w.grownBy w' (Value.slice ao k ca).ownBlock->wpList Tryz.prog ops Q rest (a.put o.dst (.slice ao' (k+n) c')) w'):wpList Tryz.prog ops Q (o :: rest) a w:=by
 obtain⟨j0,hj,hj0,hj1,hj2⟩:=info_parts info5;cases bo with
 | none =>
  obtain⟨rfl,rfl⟩:=hv.nil rfl;have:=cont ao ca w (by rw [show byF 0 F=[] from rfl,List.append_nil]; exact h) ⟨rfl,rfl,rfl,Nat.le_refl _,fun _ _ _=>rfl⟩;exact wpList_append_own_none hgd s x 36 ho B 5 j0 1 Tryz.underlying36 hj (.slice ao k ca) k xs hs h hx this
 | some ad =>
  refine wpList_append_own w hgd s x 36 ho B 5 j0 (.int .u8 0) 1 1 Tryz.underlying36 hj hj0 hj1 hj2 rfl (by decide) (.slice ao k ca) k xs hs h ad n cb (byF n F) hx (by rw [byF_length,Nat.mul_one]) (bec_news hv) (byF_one _ _) (by unfold maxLen; omega) (by omega) hB ?_;intro v' w' h1 h2 _;obtain⟨ao',c',rfl⟩:∃ ao' c',v'=.slice ao' (k+n) c':=by
   rcases h1.2 with ⟨rfl,e⟩ | ⟨g,cap,cur,rfl,_⟩
   ·rw [e]; exact⟨none,0,rfl⟩
   ·exact⟨_,cap,rfl⟩
  exact cont ao' c' w' h1 h2
def cat2 (m:Nat) (H:Nat->Nat->UInt8) (b:Nat):UInt8:=H (b / m) (b % m)
theorem cat2_succ(m:Nat)(hm:0<m)(H:Nat->Nat->UInt8)(i:Nat):byF (i*m+m) (cat2 m H)=byF (i*m) (cat2 m H) ++ byF m (H i):=by
 rw [byF_add];congr 1
 refine byF_congr fun b hb=>?_;unfold cat2;rw [Nat.mul_comm i m,Nat.mul_add_div hm,Nat.mul_add_mod,Nat.div_eq_of_lt hb,Nat.mod_eq_of_lt hb,Nat.add_zero]
theorem mul_le16{i n m:Nat}(h:i<=n)(hn:n<=16)(hm:m<=64):i*m<=1024:=Nat.le_trans (Nat.mul_le_mul (Nat.le_trans h hn) hm) (by decide)
theorem Cls.rdc{B:Nat}{w:World}{ao:Option Addr}{n cap m:Nat}{T:Nat->Option Addr}{U:Nat->Nat}{H:Nat->Nat->UInt8}(h:Cls B w ao n cap m T U H){j:Nat}(hj:j<=n):RdC w ao j T (fun _=>m) U:=fun hp=>by
 rcases h.out.2 with ⟨_,h1⟩ | ⟨g,cap',cur,h1,_⟩
 ·omega
 ·cases h1
  refine⟨g,0,rfl,fun i hi=>?_⟩;have:=h.out.cells (g:=g) rfl i _ (Cod.rowsOf_get n T (fun _=>m) U i (by omega))
  rwa [Addr.add_lit] at this
theorem Cls.room{B:Nat}{w:World}{ao:Option Addr}{n cap m:Nat}{T:Nat->Option Addr}{U:Nat->Nat}{H:Nat->Nat->UInt8}(h:Cls B w ao n cap m T U H):n<=cap:=by
 rcases h.out.2 with ⟨h0,h1⟩ | ⟨g,cap',cur,h1,_,_,h4,_⟩
 ·omega
 ·cases h1; exact h4
def slC (kd:UInt8) (N:Nat) (X:Nat->Int) (m:Nat) (G:Nat->UInt8) (i:Nat):Sl:=⟨kd,(i:Int),X i,mx X N,N,X,m,G⟩
theorem slC_ok{N:Nat}{c:Int}{kd:UInt8}{X:Nat->Int}{G:Nat->UInt8}{i:Nat}(hk:kd=1\/kd=2)(hX:∀ j,j<N->1<=X j/\X j<=1073741824)(hi:i<N)(hc:0<=c):Ok N c (slC kd N X c.toNat G i) :=
 ⟨rfl,hX,hk,⟨by show (0:Int)<=(i:Int); omega,by show (i:Int)<(N:Int); omega⟩,by show ((c.toNat:Nat):Int)=c; omega,rfl,by show X i=X (i:Int).toNat; rw [Int.toNat_natCast]⟩
theorem info48:(Tryz.prog.info? 56).map (fun i=>(i.zero,i.size,i.bytes))=some (some (.agg #[.int .i64 0,.int .i64 0,.int .i64 0,.slice none 0 0]),4,48):=by kernel_rfl
def ptl (Lc os:Nat->Nat) (nu:Int) (n:Nat) (T:Nat->Option Addr) (U:Nat->Nat):Nat->List Value
  | 0=>[]
  | d+1=>if Lc d=0 then ptl Lc os nu n T U d else ptl Lc os nu n T U d ++ [.int .i64 (d:Int),.int .i64 nu,.int .i64 ((os d:Nat):Int),.slice (T d) n (U d)]
theorem ptl_congr{Lc os:Nat->Nat}{nu:Int}{n:Nat}{T T':Nat->Option Addr}{U U':Nat->Nat}:∀ {d:Nat},(∀ i,i<d->T i=T' i/\U i=U' i)->ptl Lc os nu n T U d=ptl Lc os nu n T' U' d
 | 0,_=>rfl
 | d+1,h=>by
  rw [ptl,ptl,ptl_congr (d:=d) (fun i hi=>h i (by omega)),(h d (by omega)).1,(h d (by omega)).2]
structure PL (B:Nat) (w:World) (ao:Option Addr) (m cap N:Nat) (Lc os:Nat->Nat) (nu:Int) (n:Nat) (T:Nat->Option Addr) (U:Nat->Nat) (G:Nat->Nat->UInt8):Prop where
  out:w.ownsRow B 56 4 (.slice ao m cap) m (ptl Lc os nu n T U N)
  row:∀ i,i<N->Lc i ≠ 0->OwU B w (T i) n (U i) (G i)
theorem PL.below{B:Nat}{w w':World}{ao:Option Addr}{m cap N:Nat}{Lc os:Nat->Nat}{nu:Int}{n:Nat}{T:Nat->Option Addr}{U:Nat->Nat}{G:Nat->Nat->UInt8}(h:PL B w ao m cap N Lc os nu n T U G)(hb:Below w.heap.size w w'):PL B w' ao m cap N Lc os nu n T U G :=
 ⟨owns_below h.out hb,fun i hi hn=>(h.row i hi hn).below hb⟩
theorem owns_mono{B B':Nat}{w:World}{e s n:Nat}{v:Value}{xs:List Value}(h:w.ownsRow B e s v n xs)(hb:B'<=B):w.ownsRow B' e s v n xs:=by
 refine⟨h.1,?_⟩;rcases h.2 with h1 | ⟨g,cap',cur,h1,h2,h3⟩
 ·exact .inl h1
 ·exact .inr ⟨g,cap',cur,h1,by omega,h3⟩
theorem PL.mono{B B':Nat}{w:World}{ao:Option Addr}{m cap N:Nat}{Lc os:Nat->Nat}{nu:Int}{n:Nat}{T:Nat->Option Addr}{U:Nat->Nat}{G:Nat->Nat->UInt8}(h:PL B w ao m cap N Lc os nu n T U G)(hb:B'<=B):PL B' w ao m cap N Lc os nu n T U G :=
 ⟨owns_mono h.out hb,fun i hi hn=>(h.row i hi hn).mono hb⟩
def osl (N:Nat) (c:Int) (L:Nat->Nat) (F:Nat->Nat->UInt8) (kd:UInt8) (ke:Int) (i:Nat):Nat:=oN (yy N c L F (2*i)) (yy N c L F (2*i+1)) kd (zv N c L F kd ke i).ce
theorem wrapI{x:Int}(h:-9223372036854775808<=x/\x<=9223372036854775807):IntKind.i64.wrap x=x:=by rw [IntKind.wrap_i64]; omega
theorem val_mul{i m p:Nat}(h:p=i*m)(hp:p<=100000):Value.int .i64 (wrap64 ((i:Int)*(m:Int)))=.int .i64 (p:Int)/\Value.int .i64 (IntKind.i64.wrap ((i:Int)*(m:Int)))=.int .i64 (p:Int):=by
 rw [<- Int.natCast_mul,<- h,w64 _ ⟨by omega,by omega⟩,wrapI ⟨by omega,by omega⟩];exact⟨rfl,rfl⟩
theorem val_mul2{i m p:Nat}(h:p+m=(i+1)*m)(hp:p+m<=100000):Value.int .i64 (wrap64 (((i:Int)+1)*(m:Int)))=.int .i64 ((p+m:Nat):Int)/\Value.int .i64 (IntKind.i64.wrap (((i:Int)+1)*(m:Int)))=.int .i64 ((p+m:Nat):Int):=by
 have e:(i:Int)+1=((i+1:Nat):Int):=by omega
 rw [e,<- Int.natCast_mul,<- h,w64 _ ⟨by omega,by omega⟩,wrapI ⟨by omega,by omega⟩];exact⟨rfl,rfl⟩
theorem owns_grown{w w':World}{B B' e s n cap k ca:Nat}{ao lo:Option Addr}{xs ys:List Value}(h:w.ownsRow B e s (.slice ao n cap) n xs)(hk:w.ownsRow B' 36 1 (.slice lo k ca) k ys)(he:e ≠ 36)(hg:w.grownBy w' (Value.slice lo k ca).ownBlock):w'.ownsRow B e s (.slice ao n cap) n xs :=
 owns_blocks h fun a ha=>by
  obtain⟨_,hl,cur,hc⟩:=owns_at h ha;refine hg.block _ hl fun e1=>?_;cases lo with
  | none=>cases e1
  | some l =>
   obtain⟨_,_,cur',hc'⟩:=owns_at hk rfl;have e2:a.block=l.block:=by simpa [Value.ownBlock] using e1
   rw [e2,hc'] at hc;cases hc
   exact he rfl
def dM (m:Nat) (D:Nat->UInt8):Cod.M:=fun a b=>toK (D (a*m+b))
def dH (K m:Nat) (D:Nat->UInt8) (i j:Nat):UInt8:=bK (Cod.enc K (dM m D) i j)
theorem dH_data{K m:Nat}{D:Nat->UInt8}{i j:Nat}(hi:i<K):dH K m D i j=D (i*m+j):=by
 unfold dH; rw [Cod.enc_data _ hi]; exact bK_toK _
def AnsL (w:World) (E:Int) (m N:Nat) (Lc os:Nat->Nat) (nu:Int) (n:Nat) (G:Nat->Nat->UInt8) (e:Ending) (w':World):Prop :=
  ∃ ao cap T U,e=.returned (.tuple #[.slice ao (lenE E m) cap,.int .i64 E])/\(E=0->PL w.heap.size w' ao m cap N Lc os nu n T U G)/\Below w.heap.size w w'
theorem bec_cut{w:World}{b off n cap:Nat}{D:Nat->UInt8}(h:Bec w (some ⟨b,off,none⟩) n cap D){p m:Nat}(hp:p+m<=n)(hn:0<n):Bec w (some ⟨b,off+p,none⟩) m m (fun j=>D (p+j)):=by
 refine⟨fun hm=>⟨b,off+p,rfl,fun j hj=>?_⟩,(fun e=>by cases e),Nat.le_refl _⟩;obtain⟨b',off',e,hc⟩:=h.rd hn;cases e
 have:=hc (p+j) (by omega);rw [Nat.add_assoc]; exact this
theorem rows_set{N d:Nat}(T:Nat->Option Addr)(L U:Nat->Nat)(a:Option Addr)(l u:Nat):(Cod.rowsOf N T L U).set d (.slice a l u)=Cod.rowsOf N (Cod.put d a T) (Cod.put d l L) (Cod.put d u U):=by
 apply List.ext_getElem?
 intro i;rw [List.getElem?_set];by_cases hi:i<N
 ·rw [Cod.rowsOf_get N (Cod.put d a T) _ _ i hi];by_cases e:d=i
  ·subst e; rw [if_pos rfl,if_pos (by rw [Cod.rowsOf_length]; exact hi),Cod.put_at,Cod.put_at,Cod.put_at]
  ·rw [if_neg e,Cod.rowsOf_get _ _ _ _ _ hi,Cod.put_ne _ _ (fun h=>e h.symm),Cod.put_ne _ _ (fun h=>e h.symm),Cod.put_ne _ _ (fun h=>e h.symm)]
 ·have h1:(Cod.rowsOf N (Cod.put d a T) (Cod.put d l L) (Cod.put d u U))[i]? = none:=List.getElem?_eq_none (by rw [Cod.rowsOf_length]; omega);rw [h1];by_cases e:d=i
  ·subst e; rw [if_pos rfl,if_neg (by rw [Cod.rowsOf_length]; exact hi)]
  ·rw [if_neg e,List.getElem?_eq_none (by rw [Cod.rowsOf_length]; omega)]
end Go.Proofs.YtemlojjkokooeaaGreat
