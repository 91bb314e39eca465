import Derived.Laws.AppendOwnNone
import Derived.Laws.OwnMore
import Derived.Deep.AppendLies
import Derived.Deep.OwnRows
import Derived.Laws.BytesArg
import Derived.Laws.CopyOwn
import Derived.Laws.IdiomStrings
import Derived.Laws.Rows
import Derived.Deep.RegionLawGrows
import Derived.Lib.SliceRun
import Derived.BigQuiet
import Derived.StillTailTactics
import Derived.Test.YtemlojjkokooeaaGreatTm1
open Go renaming World->J,Addr->I,Value->ja,Calls->jd
open Go.Value renaming int->O,slice->C
open Go.IntKind renaming i64->Q
open Option renaming some->Y,none->Z
open Go.Proofs.Tryz renaming prog->U
open Go.RowKit renaming Below->X,Hid->d
open Nat renaming le_refl->L,zero_le->jc
open Bool renaming true->T,false->jb
open Go.Ending renaming returned->A
set_option maxHeartbeats 16000000
set_option maxRecDepth 100000
namespace Go.Proofs.YtemlojjkokooeaaGreat
def fj (v:Int):Bool:=decide (1<=v/\v<=1073741824)
def vok (N n:Nat) (R:Nat->Int):Bool:=decide (n=N/\∀ i,i<n->1<=R i/\R i<=1073741824)
def erV (x:Int) (N n:Nat) (R:Nat->Int):Int:=if x=0 then (if vok N n R=T then 0 else 70) else x
def erA (x v:Int):Int:=if x=0 then (if fj v=T then 0 else 70) else x
def aK (e:Int) (n:Nat):Nat:=if e=0 then n else 0
def gr (a b:Int):Int:=if a<b then b else a
def mx (R:Nat->Int):Nat->Int
  | 0=>0
  | k+1=>gr (mx R k) (R k)
def bp (n:Nat) (P:Nat->Bool):Bool:=!decide (∀ i,i<n->P i=jb)
def put {α:Type} (i:Nat) (v:α) (R:Nat->α):Nat->α:=fun j=>if j=i then v else R j
theorem put_at{α:Type}(i:Nat)(v:α)(R:Nat->α):put i v R i=v:=zk rfl
theorem put_ne{α:Type}{i j:Nat}(v:α)(R:Nat->α)(h:j ≠ i):put i v R j=R j:=zl h
theorem vU{x:Int}{N n:Nat}{R:Nat->Int}(h:erV x N n R=0):x=0/\n=N/\∀ i,i<n->1<=R i/\R i<=1073741824:=by
 unfold erV at h;by_cases hx:x=0
 ·rw [zk hx] at h;by_cases hv:vok N n R=T
  ·exact⟨hx,of_decide_eq_true hv⟩
  ·rw [zl hv] at h;cases h
 ·rw [zl hx] at h;exact absurd h hx
theorem Ed{N n:Nat}{R:Nat->Int}(h:n=N)(h1:∀ i,i<n->1<=R i/\R i<=1073741824):erV 0 N n R=0:=by
 unfold erV;rw [zk rfl,zk (show vok N n R=T from zm ⟨h,h1⟩)]
theorem erV_x{x:Int}{N n:Nat}{R:Nat->Int}(h:x ≠ 0):erV x N n R=x:=by unfold erV;rw [zl h]
theorem Ey{N n:Nat}{R:Nat->Int}(h:¬ (n=N/\∀ i,i<n->1<=R i/\R i<=1073741824)):erV 0 N n R=70:=by
 unfold erV;rw [zk rfl,zl (show ¬ vok N n R=T from fun e=>h (of_decide_eq_true e))]
theorem aQ(n:Nat):aK 0 n=n:=zk rfl
theorem aZ{e:Int}(n:Nat)(h:e ≠ 0):aK e n=0:=zl h
theorem Es{R:Nat->Int}(h:1<=R 0):mx R 1=R 0:=by
 show gr 0 (R 0)=R 0;unfold gr;rw [zk za]
theorem uG{p:Nat->Prop}:∀ i,¬ p i->∃ k,k<=i/\¬ p k/\∀ j,j<k->p j:=by
 intro i;induction i using Nat.strongRecOn with
 | ind i ih =>
  intro hi;by_cases h:∀ j,j<i->p j
  ·exact⟨i,L _,hi,h⟩
  ·obtain⟨j,hj⟩:=Classical.not_forall.1 h;obtain⟨h1,h2⟩:=Classical.not_imp.1 hj;obtain⟨k,h3,h4⟩:=ih j h1 h2;exact⟨k,za,h4⟩
theorem bA{p:Nat->Prop}{n:Nat}(h:¬ ∀ i,i<n->p i):∃ q,q<n/\¬ p q/\∀ i,i<q->p i:=by
 obtain⟨i,hi⟩:=Classical.not_forall.1 h;obtain⟨p1,p2⟩:=Classical.not_imp.1 hi;obtain⟨k,hk,p3,p4⟩:=uG (p:=p) i p2;exact⟨k,za,p3,p4⟩
open Go.RowKit
def RdI (w:J) (ao:Option I) (n:Nat) (R:Nat->Int):Prop :=
  0<n->∃ b off,ao=Y ⟨b,off,Z⟩/\∀ i,i<n->w.cell? ⟨b,off+i,Z⟩=Y (.int .i64 (R i))
theorem RdI.below{w w':J}{ao:Option I}{n:Nat}{R:Nat->Int}(h:RdI w ao n R)(ho:b7 w w'):RdI w' ao n R:=by
 intro hn;obtain⟨b,off,rfl,hc⟩:=h hn;exact⟨b,off,rfl,fun i hi=>held (hc i hi) ho⟩
structure Vec (w:World) (ao:Option Addr) (n b8:Nat) (R:Nat->Int):Prop where
  rd:RdI w ao n R
  nil:ao=none->n=0/\b8=0
  room:n<=b8
theorem Vec.below{w w':J}{ao:Option I}{n b8:Nat}{R:Nat->Int}(h:Vec w ao n b8 R)(ho:b7 w w'):Vec w' ao n b8 R:=⟨h.rd.below ho,h.nil,h.room⟩
theorem Co(w:J)(R:Nat->Int):Vec w Z 0 0 R:=⟨fun h=>absurd h (Nat.lt_irrefl 0),fun _=>⟨rfl,rfl⟩,L _⟩
def zOf (n:Nat) (R:Nat->Int):List ja:=(List.range n).map fun i=>.int .i64 (R i)
theorem bL(k:Nat)(R:Nat->Int):(zOf k R).length=k:=by simp [zOf]
theorem de(k:Nat)(R:Nat->Int)(i:Nat)(h:i<k):(zOf k R)[i]? = Y (O Q (R i)):=by simp [zOf,h]
theorem fU{k:Nat}{R S:Nat->Int}(h:∀ i,i<k->R i=S i):zOf k R=zOf k S:=by
 unfold zOf;apply List.map_congr_left
 intro i hi;rw [h i (List.mem_range.1 hi)]
theorem nT(k:Nat)(R:Nat->Int):zOf (k+1) R=zOf k R ++ [O Q (R k)]:=by
 unfold zOf;rw [List.range_succ,List.map_append,List.map_cons,List.map_nil]
theorem db{α:Type}{l:List α}{n i:Nat}{x:α}(hl:l.length=n)(h:l[i]? = Y x):i<n:=by
 rcases Nat.lt_or_ge i n with g | g
 ·exact g
 ·rw [List.getElem?_eq_none za] at h;cases h
theorem mM{n i:Nat}(R:Nat->Int)(v:Int):(zOf n R).set i (O Q v)=zOf n (put i v R):=by
 apply List.ext_getElem?
 intro j;rw [List.getElem?_set];by_cases hj:j<n
 ·rw [de n (put i v R) _ hj];by_cases e:i=j
  ·subst e;rw [zk rfl,zk (by rw [bL];exact hj),put_at]
  ·rw [zl e,de _ _ _ hj,put_ne _ _ (fun h=>e h.symm)]
 ·by_cases e:i=j
  ·subst e;rw [zk rfl,zl (by rw [bL];exact hj),List.getElem?_eq_none (by rw [bL];omega)]
  ·rw [zl e,List.getElem?_eq_none (by rw [bL];omega),List.getElem?_eq_none (by rw [bL];omega)]
def Own (B:Nat) (w:J) (ao:Option I) (n b8:Nat) (R:Nat->Int):Prop:=w.ownsRow B 3 1 (.slice ao n b8) n (zOf n R)
theorem eM(B:Nat)(w:J)(R:Nat->Int):Own B w Z 0 0 R:=World.ownsRow_nil _ _ _ _
theorem Own.congr{B:Nat}{w:J}{ao:Option I}{n b8:Nat}{R S:Nat->Int}(h:Own B w ao n b8 R)(e:∀ i,i<n->R i=S i):Own B w ao n b8 S:=by
 unfold Own at *;rw [<- fU e];exact h
theorem Own.vec{B:Nat}{w:J}{ao:Option I}{n b8:Nat}{R:Nat->Int}(h:Own B w ao n b8 R):Vec w ao n b8 R:=by
 have h0:=h;rcases h.2 with ⟨h1,h2⟩ | ⟨g,jy,jw,h1,_,_,h4,_⟩
 ·cases h1;exact Co _ _
 ·cases h1
  refine⟨fun hp=>⟨g,0,rfl,fun i hi=>?_⟩,(fun e=>by cases e),h4⟩;have:=World.ownsRow.cells h0 (g:=g) rfl i _ (de n R i hi)
  rwa [Addr.add_lit] at this
theorem Own.at_{B:Nat}{w:J}{ao:Option I}{n b8:Nat}{R:Nat->Int}(h:Own B w ao n b8 R)(hn:0<n):∃ g,ao=Y ⟨g,0,Z⟩/\B<=g/\g<w.heap.size:=by
 obtain⟨g,jy,e,h1,h2⟩:=World.ownsRow.form h hn;cases e;exact⟨g,rfl,h1,h2⟩
theorem Own.stay{B:Nat}{w w':J}{ao:Option I}{n b8:Nat}{R:Nat->Int}(h:Own B w ao n b8 R)(hb:∀ g,B<=g->g<w.heap.size->w'.heap[g]? = w.heap[g]?):Own B w' ao n b8 R:=by
 refine⟨h.1,?_⟩;rcases h.2 with h1 | ⟨g,jy,jw,h1,h2,h3,h4⟩
 ·exact .inl h1
 ·exact .inr ⟨g,jy,jw,h1,h2,by rw [hb g h2 (by rcases Nat.lt_or_ge g w.heap.size with l | l;exact l;rw [Array.getElem?_eq_none l] at h3;cases h3)];exact h3,h4⟩
theorem Own.below{B:Nat}{w w':J}{ao:Option I}{n b8:Nat}{R:Nat->Int}(h:Own B w ao n b8 R)(hb:b7 w w'):Own B w' ao n b8 R:=h.stay fun g _ hg=>hb.block g hg
theorem Own.mono{B B':Nat}{w:J}{ao:Option I}{n b8:Nat}{R:Nat->Int}(h:Own B w ao n b8 R)(hb:B'<=B):Own B' w ao n b8 R:=by
 refine⟨h.1,?_⟩;rcases h.2 with h1 | ⟨g,jy,jw,h1,h2,h3⟩
 ·exact .inl h1
 ·exact .inr ⟨g,jy,jw,h1,za,h3⟩
theorem Own.set{B:Nat}{w:J}{g n b8:Nat}{R:Nat->Int}(h:Own B w (Y ⟨g,0,Z⟩) n b8 R)(i:Nat)(v:Int):Own B (w.setCell ⟨g,i,Z⟩ (O Q v)) (Y ⟨g,0,Z⟩) n b8 (put i v R):=by
 unfold Own at *;rw [<- mM];exact(World.ownsRow.stored h i _).1
theorem Own.cell{B:Nat}{w:J}{g n b8:Nat}{R:Nat->Int}(h:Own B w (Y ⟨g,0,Z⟩) n b8 R){i:Nat}(hi:i<n):w.cell? ⟨g,i,Z⟩=Y (O Q (R i)):=by
 rw [World.ownsRow.cellAt h i za,de _ _ _ hi]
theorem Own.free{B:Nat}{w:J}{g n b8:Nat}{R:Nat->Int}(h:Own B w (Y ⟨g,0,Z⟩) n b8 R)(i:Nat):w.frozen? ⟨g,i,Z⟩=jb:=World.ownsRow.frozenAt h i
theorem gy:(Tryz.prog.info? 3).map (fun i=>(i.zero,i.size,i.bytes))=Y (Y (O Q 0),1,8):=zh
theorem info_parts{t:TypeId}{z:ja}{s b:Nat}(h:(Tryz.prog.info? t).map (fun i=>(i.zero,i.size,i.bytes))=Y (Y z,s,b)):∃ i,Tryz.prog.info? t=Y i/\i.zero=Y z/\i.size=s/\i.bytes=b:=by
 obtain⟨i,hi,e⟩:=Option.map_eq_some_iff.1 h;simp only [Prod.mk.injEq] at e;exact⟨i,hi,e.1,e.2.1,e.2.2⟩
theorem sM{w:J}{B g n:Nat}{f:Nat->ja}{R:Nat->Int}(h:w.rowIs g 3 n f)(hB:B<=g)(hn:n<=1000)(e:∀ i,i<n->f i=O Q (R i)):Own B w (Y ⟨g,0,Z⟩) n n R:=by
 obtain⟨c,hb,hs,hc⟩:=h;refine⟨by rw [bL,Nat.mul_one],.inr ⟨g,n,c,rfl,hB,hb,L _,by unfold maxLen;omega,by rw [hs,Nat.mul_one],?_⟩⟩;apply List.ext_getElem?
 intro i;by_cases hi:i<n
 ·rw [List.getElem?_take_of_lt za,de _ _ _ hi,Array.getElem?_toList,hc i hi,e i hi]
 ·rw [List.getElem?_eq_none zj,List.getElem?_eq_none (by rw [bL];omega)]
theorem below_drewN(B:Nat)(w:J)(n:Nat):X B w (w.drewN n):=⟨rfl,rfl,rfl,L _,fun _ _=>rfl⟩
theorem eV(v:Int)(w:J):jd U 147 #[O Q v] w fun e w'=>e=A (.bool (!fj v))/\w'=w:=by
 have HV:d (fj v=decide (1<=v/\v<=1073741824)):=rfl;go_enter Tryz.func147,Tryz.ntmps147
 go_wp2;all_goals (go_ret;refine⟨ay ?_,rfl⟩;rw [HV.out])
 ·by_cases h:1073741824<v
  ·rw [zp (p:=1<=v/\v<=1073741824) za,zp (p:=v<1) za,zm h];rfl
  ·rw [zm (p:=1<=v/\v<=1073741824) za,zp (p:=v<1) za,zp h];rfl
 ·rw [zp (p:=1<=v/\v<=1073741824) za];rfl
def ic (w:J) (fn:Nat) (cp:Array ja) (n:Nat) (R:Nat->Int) (P:Nat->Bool):Prop :=
  ∀ i,i<n->jd U fn (#[.int .i64 (R i)] ++ cp) w fun e w'=>e=.returned (.bool (P i))/\w'=w
theorem rC(w:J)(ao:Option I)(n ca fn:Nat)(cp:Array ja)(R:Nat->Int)(P:Nat->Bool)(hn:n<=1000)(yO:∀ xs w,(callFunc fn xs).run U w=.ok (.enter fn xs) w)(hr:RdI w ao n R)(hf:ic w fn cp n R P):
  jd U 297 #[C ao n ca,.func (.func fn) #[] cp] w fun e w'=>∃ x:Int,e=A (O Q x)/\decide (0<=x)=bp n P/\w'=w:=by
 have HR:=am hr;have HF:=am hf;clear hr hf;by_cases hall:∀ i,i<n->P i=jb
 ·have HB:d (bp n P=jb):=by show _=_;unfold bp;rw [zm hall];rfl
  have HA:=am hall;clear hall;go_enter Tryz.func297,Tryz.ntmps297
  go_wp2;go_loop [8] (fun x=>∃ i:Nat,i<=n/\x=O Q i) (fun x=>n-(intOf x).toNat)
  case atStart=>exact⟨0,jc _,rfl⟩
  case round =>
   obtain⟨i,hi,rfl⟩:=hrel;by_cases hlt:i<n
   ·obtain⟨b,off,rfl,hc⟩:=HR.out za;have ck:=hc i hlt;have HC:=HF.out i hlt;rw [HA.out i hlt] at HC;clear hc;have i1:(0:Int)<=(i:Int):=za;have i2:(i:Int)<(n:Int):=za;go_wp2_with fail
    refine HC.mono ?_;rintro e w' ⟨rfl,rfl⟩;go_wp2_with fail
    go_round
    case rel=>exact⟨i+1,za,by go_num⟩
    case measure=>simp [intOf];omega
   ·go_wp2;go_ret;exact⟨_,rfl,by rw [HB.out];rfl,rfl⟩
 ·have HB:d (bp n P=T):=by show _=_;unfold bp;rw [zp hall];rfl
  obtain⟨q,hq,f9,heq⟩:=bA hall;have HE:=am heq;have HN:d (P q=T):=by show _=_;cases h:P q;exact absurd h f9;rfl
  clear hall f9 heq;go_enter Tryz.func297,Tryz.ntmps297
  go_wp2;go_loop [8] (fun x=>∃ i:Nat,i<=q/\x=O Q i) (fun x=>n-(intOf x).toNat)
  case atStart=>exact⟨0,jc _,rfl⟩
  case round =>
   obtain⟨i,hi,rfl⟩:=hrel;have hlt:i<n:=za;obtain⟨b,off,rfl,hc⟩:=HR.out za;have ck:=hc i hlt;have HC:=HF.out i hlt;clear hc;have i1:(0:Int)<=(i:Int):=za;have i2:(i:Int)<(n:Int):=za;by_cases hiq:i<q
   ·rw [HE.out i hiq] at HC;go_wp2_with fail
    refine HC.mono ?_;rintro e w' ⟨rfl,rfl⟩;go_wp2_with fail
    go_round
    case rel=>exact⟨i+1,za,by go_num⟩
    case measure=>simp [intOf];omega
   ·obtain rfl:i=q:=za;rw [HN.out] at HC;go_wp2_with fail
    refine HC.mono ?_;rintro e w' ⟨rfl,rfl⟩;go_wp2_with fail
    go_ret;exact⟨_,rfl,by rw [HB.out];simp,rfl⟩
theorem eW(w:J)(ao:Option I)(n ca fn:Nat)(cp:Array ja)(R:Nat->Int)(P:Nat->Bool)(hn:n<=1000)(yO:∀ xs w,(callFunc fn xs).run U w=.ok (.enter fn xs) w)(hr:RdI w ao n R)(hf:ic w fn cp n R P):
  jd U 228 #[C ao n ca,.func (.func fn) #[] cp] w fun e w'=>e=A (.bool (bp n P))/\w'=w:=by
 have HX:=rC w ao n ca fn cp R P hn yO hr hf;clear hr hf yO;go_enter Tryz.func228,Tryz.ntmps228
 go_wp2_with (go_at_call 297;refine HX.mono ?_;rintro e w' ⟨x,rfl,hx,rfl⟩)
 go_ret;exact⟨by rw [<- hx];rfl,rfl⟩
theorem lr{N n:Nat}{R:Nat->Int}(h:n=N):bp n (fun i=>!fj (R i))=!vok N n R:=by
 unfold bp vok;congr 1
 apply decide_eq_decide.2
 constructor
 ·intro k;refine⟨h,fun i hi=>?_⟩;have:=k i hi;have h2:fj (R i)=T:=by simpa using this
  exact of_decide_eq_true h2
 ·rintro⟨_,k⟩ i hi;show (!fj (R i))=jb;rw [show fj (R i)=T from zm (k i hi)];rfl
theorem Par.few{k r c q:Int}{N W:Nat}{e:Int}(h:Par k r c q N W e):N<=16:=by
 rcases h with ⟨h,_,h0,_⟩ | ⟨_,_,h0,_⟩
 ·obtain⟨h1,h2,h3,h4,h5,h6,h7,h8,h9⟩:=aB h;omega
 ·omega
theorem Par.some{k r c q:Int}{N W:Nat}{e:Int}(h:Par k r c q N W e)(he:e=0):1<=N:=by
 rcases h with ⟨h,_,h0,_⟩ | ⟨_,_,h0,h1⟩
 ·obtain⟨h1,h2,h3,h4,h5,h6,h7,h8,h9⟩:=aB h;omega
 ·omega
theorem pZ{k r c q:Int}{N W:Nat}{x:Int}(h:Par k r c q N W x)(w:J)(ao:Option I)(n ca:Nat)(R:Nat->Int)(hv:Vec w ao n ca R):
  jd U 227 #[.agg #[.int .i64 k,.int .i64 r,.int .i64 c,.int .i64 q],.slice ao n ca] w fun e w'=>e=.returned (.int .i64 (erV x N n R))/\X w.heap.size w w':=by
 have HD:=fun w=>cW h w;have hx:x=0\/x=2:=by rcases h with ⟨_,_,_,h⟩ | ⟨_,_,_,h⟩;exact .inl h;exact .inr h
 have HV:d (RdI w ao n R):=hv.rd;have hN:N<=16:=h.few;clear h hv;obtain⟨w0,bi⟩:=jM w k r c q
 have b0:=jt bi
 rcases hx with rfl | rfl
 ·by_cases hnN:n=N
  ·have HE:d (erV 0 N n R=if vok N n R=T then 0 else 70):=by show _=_;unfold erV;rw [zk rfl]
   have HO:=lr (R:=R) hnN;have HC:=fun w (hr:RdI w ao n R)=>eW w ao n ca 147 #[] R (fun i=>!fj (R i)) za (fun _ _=>rfl) hr (fun i _=>eV (R i) w);rw [HO] at HC;clear HO;subst hnN;cases hok:vok n n R
   all_goals (
    rw [hok] at HC HE;clear hok;go_enter Tryz.func227,Tryz.ntmps227
    go_wp2_with fail
    rw [<- bi];refine(HD _).mono ?_;rintro e wa ⟨rfl,ha⟩;have hb:=ap b0 ha;have HR:=HV.out.below hb;clear bi;go_wp2_with fail
    refine(HC _ HR).mono ?_;rintro e wb ⟨rfl,rfl⟩;go_wp2_with fail
    go_ret;exact⟨aN (by rw [HE.out];rfl),hb⟩)
  ·have HE:d (erV 0 N n R=70):=Ey fun h=>hnN h.1;go_enter Tryz.func227,Tryz.ntmps227
   go_wp2_with fail
   rw [<- bi];refine(HD _).mono ?_;rintro e wa ⟨rfl,ha⟩;have hb:=ap b0 ha;clear bi;go_wp2_with fail
   go_ret;exact⟨aN (by rw [HE.out]),hb⟩
 ·have HE:d (erV 2 N n R=2):=erV_x zb;go_enter Tryz.func227,Tryz.ntmps227
  go_wp2_with fail
  rw [<- bi];refine(HD _).mono ?_;rintro e wa ⟨rfl,ha⟩;have hb:=ap b0 ha;clear bi;go_wp2_with fail
  go_ret;exact⟨aN (by rw [HE.out]),hb⟩
def oI (w:J) (E:Int) (v:Int) (e:Ending) (w':J):Prop:=e=.returned (.tuple #[.int .i64 (if E=0 then v else 0),.int .i64 E])/\b7 w w'
theorem oF{k r c q:Int}{N W:Nat}{x:Int}(h:Par k r c q N W x)(w:J)(ao:Option I)(n ca:Nat)(R:Nat->Int)(hv:Vec w ao n ca R)(E:Int)(hE:erV x N n R=E):
  jd U 221 #[Pz k r c q,C ao n ca] w (oI w E (mx R n)):=by
 have HC:=fun w (hv:Vec w ao n ca R)=>pZ h w ao n ca R hv;rw [hE] at HC;have hs:=h.some;have HV:=am hv;have hN:N<=16:=h.few;clear hv h;obtain⟨w0,bi⟩:=jM w k r c q
 have b0:=jt bi
 unfold oI;by_cases h1:E=0
 ·subst h1;obtain⟨rfl,rfl,h4⟩:=vU hE;rw [zk rfl];obtain⟨l,rfl⟩:∃ l,n=l+1:=⟨n-1,by have:=hs rfl;omega⟩
  have HM:d (∀ i,i<=l->mx R (i+1)=gr (mx R i) (R i)):=fun _ _=>rfl;have yZ:d (mx R 1=R 0):=Es (h4 0 za).1;clear hE hs h4;have l8:=HV.out.room;by_cases hcap:ca=1
  ·obtain rfl:l=0:=za;subst hcap;go_enter Tryz.func221,Tryz.ntmps221
   go_wp2_with fail
   rw [<- bi];refine(HC _ (HV.out.below b0)).mono ?_;rintro e wa ⟨rfl,ha⟩;have hb:=ap b0 ha;obtain⟨b,off,rfl,hc⟩:=(HV.out.below hb).rd za;have c0:=hc 0 za;rw [Nat.add_zero] at c0;clear bi hc;go_wp2_with fail
   go_loop [7,22] (fun v x=>v=O Q (R 0)/\x=O Q 0) (fun _ _=>0)
   case atStart=>exact⟨rfl,rfl⟩
   case round =>
    obtain⟨rfl,rfl⟩:=hrel;go_wp2;go_ret2;exact⟨by rw [yZ.out];rfl,hb⟩
  ·go_enter Tryz.func221,Tryz.ntmps221
   go_wp2_with fail
   rw [<- bi];refine(HC _ (HV.out.below b0)).mono ?_;rintro e wa ⟨rfl,ha⟩;have hb:=ap b0 ha;obtain⟨b,off,rfl,hc⟩:=(HV.out.below hb).rd za;have c0:=hc 0 za;rw [Nat.add_zero] at c0;have yI:=am hc;have Yc:(1:Int)<=((l+1:Nat):Int):=za;have Yd:(1:Int)<=(ca:Int):=za;have io:=am hb;clear bi hc hb ha b0 HC;go_wp2_with fail
   go_loop [7,22] (fun v x=>∃ i:Nat,i<=l/\x=O Q (i:Int)/\∃ y,v=O Q y/\d (y=mx R (i+1))) (fun _ x=>l-(intOf x).toNat)
   case atStart=>exact⟨0,jc _,rfl,_,rfl,yZ.out.symm⟩
   case round =>
    obtain⟨i,hi,rfl,y,rfl,hy⟩:=hrel;by_cases hlt:i<l
    ·have ck:=yI.out (i+1) za;rw [show off+(i+1)=off+1+i by omega] at ck;have i1:(0:Int)<=(i:Int):=za;have i2:(i:Int)<(l:Int):=za;have HY:d (mx R (i+1+1)=gr y (R (i+1))):=by show _=_;rw [HM.out (i+1) za,<- hy.out]
     by_cases hg:y<R (i+1)
     ·have Jl:d (R (i+1)=mx R (i+1+1)):=by show _=_;rw [HY.out];unfold gr;rw [zk hg]
      go_wp2;go_round
      case rel=>exact⟨i+1,za,by go_num,_,rfl,Jl.out⟩
      case measure=>simp [intOf];omega
     ·have Jl:d (y=mx R (i+1+1)):=by show _=_;rw [HY.out];unfold gr;rw [zl hg]
      go_wp2;go_round
      case rel=>exact⟨i+1,za,by go_num,_,rfl,Jl.out⟩
      case measure=>simp [intOf];omega
    ·obtain rfl:i=l:=za;go_wp2;go_ret2;exact⟨by rw [hy.out];rfl,io.out⟩
 ·have f9:(E != 0)=T:=by simpa using h1
  rw [zl h1];clear hE h1 hs;go_enter Tryz.func221,Tryz.ntmps221
  go_wp2_with fail
  rw [<- bi];refine(HC _ (HV.out.below b0)).mono ?_;rintro e wa ⟨rfl,ha⟩;have hb:=ap b0 ha;clear bi;go_wp2_with fail
  go_ret2;exact⟨rfl,hb⟩
structure Sl where
  kd:UInt8
  ix:Int
  ce:Int
  st:Int
  vn:Nat
  V:Nat->Int
  dn:Nat
  D:Nat->UInt8
def zSl:Sl:=⟨0,0,0,0,0,fun _=>0,0,fun _=>0⟩
def okS (N:Nat) (c:Int) (s:Sl):Bool:=decide ((s.vn=N/\∀ i,i<s.vn->1<=s.V i/\s.V i<=1073741824)/\(s.kd=1\/s.kd=2)/\0<=s.ix/\s.ix<(s.vn:Int)/\(s.dn:Int)=c/\s.st=mx s.V s.vn/\s.ce=s.V s.ix.toNat)
def sz (N:Nat) (c:Int):Nat:=12+4*N+c.toNat
def dg (m i:Nat):UInt8:=UInt8.ofNat (m / 256 ^ i)
theorem aP(m i:Nat):(dg m i).toNat=m / 256 ^ i % 256:=by unfold dg;simp
def enc (s:Sl) (j:Nat):UInt8 :=
  if j=0 then 84 else if j=1 then 50 else if j=2 then s.kd else if j=3 then dg s.ix.toNat 0 else if j<8 then dg s.ce.toNat (7-j) else if j<12 then dg s.st.toNat (11-j)
  else if j<12+4*s.vn then dg (s.V ((j-12) / 4)).toNat (3-(j-12) % 4) else s.D (j-(12+4*s.vn))
def nm (F:Nat->UInt8) (o:Nat):Nat->Nat
  | 0=>0
  | k+1=>nm F o k*256+(F (o+k)).toNat
theorem gj(F:Nat->UInt8)(o:Nat):∀ k,nm F o k<256 ^ k
 | 0=>by rw [nm];decide
 | k+1=>by
  have h:=gj F o k;have h2:(F (o+k)).toNat<256:=(F (o+k)).toNat_lt;rw [nm,Nat.pow_succ];omega
theorem fK{F G:Nat->UInt8}{o p:Nat}:∀ {k:Nat},(∀ i,i<k->F (o+i)=G (p+i))->nm F o k=nm G p k
 | 0,_=>rfl
 | k+1,h=>by rw [nm,nm,fK (k:=k) (fun i hi=>h i za),h k za]
def dec (N:Nat) (c:Int) (F:Nat->UInt8):Sl:=⟨F 2,nm F 3 1,nm F 4 4,nm F 8 4,N,fun i=>nm F (12+4*i) 4,c.toNat,fun j=>F (12+4*N+j)⟩
def isS (N:Nat) (c:Int) (n:Nat) (F:Nat->UInt8):Bool:=decide (n=sz N c/\F 0=84/\F 1=50/\okS N c (dec N c F)=T)
theorem dY{N:Nat}{c:Int}{s:Sl}(h:okS N c s=T):(s.vn=N/\∀ i,i<s.vn->1<=s.V i/\s.V i<=1073741824)/\(s.kd=1\/s.kd=2)/\0<=s.ix/\s.ix<(s.vn:Int)/\(s.dn:Int)=c/\s.st=mx s.V s.vn/\s.ce=s.V s.ix.toNat:=of_decide_eq_true h
theorem Dk{R:Nat->Int}:∀ {n:Nat},(∀ i,i<n->1<=R i/\R i<=1073741824)->0<=mx R n/\mx R n<=1073741824
 | 0,_=>by rw [mx];omega
 | n+1,h=>by
  have:=Dk (n:=n) (fun i hi=>h i za);have:=h n za;rw [mx,gr];split <;> omega
theorem dx{N:Nat}{c:Int}{s:Sl}(h:okS N c s=T):(1<=s.ce/\s.ce<=1073741824)/\0<=s.st/\s.st<=1073741824:=by
 obtain⟨⟨k1,k2⟩,k3,k4,k5,k6,k7,k8⟩:=dY h;have h1:=k2 s.ix.toNat za
 have h2:=Dk k2;omega
theorem Dv{s:Sl}{v i:Nat}(hv:v<s.vn)(hi:i<4):enc s (12+4*v+i)=dg (s.V v).toNat (3-i):=by
 unfold enc;rw [zl za,zl za,zl za,zl za,zl za,zl za,zk za,show (12+4*v+i-12) / 4=v by omega,show (12+4*v+i-12) % 4=i by omega]
theorem Dl(s:Sl)(j:Nat):enc s (12+4*s.vn+j)=s.D j:=by
 unfold enc;rw [zl za,zl za,zl za,zl za,zl za,zl za,zl za,show 12+4*s.vn+j-(12+4*s.vn)=j by omega]
theorem Dt(s:Sl){i:Nat}(hi:i<4):enc s (4+i)=dg s.ce.toNat (3-i):=by
 unfold enc;rw [zl za,zl za,zl za,zl za,zk za,show 7-(4+i)=3-i by omega]
theorem Dr(s:Sl){i:Nat}(hi:i<4):enc s (8+i)=dg s.st.toNat (3-i):=by
 unfold enc;rw [zl za,zl za,zl za,zl za,zl za,zk za,show 11-(8+i)=3-i by omega]
theorem eH{N:Nat}{c:Int}{n:Nat}{F:Nat->UInt8}(h:isS N c n F=T):n=sz N c/\F 0=84/\F 1=50/\okS N c (dec N c F)=T:=of_decide_eq_true h
def upR (G:Nat->UInt8) (o k:Nat) (H:Nat->UInt8):Nat->UInt8:=fun j=>if o<=j/\j<o+k then H (j-o) else G j
theorem aE{G:Nat->UInt8}{o k:Nat}{H:Nat->UInt8}{j:Nat}(h:o<=j/\j<o+k):upR G o k H j=H (j-o):=zk h
theorem aw{G:Nat->UInt8}{o k:Nat}{H:Nat->UInt8}{j:Nat}(h:¬ (o<=j/\j<o+k)):upR G o k H j=G j:=zl h
def RdU (w:J) (ao:Option I) (n:Nat) (F:Nat->UInt8):Prop :=
  0<n->∃ b off,ao=Y ⟨b,off,Z⟩/\∀ j,j<n->w.cell? ⟨b,off+j,Z⟩=Y (.int .u8 (((F j).toNat:Nat):Int))
theorem RdU.below{w w':J}{ao:Option I}{n:Nat}{F:Nat->UInt8}(h:RdU w ao n F)(ho:b7 w w'):RdU w' ao n F:=by
 intro hn;obtain⟨b,off,rfl,hc⟩:=h hn;exact⟨b,off,rfl,fun i hi=>held (hc i hi) ho⟩
theorem RdU.congr{w:J}{ao:Option I}{n:Nat}{F G:Nat->UInt8}(h:RdU w ao n F)(e:∀ i,i<n->F i=G i):RdU w ao n G:=by
 intro hn;obtain⟨b,off,rfl,hc⟩:=h hn;exact⟨b,off,rfl,fun i hi=>by rw [<- e i hi];exact hc i hi⟩
structure Bec (w:World) (ao:Option Addr) (n b8:Nat) (F:Nat->UInt8):Prop where
  rd:RdU w ao n F
  nil:ao=none->n=0/\b8=0
  room:n<=b8
theorem Bec.below{w w':J}{ao:Option I}{n b8:Nat}{F:Nat->UInt8}(h:Bec w ao n b8 F)(ho:b7 w w'):Bec w' ao n b8 F:=⟨h.rd.below ho,h.nil,h.room⟩
theorem Bec.congr{w:J}{ao:Option I}{n b8:Nat}{F G:Nat->UInt8}(h:Bec w ao n b8 F)(e:∀ i,i<n->F i=G i):Bec w ao n b8 G:=⟨h.rd.congr e,h.nil,h.room⟩
theorem ft(w:J)(F:Nat->UInt8):Bec w Z 0 0 F:=⟨fun h=>absurd h (Nat.lt_irrefl 0),fun _=>⟨rfl,rfl⟩,L _⟩
def byF (n:Nat) (F:Nat->UInt8):List ja:=(List.range n).map fun i=>.int .u8 (((F i).toNat:Nat):Int)
theorem ai(k:Nat)(F:Nat->UInt8):(byF k F).length=k:=by simp [byF]
theorem aL(k:Nat)(F:Nat->UInt8)(i:Nat)(h:i<k):(byF k F)[i]? = Y (O .u8 (((F i).toNat:Nat):Int)):=by simp [byF,h]
theorem bB{k:Nat}{F G:Nat->UInt8}(h:∀ i,i<k->F i=G i):byF k F=byF k G:=by
 unfold byF;apply List.map_congr_left
 intro i hi;rw [h i (List.mem_range.1 hi)]
theorem gR(k m:Nat)(F:Nat->UInt8):byF (k+m) F=byF k F ++ byF m (fun i=>F (k+i)):=by
 apply List.ext_getElem?
 intro i;by_cases h:i<k
 ·rw [List.getElem?_append_left (by rw [ai];exact h),aL _ _ _ h,aL _ _ _ za]
 ·rw [List.getElem?_append_right (by rw [ai];omega),ai];by_cases h2:i<k+m
  ·rw [aL _ _ _ h2,aL _ _ _ za,show k+(i-k)=i by omega]
  ·rw [List.getElem?_eq_none (by rw [ai];omega),List.getElem?_eq_none (by rw [ai];omega)]
theorem dU(k:Nat)(F:Nat->UInt8):∀ v ∈ byF k F,v.oneCell'=T:=by
 intro v hv;simp only [byF,List.mem_map] at hv;obtain⟨i,_,rfl⟩:=hv;rfl
theorem Bt{n i:Nat}(F:Nat->UInt8)(u:UInt8):(byF n F).set i (O .u8 ((u.toNat:Nat):Int))=byF n (put i u F):=by
 apply List.ext_getElem?
 intro j;rw [List.getElem?_set];by_cases hj:j<n
 ·rw [aL n (put i u F) _ hj];by_cases e:i=j
  ·subst e;rw [zk rfl,zk (by rw [ai];exact hj),put_at]
  ·rw [zl e,aL _ _ _ hj,put_ne _ _ (fun h=>e h.symm)]
 ·by_cases e:i=j
  ·subst e;rw [zk rfl,zl (by rw [ai];exact hj),List.getElem?_eq_none (by rw [ai];omega)]
  ·rw [zl e,List.getElem?_eq_none (by rw [ai];omega),List.getElem?_eq_none (by rw [ai];omega)]
theorem dF{w:J}{ad:I}{n b8:Nat}{F:Nat->UInt8}(h:Bec w (Y ad) n b8 F):∀ j u,(byF n F)[j]? = Y u->w.cell? (ad.add j)=Y u:=by
 intro j u hu;have hj:j<n:=db (ai n F) hu;rw [aL _ _ _ hj] at hu;obtain⟨b,off,e,hc⟩:=h.rd za;cases e
 rw [Addr.add_lit,hc j hj];exact hu
def OwU (B:Nat) (w:J) (ao:Option I) (n b8:Nat) (F:Nat->UInt8):Prop:=w.ownsRow B 5 1 (.slice ao n b8) n (byF n F)
theorem cE(B:Nat)(w:J)(F:Nat->UInt8):OwU B w Z 0 0 F:=World.ownsRow_nil _ _ _ _
theorem OwU.congr{B:Nat}{w:J}{ao:Option I}{n b8:Nat}{F G:Nat->UInt8}(h:OwU B w ao n b8 F)(e:∀ i,i<n->F i=G i):OwU B w ao n b8 G:=by
 unfold OwU at *;rw [<- bB e];exact h
theorem OwU.bec{B:Nat}{w:J}{ao:Option I}{n b8:Nat}{F:Nat->UInt8}(h:OwU B w ao n b8 F):Bec w ao n b8 F:=by
 have h0:=h;rcases h.2 with ⟨h1,h2⟩ | ⟨g,jy,jw,h1,_,_,h4,_⟩
 ·cases h1;exact ft _ _
 ·cases h1
  refine⟨fun hp=>⟨g,0,rfl,fun i hi=>?_⟩,(fun e=>by cases e),h4⟩;have:=World.ownsRow.cells h0 (g:=g) rfl i _ (aL n F i hi)
  rwa [Addr.add_lit] at this
theorem OwU.at_{B:Nat}{w:J}{ao:Option I}{n b8:Nat}{F:Nat->UInt8}(h:OwU B w ao n b8 F)(hn:0<n):∃ g,ao=Y ⟨g,0,Z⟩/\B<=g/\g<w.heap.size:=by
 obtain⟨g,jy,e,h1,h2⟩:=World.ownsRow.form h hn;cases e;exact⟨g,rfl,h1,h2⟩
theorem OwU.stay{B:Nat}{w w':J}{ao:Option I}{n b8:Nat}{F:Nat->UInt8}(h:OwU B w ao n b8 F)(hb:∀ g,B<=g->g<w.heap.size->w'.heap[g]? = w.heap[g]?):OwU B w' ao n b8 F:=by
 refine⟨h.1,?_⟩;rcases h.2 with h1 | ⟨g,jy,jw,h1,h2,h3,h4⟩
 ·exact .inl h1
 ·exact .inr ⟨g,jy,jw,h1,h2,by rw [hb g h2 (Array.getElem?_eq_some_iff.1 h3).1];exact h3,h4⟩
theorem OwU.below{B:Nat}{w w':J}{ao:Option I}{n b8:Nat}{F:Nat->UInt8}(h:OwU B w ao n b8 F)(hb:b7 w w'):OwU B w' ao n b8 F:=h.stay fun g _ hg=>hb.block g hg
theorem OwU.mono{B B':Nat}{w:J}{ao:Option I}{n b8:Nat}{F:Nat->UInt8}(h:OwU B w ao n b8 F)(hb:B'<=B):OwU B' w ao n b8 F:=by
 refine⟨h.1,?_⟩;rcases h.2 with h1 | ⟨g,jy,jw,h1,h2,h3⟩
 ·exact .inl h1
 ·exact .inr ⟨g,jy,jw,h1,za,h3⟩
theorem bU:(Tryz.prog.info? 5).map (fun i=>(i.zero,i.size,i.bytes))=Y (Y (O .u8 0),1,1):=zh
def Bk (w:J) (g n:Nat) (G:Nat->UInt8):Prop:=w.heap[g]? = Y (.cells (byF n G).toArray 5 (0,0))
theorem Bk.lt{w:J}{g n:Nat}{G:Nat->UInt8}(h:Bk w g n G):g<w.heap.size:=(Array.getElem?_eq_some_iff.1 h).1
theorem Bk.cell{w:J}{g n:Nat}{G:Nat->UInt8}(h:Bk w g n G){i:Nat}(hi:i<n):w.cell? ⟨g,i,Z⟩=Y (O .u8 (((G i).toNat:Nat):Int)):=by
 have:=aL n G i hi;unfold Bk at h;simp [World.cell?,h,this]
theorem Bk.free{w:J}{g n:Nat}{G:Nat->UInt8}(h:Bk w g n G)(i:Nat):w.frozen? ⟨g,i,Z⟩=jb:=by
 unfold Bk at h;simp [World.frozen?,h]
theorem Bk.set{w:J}{g n:Nat}{G:Nat->UInt8}(h:Bk w g n G)(i:Nat)(u:UInt8):Bk (w.setCell ⟨g,i,Z⟩ (O .u8 ((u.toNat:Nat):Int))) g n (put i u G):=by
 unfold Bk at *;rw [<- Bt];simp [World.setCell,Array.getElem?_modify,h]
theorem Bk.congr{w:J}{g n:Nat}{G H:Nat->UInt8}(h:Bk w g n G)(e:∀ i,i<n->G i=H i):Bk w g n H:=by
 unfold Bk at *;rw [<- bB e];exact h
theorem Bk.below{w w':J}{g n:Nat}{G:Nat->UInt8}(h:Bk w g n G)(ho:b7 w w'):Bk w' g n G:=(ho.block g h.lt).trans h
theorem Bk.own{w:J}{B g n:Nat}{G:Nat->UInt8}(h:Bk w g n G)(hB:B<=g)(hn:n<=1000):OwU B w (Y ⟨g,0,Z⟩) n n G:=by
 refine⟨by rw [ai,Nat.mul_one],.inr ⟨g,n,_,rfl,hB,h,L _,by unfold maxLen;omega,by simp [ai],?_⟩⟩;rw [List.take_of_length_le (by rw [List.toList_toArray,ai];omega)]
def lsF (n:Nat) (F:Nat->UInt8):List UInt8:=(List.range n).map F
theorem cC(n:Nat)(F:Nat->UInt8):(lsF n F).length=n:=by simp [lsF]
theorem CG(n:Nat)(F:Nat->UInt8)(j:Nat)(h:j<(lsF n F).length):(lsF n F)[j]=F j:=by simp [lsF]
def sOf (c:List UInt8):ByteArray:=⟨c.toArray⟩
theorem bm{w:J}{ao:Option I}{n cp:Nat}{F:Nat->UInt8}(h:Bec w ao n cp F):(convert 36 9 (C ao n cp)).run U w=.ok (.string (sOf (lsF n F))) w:=by
 by_cases hn:n=0
 ·subst hn;cases ao with
  | none=>exact run_convert_bytes_nil w 36 5 Tryz.underlying36 Tryz.underlying5 0 cp 9 Tryz.underlying9
  | some a=>exact run_convert_bytes_back w 36 9 5 a cp [] Tryz.underlying36 Tryz.underlying5 Tryz.underlying9 (fun j hj=>by simp at hj)
 ·obtain⟨b,off,rfl,hr⟩:=h.rd za;have:=run_convert_bytes_back (P:=U) w 36 9 5 ⟨b,off,Z⟩ cp (lsF n F) Tryz.underlying36 Tryz.underlying5 Tryz.underlying9 (fun j hj=>by rw [Addr.add_lit,CG];exact hr j (by rw [cC] at hj;exact hj));rw [cC] at this;exact this
theorem fp(c:List UInt8):(sOf c).toList=c:=by rw [ByteArray.toList_eq];rfl
theorem lsF_eq{n m:Nat}{F G:Nat->UInt8}:lsF n F=lsF m G ↔ n=m/\∀ j,j<n->F j=G j:=by
 constructor
 ·intro h;have hl:=congrArg List.length h;rw [cC,cC] at hl;subst hl;refine⟨rfl,fun j hj=>?_⟩;have h1:(lsF n F)[j]? = (lsF n G)[j]?:=by rw [h]
  simpa [lsF,hj] using h1
 ·rintro⟨rfl,h⟩;unfold lsF;apply List.map_congr_left
  intro i hi;exact h i (List.mem_range.1 hi)
def slv (s:Sl) (ao:Option I) (ca:Nat) (bo:Option I) (cb:Nat):ja:=.agg #[.int .u8 ((s.kd.toNat:Nat):Int),.int .i64 s.ix,.int .i64 s.ce,.int .i64 s.st,.slice ao s.vn ca,.slice bo s.dn cb]
structure Has (w:World) (s:Sl) (ao:Option Addr) (ca:Nat) (bo:Option Addr) (cb:Nat):Prop where
  vec:Vec w ao s.vn ca s.V
  bec:Bec w bo s.dn cb s.D
theorem Has.below{w w':J}{s:Sl}{ao:Option I}{ca:Nat}{bo:Option I}{cb:Nat}(h:Has w s ao ca bo cb)(ho:b7 w w'):Has w' s ao ca bo cb:=⟨h.vec.below ho,h.bec.below ho⟩
structure Got (B:Nat) (w:World) (s:Sl) (ao:Option Addr) (ca:Nat) (bo:Option Addr) (cb:Nat):Prop where
  vec:Own B w ao s.vn ca s.V
  bec:OwU B w bo s.dn cb s.D
theorem Got.has{B:Nat}{w:J}{s:Sl}{ao:Option I}{ca:Nat}{bo:Option I}{cb:Nat}(h:Got B w s ao ca bo cb):Has w s ao ca bo cb:=⟨h.vec.vec,h.bec.bec⟩
theorem Got.below{B:Nat}{w w':J}{s:Sl}{ao:Option I}{ca:Nat}{bo:Option I}{cb:Nat}(h:Got B w s ao ca bo cb)(ho:b7 w w'):Got B w' s ao ca bo cb:=⟨h.vec.below ho,h.bec.below ho⟩
theorem Got.mono{B B':Nat}{w:J}{s:Sl}{ao:Option I}{ca:Nat}{bo:Option I}{cb:Nat}(h:Got B w s ao ca bo cb)(hb:B'<=B):Got B' w s ao ca bo cb:=⟨h.vec.mono hb,h.bec.mono hb⟩
theorem aR(B:Nat)(w:J):Got B w zSl Z 0 Z 0:=⟨eM _ _ _,cE _ _ _⟩
theorem dw{w w0 w1:J}{x0 x1 x2 x3 x4 x5:ja}{t:TypeId}(h0:w0=w.alloc (.cells #[x0,x1,x2,x3,x4,x5] t))(hb:b7 w0 w1):
  w1.cell? ⟨w.heap.size,0,Z⟩=Y x0/\w1.cell? ⟨w.heap.size,1,Z⟩=Y x1/\w1.cell? ⟨w.heap.size,2,Z⟩=Y x2/\w1.cell? ⟨w.heap.size,3,Z⟩=Y x3/\w1.cell? ⟨w.heap.size,4,Z⟩=Y x4/\w1.cell? ⟨w.heap.size,5,Z⟩=Y x5 :=
 ⟨ae h0 hb 0 rfl,ae h0 hb 1 rfl,ae h0 hb 2 rfl,ae h0 hb 3 rfl,ae h0 hb 4 rfl,ae h0 hb 5 rfl⟩
def szE (x:Int) (N:Nat) (c:Int):Nat:=if x=0 then sz N c else 0
theorem Par.cell{k r c q:Int}{N W:Nat}{e:Int}(h:Par k r c q N W e)(he:e=0):8<=c/\c<=64:=by
 rcases h with ⟨h,_,h0,_⟩ | ⟨_,_,h0,h1⟩
 ·obtain⟨h1,h2,h3,h4,h5,h6,h7,h8,h9⟩:=aB h;exact⟨h5,h6⟩
 ·omega
theorem Par.err{k r c q:Int}{N W:Nat}{e:Int}(h:Par k r c q N W e):e=0\/e=2:=by rcases h with ⟨_,_,_,h⟩ | ⟨_,_,_,h⟩;exact .inl h;exact .inr h
end Go.Proofs.YtemlojjkokooeaaGreat
