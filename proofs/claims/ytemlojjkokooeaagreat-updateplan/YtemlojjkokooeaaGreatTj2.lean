import Derived.Laws.AppendOwnNone
import Derived.Laws.OwnMore
import Derived.Deep.AppendLies
import Derived.Deep.OwnRows
import Derived.Test.YtemlojjkokooeaaGreatTj1
set_option maxHeartbeats 1000000
set_option maxRecDepth 100000
namespace Go.Proofs.YtemlojjkokooeaaGreat
open Go.RowKit
def RdI (w:World) (ao:Option Addr) (n:Nat) (R:Nat->Int):Prop :=
  0<n->∃ b off,ao=some ⟨b,off,none⟩/\∀ i,i<n->w.cell? ⟨b,off+i,none⟩=some (.int .i64 (R i))
theorem RdI.below{w w':World}{ao:Option Addr}{n:Nat}{R:Nat->Int}(h:RdI w ao n R)(ho:Below w.heap.size w w'):RdI w' ao n R:=by
 intro hn;obtain⟨b,off,rfl,hc⟩:=h hn;exact⟨b,off,rfl,fun i hi=>held (hc i hi) ho⟩
structure Vec (w:World) (ao:Option Addr) (n cap:Nat) (R:Nat->Int):Prop where
  rd:RdI w ao n R
  nil:ao=none->n=0/\cap=0
  room:n<=cap
theorem Vec.below{w w':World}{ao:Option Addr}{n cap:Nat}{R:Nat->Int}(h:Vec w ao n cap R)(ho:Below w.heap.size w w'):Vec w' ao n cap R:=⟨h.rd.below ho,h.nil,h.room⟩
theorem vec_nil(w:World)(R:Nat->Int):Vec w none 0 0 R:=⟨fun h=>absurd h (Nat.lt_irrefl 0),fun _=>⟨rfl,rfl⟩,Nat.le_refl _⟩
def zOf (n:Nat) (R:Nat->Int):List Value:=(List.range n).map fun i=>.int .i64 (R i)
theorem zOf_length(k:Nat)(R:Nat->Int):(zOf k R).length=k:=by simp [zOf]
theorem zOf_get(k:Nat)(R:Nat->Int)(i:Nat)(h:i<k):(zOf k R)[i]? = some (.int .i64 (R i)):=by simp [zOf,h]
theorem zOf_congr{k:Nat}{R S:Nat->Int}(h:∀ i,i<k->R i=S i):zOf k R=zOf k S:=by
 unfold zOf;apply List.map_congr_left
 intro i hi;rw [h i (List.mem_range.1 hi)]
theorem zOf_succ(k:Nat)(R:Nat->Int):zOf (k+1) R=zOf k R ++ [.int .i64 (R k)]:=by
 unfold zOf; rw [List.range_succ,List.map_append,List.map_cons,List.map_nil]
theorem zOf_one(k:Nat)(R:Nat->Int):∀ v ∈ zOf k R,v.oneCell'=true:=by
 intro v hv;simp only [zOf,List.mem_map] at hv;obtain⟨i,_,rfl⟩:=hv;rfl
theorem list_lt{α:Type}{l:List α}{n i:Nat}{x:α}(hl:l.length=n)(h:l[i]? = some x):i<n:=by
 rcases Nat.lt_or_ge i n with g | g
 ·exact g
 ·rw [List.getElem?_eq_none (by omega)] at h; cases h
theorem zOf_set{n i:Nat}(R:Nat->Int)(v:Int):(zOf n R).set i (.int .i64 v)=zOf n (put i v R):=by
 apply List.ext_getElem?
 intro j;rw [List.getElem?_set];by_cases hj:j<n
 ·rw [zOf_get n (put i v R) _ hj];by_cases e:i=j
  ·subst e; rw [if_pos rfl,if_pos (by rw [zOf_length]; exact hj),put_at]
  ·rw [if_neg e,zOf_get _ _ _ hj,put_ne _ _ (fun h=>e h.symm)]
 ·by_cases e:i=j
  ·subst e; rw [if_pos rfl,if_neg (by rw [zOf_length]; exact hj),List.getElem?_eq_none (by rw [zOf_length]; omega)]
  ·rw [if_neg e,List.getElem?_eq_none (by rw [zOf_length]; omega),List.getElem?_eq_none (by rw [zOf_length]; omega)]
def Own (B:Nat) (w:World) (ao:Option Addr) (n cap:Nat) (R:Nat->Int):Prop:=w.ownsRow B 3 1 (.slice ao n cap) n (zOf n R)
theorem own_nil(B:Nat)(w:World)(R:Nat->Int):Own B w none 0 0 R:=World.ownsRow_nil _ _ _ _
theorem Own.congr{B:Nat}{w:World}{ao:Option Addr}{n cap:Nat}{R S:Nat->Int}(h:Own B w ao n cap R)(e:∀ i,i<n->R i=S i):Own B w ao n cap S:=by
 unfold Own at *; rw [<- zOf_congr e]; exact h
theorem Own.vec{B:Nat}{w:World}{ao:Option Addr}{n cap:Nat}{R:Nat->Int}(h:Own B w ao n cap R):Vec w ao n cap R:=by
 have h0:=h;rcases h.2 with ⟨h1,h2⟩ | ⟨g,cap',cur,h1,_,_,h4,_⟩
 ·cases h1; exact vec_nil _ _
 ·cases h1
  refine⟨fun hp=>⟨g,0,rfl,fun i hi=>?_⟩,(fun e=>by cases e),h4⟩;have:=World.ownsRow.cells h0 (g:=g) rfl i _ (zOf_get n R i hi)
  rwa [Addr.add_lit] at this
theorem Own.at_{B:Nat}{w:World}{ao:Option Addr}{n cap:Nat}{R:Nat->Int}(h:Own B w ao n cap R)(hn:0<n):∃ g,ao=some ⟨g,0,none⟩/\B<=g/\g<w.heap.size:=by
 obtain⟨g,cap',e,h1,h2⟩:=World.ownsRow.form h hn;cases e; exact⟨g,rfl,h1,h2⟩
theorem Own.stay{B:Nat}{w w':World}{ao:Option Addr}{n cap:Nat}{R:Nat->Int}(h:Own B w ao n cap R)(hb:∀ g,B<=g->g<w.heap.size->w'.heap[g]? = w.heap[g]?):Own B w' ao n cap R:=by
 refine⟨h.1,?_⟩;rcases h.2 with h1 | ⟨g,cap',cur,h1,h2,h3,h4⟩
 ·exact .inl h1
 ·exact .inr ⟨g,cap',cur,h1,h2,by rw [hb g h2 (by rcases Nat.lt_or_ge g w.heap.size with l | l; exact l; rw [Array.getElem?_eq_none l] at h3; cases h3)]; exact h3,h4⟩
theorem Own.below{B:Nat}{w w':World}{ao:Option Addr}{n cap:Nat}{R:Nat->Int}(h:Own B w ao n cap R)(hb:Below w.heap.size w w'):Own B w' ao n cap R:=h.stay fun g _ hg=>hb.block g hg
theorem Own.mono{B B':Nat}{w:World}{ao:Option Addr}{n cap:Nat}{R:Nat->Int}(h:Own B w ao n cap R)(hb:B'<=B):Own B' w ao n cap R:=by
 refine⟨h.1,?_⟩;rcases h.2 with h1 | ⟨g,cap',cur,h1,h2,h3⟩
 ·exact .inl h1
 ·exact .inr ⟨g,cap',cur,h1,by omega,h3⟩
theorem Own.set{B:Nat}{w:World}{g n cap:Nat}{R:Nat->Int}(h:Own B w (some ⟨g,0,none⟩) n cap R)(i:Nat)(v:Int):Own B (w.setCell ⟨g,i,none⟩ (.int .i64 v)) (some ⟨g,0,none⟩) n cap (put i v R):=by
 unfold Own at *; rw [<- zOf_set]; exact(World.ownsRow.stored h i _).1
theorem Own.cell{B:Nat}{w:World}{g n cap:Nat}{R:Nat->Int}(h:Own B w (some ⟨g,0,none⟩) n cap R){i:Nat}(hi:i<n):w.cell? ⟨g,i,none⟩=some (.int .i64 (R i)):=by
 rw [World.ownsRow.cellAt h i (by omega),zOf_get _ _ _ hi]
theorem Own.free{B:Nat}{w:World}{g n cap:Nat}{R:Nat->Int}(h:Own B w (some ⟨g,0,none⟩) n cap R)(i:Nat):w.frozen? ⟨g,i,none⟩=false:=World.ownsRow.frozenAt h i
theorem info3:(Tryz.prog.info? 3).map (fun i=>(i.zero,i.size,i.bytes))=some (some (.int .i64 0),1,8):=by kernel_rfl
theorem info4:(Tryz.prog.info? 4).map (fun i=>(i.zero,i.size,i.bytes))=some (some (.bool false),1,1):=by kernel_rfl
theorem info_parts{t:TypeId}{z:Value}{s b:Nat}(h:(Tryz.prog.info? t).map (fun i=>(i.zero,i.size,i.bytes))=some (some z,s,b)):∃ i,Tryz.prog.info? t=some i/\i.zero=some z/\i.size=s/\i.bytes=b:=by
 obtain⟨i,hi,e⟩:=Option.map_eq_some_iff.1 h;simp only [Prod.mk.injEq] at e;exact⟨i,hi,e.1,e.2.1,e.2.2⟩
theorem own_row{w:World}{B g n:Nat}{f:Nat->Value}{R:Nat->Int}(h:w.rowIs g 3 n f)(hB:B<=g)(hn:n<=1000)(e:∀ i,i<n->f i=.int .i64 (R i)):Own B w (some ⟨g,0,none⟩) n n R:=by
 obtain⟨c,hb,hs,hc⟩:=h;refine⟨by rw [zOf_length,Nat.mul_one],.inr ⟨g,n,c,rfl,hB,hb,Nat.le_refl _,by unfold maxLen; omega,by rw [hs,Nat.mul_one],?_⟩⟩;apply List.ext_getElem?
 intro i;by_cases hi:i<n
 ·rw [List.getElem?_take_of_lt (by omega),zOf_get _ _ _ hi,Array.getElem?_toList,hc i hi,e i hi]
 ·rw [List.getElem?_eq_none (by simp; omega),List.getElem?_eq_none (by rw [zOf_length]; omega)]
theorem below_drewN(B:Nat)(w:World)(n:Nat):Below B w (w.drewN n):=⟨rfl,rfl,rfl,Nat.le_refl _,fun _ _=>rfl⟩
theorem wpList_append_ints{w:World}{ops:Array Oper}{rest:List Oper}{o:Oper}{a:Act}{Q:Exit->Act->World->Prop}(hgd:o.guard=none)(s x:Operand)
  (ho:o.op=.call { callee:=.builtin .append,args:=#[s,x],argTypes:=#[27,27]}) (B k n ca cb:Nat) (ao bo:Option Addr) (xs:List Value) (R:Nat->Int)
  (hs:a.eval s=.slice ao k ca) (hx:a.eval x=.slice bo n cb) (h:w.ownsRow B 3 1 (.slice ao k ca) k xs) (hv:Vec w bo n cb R) (hk:k<=1000) (hn:n<=1000) (hB:B<=w.heap.size)
  (cont:∀ ao' c' w',w'.ownsRow B 3 1 (.slice ao' (k+n) c') (k+n) (xs ++ zOf n R)->w.grownBy w' (Value.slice ao k ca).ownBlock->wpList Tryz.prog ops Q rest (a.put o.dst (.slice ao' (k+n) c')) w'):wpList Tryz.prog ops Q (o :: rest) a w:=by
 obtain⟨j0,hj,hj0,hj1,hj2⟩:=info_parts info3;cases bo with
 | none =>
  obtain⟨rfl,rfl⟩:=hv.nil rfl;have:=cont ao ca w (by rw [show zOf 0 R=[] from rfl,List.append_nil]; exact h) ⟨rfl,rfl,rfl,Nat.le_refl _,fun _ _ _=>rfl⟩;exact wpList_append_own_none hgd s x 27 ho B 3 j0 1 Tryz.underlying27 hj (.slice ao k ca) k xs hs h hx this
 | some ad =>
  refine wpList_append_own w hgd s x 27 ho B 3 j0 (.int .i64 0) 1 8 Tryz.underlying27 hj hj0 hj1 hj2 rfl (by decide) (.slice ao k ca) k xs hs h ad n cb (zOf n R) hx (by rw [zOf_length,Nat.mul_one]) (fun j u hu=>?_) (zOf_one _ _) (by unfold maxLen; omega) (by omega) hB ?_
  ·have hj:j<n:=list_lt (zOf_length n R) hu;rw [zOf_get _ _ _ hj] at hu;obtain⟨b,off,e,hc⟩:=hv.rd (by omega);cases e
   rw [Addr.add_lit,hc j hj]; exact hu
  ·intro v' w' h1 h2 _;obtain⟨ao',c',rfl⟩:∃ ao' c',v'=.slice ao' (k+n) c':=by
    rcases h1.2 with ⟨rfl,e⟩ | ⟨g,cap,cur,rfl,_⟩
    ·rw [e]; exact⟨none,0,rfl⟩
    ·exact⟨_,cap,rfl⟩
   exact cont ao' c' w' h1 h2
theorem noVersion_any(v:Int)(w:World):Calls Tryz.prog 147 #[.int .i64 v] w fun e w'=>e=.returned (.bool (!verB v))/\w'=w:=by
 have HV:Hid (verB v=decide (1<=v/\v<=1073741824)):=rfl;go_enter Tryz.func147,Tryz.ntmps147
 go_wp2;all_goals (go_ret; refine⟨ret_bool ?_,rfl⟩; rw [HV.out])
 ·by_cases h:1073741824<v
  ·rw [decide_eq_false (p:=1<=v/\v<=1073741824) (by omega),decide_eq_false (p:=v<1) (by omega),decide_eq_true h]; rfl
  ·rw [decide_eq_true (p:=1<=v/\v<=1073741824) (by omega),decide_eq_false (p:=v<1) (by omega),decide_eq_false h]; rfl
 ·rw [decide_eq_false (p:=1<=v/\v<=1073741824) (by omega)]; rfl
def RuleB (w:World) (fn:Nat) (cp:Array Value) (n:Nat) (R:Nat->Int) (P:Nat->Bool):Prop :=
  ∀ i,i<n->Calls Tryz.prog fn (#[.int .i64 (R i)] ++ cp) w fun e w'=>e=.returned (.bool (P i))/\w'=w
theorem indexF_any(w:World)(ao:Option Addr)(n ca fn:Nat)(cp:Array Value)(R:Nat->Int)(P:Nat->Bool)(hn:n<=1000)(hfn:∀ xs w,(callFunc fn xs).run Tryz.prog w=.ok (.enter fn xs) w)(hr:RdI w ao n R)(hf:RuleB w fn cp n R P):
  Calls Tryz.prog 297 #[.slice ao n ca,.func (.func fn) #[] cp] w fun e w'=>∃ x:Int,e=.returned (.int .i64 x)/\decide (0<=x)=anyB n P/\w'=w:=by
 have HR:Hid (RdI w ao n R):=hr;have HF:Hid (RuleB w fn cp n R P):=hf;clear hr hf;by_cases hall:∀ i,i<n->P i=false
 ·have HB:Hid (anyB n P=false):=by show _=_; unfold anyB; rw [decide_eq_true hall]; rfl
  have HA:Hid (∀ i,i<n->P i=false):=hall;clear hall;go_enter Tryz.func297,Tryz.ntmps297
  go_wp2;go_loop [8] (fun x=>∃ i:Nat,i<=n/\x=.int .i64 i) (fun x=>n-(intOf x).toNat)
  case atStart=>exact⟨0,Nat.zero_le _,rfl⟩
  case round =>
   obtain⟨i,hi,rfl⟩:=hrel;by_cases hlt:i<n
   ·obtain⟨b,off,rfl,hc⟩:=HR.out (by omega);have ck:=hc i hlt;have HC:=HF.out i hlt;rw [HA.out i hlt] at HC;clear hc;have i1:(0:Int)<=(i:Int):=by omega
    have i2:(i:Int)<(n:Int):=by omega
    go_wp2_with fail
    refine HC.mono ?_;rintro e w' ⟨rfl,rfl⟩;go_wp2_with fail
    go_round
    case rel=>exact⟨i+1,by omega,by go_num⟩
    case measure=>simp [intOf]; omega
   ·go_wp2;go_ret;exact⟨_,rfl,by rw [HB.out]; rfl,rfl⟩
 ·have HB:Hid (anyB n P=true):=by show _=_; unfold anyB; rw [decide_eq_false hall]; rfl
  obtain⟨q,hq,hne,heq⟩:=first_not hall;have HE:Hid (∀ i,i<q->P i=false):=heq;have HN:Hid (P q=true):=by show _=_; cases h:P q; exact absurd h hne; rfl
  clear hall hne heq;go_enter Tryz.func297,Tryz.ntmps297
  go_wp2;go_loop [8] (fun x=>∃ i:Nat,i<=q/\x=.int .i64 i) (fun x=>n-(intOf x).toNat)
  case atStart=>exact⟨0,Nat.zero_le _,rfl⟩
  case round =>
   obtain⟨i,hi,rfl⟩:=hrel;have hlt:i<n:=by omega
   obtain⟨b,off,rfl,hc⟩:=HR.out (by omega);have ck:=hc i hlt;have HC:=HF.out i hlt;clear hc;have i1:(0:Int)<=(i:Int):=by omega
   have i2:(i:Int)<(n:Int):=by omega
   by_cases hiq:i<q
   ·rw [HE.out i hiq] at HC;go_wp2_with fail
    refine HC.mono ?_;rintro e w' ⟨rfl,rfl⟩;go_wp2_with fail
    go_round
    case rel=>exact⟨i+1,by omega,by go_num⟩
    case measure=>simp [intOf]; omega
   ·obtain rfl:i=q:=by omega
    rw [HN.out] at HC;go_wp2_with fail
    refine HC.mono ?_;rintro e w' ⟨rfl,rfl⟩;go_wp2_with fail
    go_ret;exact⟨_,rfl,by rw [HB.out]; simp,rfl⟩
theorem containsF_any(w:World)(ao:Option Addr)(n ca fn:Nat)(cp:Array Value)(R:Nat->Int)(P:Nat->Bool)(hn:n<=1000)(hfn:∀ xs w,(callFunc fn xs).run Tryz.prog w=.ok (.enter fn xs) w)(hr:RdI w ao n R)(hf:RuleB w fn cp n R P):
  Calls Tryz.prog 228 #[.slice ao n ca,.func (.func fn) #[] cp] w fun e w'=>e=.returned (.bool (anyB n P))/\w'=w:=by
 have HX:=indexF_any w ao n ca fn cp R P hn hfn hr hf;clear hr hf hfn;go_enter Tryz.func228,Tryz.ntmps228
 go_wp2_with (go_at_call 297; refine HX.mono ?_; rintro e w' ⟨x,rfl,hx,rfl⟩)
 go_ret;exact⟨by rw [<- hx]; rfl,rfl⟩
theorem any_noVersion{N n:Nat}{R:Nat->Int}(h:n=N):anyB n (fun i=>!verB (R i))=!vok N n R:=by
 unfold anyB vok;congr 1
 apply decide_eq_decide.2
 constructor
 ·intro k;refine⟨h,fun i hi=>?_⟩;have:=k i hi;have h2:verB (R i)=true:=by simpa using this
  exact of_decide_eq_true h2
 ·rintro⟨_,k⟩ i hi;show (!verB (R i))=false;rw [show verB (R i)=true from decide_eq_true (k i hi)]; rfl
theorem Par.few{k r c q:Int}{N W:Nat}{e:Int}(h:Par k r c q N W e):N<=16:=by
 rcases h with ⟨h,_,h0,_⟩ | ⟨_,_,h0,_⟩
 ·obtain⟨h1,h2,h3,h4,h5,h6,h7,h8,h9⟩:=may_true h;omega
 ·omega
theorem Par.some{k r c q:Int}{N W:Nat}{e:Int}(h:Par k r c q N W e)(he:e=0):1<=N:=by
 rcases h with ⟨h,_,h0,_⟩ | ⟨_,_,h0,h1⟩
 ·obtain⟨h1,h2,h3,h4,h5,h6,h7,h8,h9⟩:=may_true h;omega
 ·omega
theorem VCheck_any{k r c q:Int}{N W:Nat}{x:Int}(h:Par k r c q N W x)(w:World)(ao:Option Addr)(n ca:Nat)(R:Nat->Int)(hv:Vec w ao n ca R):
  Calls Tryz.prog 227 #[.agg #[.int .i64 k,.int .i64 r,.int .i64 c,.int .i64 q],.slice ao n ca] w fun e w'=>e=.returned (.int .i64 (erV x N n R))/\Below w.heap.size w w':=by
 have HD:=fun w=>Drives_any h w;have hx:x=0\/x=2:=by rcases h with ⟨_,_,_,h⟩ | ⟨_,_,_,h⟩; exact .inl h; exact .inr h
 have HV:Hid (RdI w ao n R):=hv.rd;have hN:N<=16:=h.few;clear h hv;obtain⟨w0,hw0⟩:∃ w0,w0=w.alloc (.cells #[.int .i64 k,.int .i64 r,.int .i64 c,.int .i64 q] 23):=⟨_,rfl⟩
 have b0:Below w.heap.size w w0:=by rw [hw0]; exact bal _ _
 rcases hx with rfl | rfl
 ·by_cases hnN:n=N
  ·have HE:Hid (erV 0 N n R=if vok N n R=true then 0 else 70):=by show _=_; unfold erV; rw [if_pos rfl]
   have HO:=any_noVersion (R:=R) hnN;have HC:=fun w (hr:RdI w ao n R)=>containsF_any w ao n ca 147 #[] R (fun i=>!verB (R i)) (by omega) (fun _ _=>rfl) hr (fun i _=>noVersion_any (R i) w);rw [HO] at HC;clear HO;subst hnN;cases hok:vok n n R
   all_goals (
    rw [hok] at HC HE;clear hok;go_enter Tryz.func227,Tryz.ntmps227
    go_wp2_with fail
    rw [<- hw0];refine(HD _).mono ?_;rintro e wa ⟨rfl,ha⟩;have hb:=bth b0 ha;have HR:=HV.out.below hb;clear hw0;go_wp2_with fail
    refine(HC _ HR).mono ?_;rintro e wb ⟨rfl,rfl⟩;go_wp2_with fail
    go_ret;exact⟨ret_int (by rw [HE.out]; rfl),hb⟩)
  ·have HE:Hid (erV 0 N n R=70):=erV_70 fun h=>hnN h.1;go_enter Tryz.func227,Tryz.ntmps227
   go_wp2_with fail
   rw [<- hw0];refine(HD _).mono ?_;rintro e wa ⟨rfl,ha⟩;have hb:=bth b0 ha;clear hw0;go_wp2_with fail
   go_ret;exact⟨ret_int (by rw [HE.out]),hb⟩
 ·have HE:Hid (erV 2 N n R=2):=erV_x (by decide);go_enter Tryz.func227,Tryz.ntmps227
  go_wp2_with fail
  rw [<- hw0];refine(HD _).mono ?_;rintro e wa ⟨rfl,ha⟩;have hb:=bth b0 ha;clear hw0;go_wp2_with fail
  go_ret;exact⟨ret_int (by rw [HE.out]),hb⟩
def TellI (w:World) (E:Int) (v:Int) (e:Ending) (w':World):Prop:=e=.returned (.tuple #[.int .i64 (if E=0 then v else 0),.int .i64 E])/\Below w.heap.size w w'
theorem Last_any{k r c q:Int}{N W:Nat}{x:Int}(h:Par k r c q N W x)(w:World)(ao:Option Addr)(n ca:Nat)(R:Nat->Int)(hv:Vec w ao n ca R)(E:Int)(hE:erV x N n R=E):
  Calls Tryz.prog 221 #[.agg #[.int .i64 k,.int .i64 r,.int .i64 c,.int .i64 q],.slice ao n ca] w (TellI w E (mx R n)):=by
 have HC:=fun w (hv:Vec w ao n ca R)=>VCheck_any h w ao n ca R hv;rw [hE] at HC;have hs:=h.some;have HV:Hid (Vec w ao n ca R):=hv;have hN:N<=16:=h.few;clear hv h;obtain⟨w0,hw0⟩:∃ w0,w0=w.alloc (.cells #[.int .i64 k,.int .i64 r,.int .i64 c,.int .i64 q] 23):=⟨_,rfl⟩
 have b0:Below w.heap.size w w0:=by rw [hw0]; exact bal _ _
 unfold TellI;by_cases h1:E=0
 ·subst h1;obtain⟨rfl,rfl,h4⟩:=erV_of hE;rw [if_pos rfl];obtain⟨l,rfl⟩:∃ l,n=l+1:=⟨n-1,by have:=hs rfl; omega⟩
  have HM:Hid (∀ i,i<=l->mx R (i+1)=gr (mx R i) (R i)):=fun _ _=>rfl;have HM1:Hid (mx R 1=R 0):=mx_one (h4 0 (by omega)).1;clear hE hs h4;have hroom:=HV.out.room;by_cases hcap:ca=1
  ·obtain rfl:l=0:=by omega
   subst hcap;go_enter Tryz.func221,Tryz.ntmps221
   go_wp2_with fail
   rw [<- hw0];refine(HC _ (HV.out.below b0)).mono ?_;rintro e wa ⟨rfl,ha⟩;have hb:=bth b0 ha;obtain⟨b,off,rfl,hc⟩:=(HV.out.below hb).rd (by omega);have c0:=hc 0 (by omega);rw [Nat.add_zero] at c0;clear hw0 hc;go_wp2_with fail
   go_loop [7,22] (fun v x=>v=.int .i64 (R 0)/\x=.int .i64 0) (fun _ _=>0)
   case atStart=>exact⟨rfl,rfl⟩
   case round =>
    obtain⟨rfl,rfl⟩:=hrel;go_wp2;go_ret2;exact⟨by rw [HM1.out]; rfl,hb⟩
  ·go_enter Tryz.func221,Tryz.ntmps221
   go_wp2_with fail
   rw [<- hw0];refine(HC _ (HV.out.below b0)).mono ?_;rintro e wa ⟨rfl,ha⟩;have hb:=bth b0 ha;obtain⟨b,off,rfl,hc⟩:=(HV.out.below hb).rd (by omega);have c0:=hc 0 (by omega);rw [Nat.add_zero] at c0;have HCC:Hid (∀ i,i<l+1->wa.cell? ⟨b,off+i,none⟩=some (.int .i64 (R i))):=hc;have h1c:(1:Int)<=((l+1:Nat):Int):=by omega
   have h2c:(1:Int)<=(ca:Int):=by omega
   have HBB:Hid (Below w.heap.size w wa):=hb;clear hw0 hc hb ha b0 HC;go_wp2_with fail
   go_loop [7,22] (fun v x=>∃ i:Nat,i<=l/\x=.int .i64 (i:Int)/\∃ y,v=.int .i64 y/\Hid (y=mx R (i+1))) (fun _ x=>l-(intOf x).toNat)
   case atStart=>exact⟨0,Nat.zero_le _,rfl,_,rfl,HM1.out.symm⟩
   case round =>
    obtain⟨i,hi,rfl,y,rfl,hy⟩:=hrel;by_cases hlt:i<l
    ·have ck:=HCC.out (i+1) (by omega);rw [show off+(i+1)=off+1+i by omega] at ck;have i1:(0:Int)<=(i:Int):=by omega
     have i2:(i:Int)<(l:Int):=by omega
     have HY:Hid (mx R (i+1+1)=gr y (R (i+1))):=by show _=_; rw [HM.out (i+1) (by omega),<- hy.out]
     by_cases hg:y<R (i+1)
     ·have HY2:Hid (R (i+1)=mx R (i+1+1)):=by show _=_; rw [HY.out]; unfold gr; rw [if_pos hg]
      go_wp2;go_round
      case rel=>exact⟨i+1,by omega,by go_num,_,rfl,HY2.out⟩
      case measure=>simp [intOf]; omega
     ·have HY2:Hid (y=mx R (i+1+1)):=by show _=_; rw [HY.out]; unfold gr; rw [if_neg hg]
      go_wp2;go_round
      case rel=>exact⟨i+1,by omega,by go_num,_,rfl,HY2.out⟩
      case measure=>simp [intOf]; omega
    ·obtain rfl:i=l:=by omega
     go_wp2;go_ret2;exact⟨by rw [hy.out]; rfl,HBB.out⟩
 ·have hne:(E != 0)=true:=by simpa using h1
  rw [if_neg h1];clear hE h1 hs;go_enter Tryz.func221,Tryz.ntmps221
  go_wp2_with fail
  rw [<- hw0];refine(HC _ (HV.out.below b0)).mono ?_;rintro e wa ⟨rfl,ha⟩;have hb:=bth b0 ha;clear hw0;go_wp2_with fail
  go_ret2;exact⟨rfl,hb⟩
end Go.Proofs.YtemlojjkokooeaaGreat
