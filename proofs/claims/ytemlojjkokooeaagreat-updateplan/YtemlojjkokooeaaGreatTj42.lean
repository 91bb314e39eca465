import Derived.Test.YtemlojjkokooeaaGreatTj41
set_option maxHeartbeats 2000000
set_option maxRecDepth 100000
namespace Go.Proofs.YtemlojjkokooeaaGreat
open Go.RowKit
theorem chOf_cat(p:Nat)(D D':Nat->Int)(T T':Nat->Option Addr)(L L' U U':Nat->Nat):∀ q,chOf D T L U p ++ chOf D' T' L' U' q=chOf (Cod.cat p D D') (Cod.cat p T T') (Cod.cat p L L') (Cod.cat p U U') (p+q)
 | 0=>by
  rw [chOf,List.append_nil,Nat.add_zero];exact chOf_congr fun i hi=>⟨(Cod.cat_lo _ _ hi).symm,(Cod.cat_lo _ _ hi).symm,(Cod.cat_lo _ _ hi).symm,(Cod.cat_lo _ _ hi).symm⟩
 | q+1=>by rw [chOf,<- List.append_assoc,chOf_cat p D D' T T' L L' U U' q,Nat.add_succ,chOf,Cod.cat_hi,Cod.cat_hi,Cod.cat_hi,Cod.cat_hi]
theorem chOf_one(D:Nat->Int)(T:Nat->Option Addr)(L U:Nat->Nat):∀ n,∀ u ∈ chOf D T L U n,u.oneCell'=true
 | 0,u,h=>by cases h
 | n+1,u,h=>by
  rw [chOf] at h;rcases List.mem_append.1 h with h | h
  ·exact chOf_one D T L U n u h
  ·simp at h;rcases h with rfl | rfl <;> rfl
theorem owns_chl{B:Nat}{w:World}{ao:Option Addr}{n cap:Nat}{D:Nat->Int}{T:Nat->Option Addr}{L U:Nat->Nat}{H:Nat->Nat->UInt8}(h:w.ownsRow B 124 2 (.slice ao n cap) n (chOf D T L U n))(hb:∀ i,i<n->Bec w (T i) (L i) (U i) (H i)):Chl w ao n cap D T L U H:=by
 refine⟨fun hn=>?_,hb,fun e=>?_,?_⟩
 ·rcases h.2 with ⟨_,e⟩ | ⟨g,c',cur,e,h1,h2,h3,_⟩
  ·omega
  ·cases e
   refine⟨g,0,rfl,fun i hi=>?_⟩;obtain⟨a,b⟩:=chOf_get D T L U n i hi;have c0:=h.cells (g:=g) rfl _ _ a;have c1:=h.cells (g:=g) rfl _ _ b;rw [Addr.add_lit,Nat.zero_add] at c0 c1;rw [Nat.zero_add];exact⟨c0,c1⟩
 ·rcases h.2 with ⟨h0,h1⟩ | ⟨g,c',cur,e',_⟩
  ·cases h0; exact⟨rfl,rfl⟩
  ·rw [e] at e'; cases e'
 ·rcases h.2 with ⟨h0,h1⟩ | ⟨g,c',cur,e',_,_,h3,_⟩
  ·omega
  ·cases e'; exact h3
theorem wpList_append_chl{w:World}{ops:Array Oper}{rest:List Oper}{o:Oper}{a:Act}{Q:Exit->Act->World->Prop}(hgd:o.guard=none)(s x:Operand)
  (ho:o.op=.call { callee:=.builtin .append,args:=#[s,x],argTypes:=#[50,50]}) (B k n ca cb:Nat) (ao bo:Option Addr) (xs:List Value) (D:Nat->Int) (A:Nat->Option Addr) (L C:Nat->Nat) (H:Nat->Nat->UInt8)
  (hs:a.eval s=.slice ao k ca) (hx:a.eval x=.slice bo n cb) (h:w.ownsRow B 124 2 (.slice ao k ca) k xs) (hl:Chl w bo n cb D A L C H) (hk:k<=1000) (hn:n<=1000) (hB:B<=w.heap.size)
  (cont:∀ ao' c' w',w'.ownsRow B 124 2 (.slice ao' (k+n) c') (k+n) (xs ++ chOf D A L C n)->w.grownBy w' (Value.slice ao k ca).ownBlock->wpList Tryz.prog ops Q rest (a.put o.dst (.slice ao' (k+n) c')) w'):wpList Tryz.prog ops Q (o :: rest) a w:=by
 obtain⟨j0,hj,hj0,hj1,hj2⟩:=info_parts info33;cases bo with
 | none =>
  obtain⟨rfl,rfl⟩:=hl.nil rfl;have:=cont ao ca w (by rw [show chOf D A L C 0=[] from rfl,List.append_nil]; exact h) (Cod.grown_refl w _);exact wpList_append_own_none hgd s x 50 ho B 124 j0 2 Tryz.underlying50 hj (.slice ao k ca) k xs hs h hx this
 | some ad =>
  refine wpList_append_own w hgd s x 50 ho B 124 j0 (.agg #[.int .i64 0,.slice none 0 0]) 2 32 Tryz.underlying50 hj hj0 hj1 hj2 rfl (by decide) (.slice ao k ca) k xs hs h ad n cb (chOf D A L C n) hx (chOf_length _ _ _ _ _) (fun j u hu=>?_) (chOf_one _ _ _ _ _) (by unfold maxLen; omega) (by omega) hB ?_
  ·have hj:j<n*2:=Cod.list_lt (chOf_length D A L C n) hu;obtain⟨b,off,e,hc⟩:=hl.at_ (by omega);cases e
   obtain⟨c0,c1⟩:=hc (j / 2) (by omega);obtain⟨g0,g1⟩:=chOf_get D A L C n (j / 2) (by omega);rw [Addr.add_lit];rcases Nat.mod_two_eq_zero_or_one j with e | e
   ·have e2:j / 2*2=j:=by omega
    rw [e2] at c0 g0;rw [g0] at hu; cases hu;exact c0
   ·have e2:j / 2*2+1=j:=by omega
    rw [Nat.add_assoc,e2] at c1;rw [e2] at g1;rw [g1] at hu; cases hu;exact c1
  ·intro v' w' h1 h2 _;obtain⟨ao',c',rfl⟩:∃ ao cap,v'=.slice ao (k+n) cap:=by
    rcases h1.2 with ⟨e1,e2⟩ | ⟨g,cap,cur,e1,_⟩
    ·rw [e1,e2]; exact⟨none,0,rfl⟩
    ·exact⟨_,cap,e1⟩
   exact cont ao' c' w' h1 h2
theorem zero_size2(m n:Nat):(Builtin.zeroCells (Value.agg #[.int .i64 0,.slice none 0 0]).cells m ++ Builtin.zeroCells (Value.agg #[.int .i64 0,.slice none 0 0]).cells n).size=(m+n)*2:=by
 rw [Array.size_append,size_zeroCells,size_zeroCells];have:(Value.agg #[.int .i64 0,.slice none 0 0]).cells.size=2:=rfl;rw [this]; omega
theorem growc_any(w:World)(n:Nat)(hn:n<=1000):
  Calls Tryz.prog 160 #[.slice none 0 0,.int .i64 (n:Int)] w fun e w'=>∃ ao cap,e=.returned (.slice ao 0 cap)/\w'.ownsRow w.heap.size 124 2 (.slice ao 0 cap) 0 []/\Below w.heap.size w w':=by
 by_cases h0:n=0
 ·subst h0;go_enter Tryz.func160,Tryz.ntmps160
  go_wp2;go_ret;exact⟨none,0,rfl,World.ownsRow_nil _ _ _ _,Below.refl _ _⟩
 ·obtain⟨j0,hj,hj0,hj1,hj2⟩:=info_parts info33;have hr:=fun ty=>Lib.run_append_nil_zeros (P:=Tryz.prog) w 50 3 ty 124 j0 (.agg #[.int .i64 0,.slice none 0 0]) .i64 .i64 Tryz.underlying50 Tryz.underlying3 hj hj0 n (by omega) (by rw [hj1]; decide) (by omega) (by rw [hj2]; omega);have hc1:=grownCap_ge w n 0 124;have hc2:=grownCap_le_maxLen w n 0 124 (by unfold maxLen; omega);obtain⟨cp,hcp⟩:∃ c,c=grownCap w n 0 124:=⟨_,rfl⟩
  rw [<- hcp] at hr hc1 hc2;obtain⟨w1,hw1⟩:∃ w1,w1=w.drew.alloc (.cells (Builtin.zeroCells (Value.agg #[.int .i64 0,.slice none 0 0]).cells n ++ Builtin.zeroCells (Value.agg #[.int .i64 0,.slice none 0 0]).cells (cp-n)) 124):=⟨_,rfl⟩
  rw [<- hw1] at hr;have HO:Hid (w1.ownsRow w.heap.size 124 2 (.slice (some ⟨w.heap.size,0,none⟩) 0 cp) 0 []):=by
   refine⟨rfl,.inr ⟨w.heap.size,cp,_,rfl,Nat.le_refl _,by rw [hw1]; exact heap_alloc_new w.drew _,Nat.zero_le _,hc2,?_,by simp⟩⟩;rw [zero_size2,Nat.add_sub_cancel' hc1]
  have HB:Hid (Below w.heap.size w w1):=by rw [hw1]; exact(bdw _ w).alloc (Nat.le_refl _) _
  clear hw1 hcp hj hj0 hj1 hj2 hc2;have hpos:(0:Int)<(n:Int):=by omega
  go_enter Tryz.func160,Tryz.ntmps160
  go_wp2_with (at_builtin; refine Lib.wpList_append_run _ (by rfl) (.tmp 20) (.tmp 21) 50 3 (by rfl) (.slice none 0 0) (.int .i64 (n:Int)) (by rfl) (by rfl) _ _ (hr _) ?_)
  go_ret;exact⟨_,_,rfl,HO.out,HB.out⟩
theorem concatc_any(w:World)(g:Nat)(po qo:Option Addr)(pl pc ql qc:Nat)(PD QD:Nat->Int)(PA QA:Nat->Option Addr)(PL PC QL QC:Nat->Nat)(P Q:Nat->Nat->UInt8)(c0:w.cell? ⟨g,0,none⟩=some (.slice po pl pc))(c1:w.cell? ⟨g,1,none⟩=some (.slice qo ql qc))
  (hpl:pl<=100) (hql:ql<=100) (hp:Chl w po pl pc PD PA PL PC P) (hq:Chl w qo ql qc QD QA QL QC Q) :
  Calls Tryz.prog 93 #[.slice (some ⟨g,0,none⟩) 2 2] w fun e w'=>∃ ro rc,e=.returned (.slice ro (pl+ql) rc)/\Chl w' ro (pl+ql) rc (Cod.cat pl PD QD) (Cod.cat pl PA QA) (Cod.cat pl PL QL) (Cod.cat pl PC QC) (Cod.cat pl P Q)/\Below w.heap.size w w':=by
 have HP:Hid (Chl w po pl pc PD PA PL PC P):=hp;have HQ:Hid (Chl w qo ql qc QD QA QL QC Q):=hq;clear hp hq;go_enter Tryz.func93,Tryz.ntmps93
 go_wp2;go_loop [3,11] (fun s x=>(s=.int .i64 0/\x=.int .i64 0)\/(s=.int .i64 (pl:Int)/\x=.int .i64 1)\/(s=.int .i64 ((pl:Int)+(ql:Int))/\x=.int .i64 2)) (fun _ x=>2-(intOf x).toNat)
 case atStart=>exact .inl ⟨rfl,rfl⟩
 case round =>
  rcases hrel with ⟨rfl,rfl⟩ | ⟨rfl,rfl⟩ | ⟨rfl,rfl⟩
  ·go_wp2;go_round
   case rel=>exact .inr (.inl ⟨by go_num,by go_num⟩)
   case measure=>simp [intOf]
  ·go_wp2;go_round
   case rel=>exact .inr (.inr ⟨by go_num,by go_num⟩)
   case measure=>simp [intOf]
  ·have HG:=growc_any w (pl+ql) (by omega);rw [Int.natCast_add] at HG;go_wp2_with (go_at_call 160; refine HG.mono ?_; rintro e w1 ⟨ao,cap,rfl,hown,hb⟩)
   have HO1:Hid (w1.ownsRow w.heap.size 124 2 (.slice ao 0 cap) 0 []):=hown;have HB1:Hid (Below w.heap.size w w1):=hb;clear hown hb HG;go_loopw [6,27] (fun v x wr=>(x=.int .i64 0/\∃ ao c,v=.slice ao 0 c/\Hid (wr.ownsRow w.heap.size 124 2 v 0 [])/\Hid (Below w.heap.size w wr))\/(x=.int .i64 1/\∃ ao c,v=.slice ao pl c/\Hid (wr.ownsRow w.heap.size 124 2 v pl (chOf PD PA PL PC pl))/\Hid (Below w.heap.size w wr))
    \/ (x=.int .i64 2/\∃ ao c,v=.slice ao (pl+ql) c/\Hid (wr.ownsRow w.heap.size 124 2 v (pl+ql) (chOf PD PA PL PC pl ++ chOf QD QA QL QC ql))/\Hid (Below w.heap.size w wr))) (fun _ x _=>2-(intOf x).toNat)
   case atStart=>exact .inl ⟨rfl,ao,cap,rfl,HO1,HB1⟩
   case round =>
    rcases hrel with ⟨rfl,ao,c,rfl,hown,hbel⟩ | ⟨rfl,ao,c,rfl,hown,hbel⟩ | ⟨rfl,ao,c,rfl,hown,hbel⟩
    ·have d0:=held c0 hbel.out;have hws:=hbel.out.size;have HL:Hid (Chl wr po pl pc PD PA PL PC P):=HP.out.below hbel.out;go_wp2_with (at_builtin; refine wpList_append_chl (by rfl) (.tmp 31) (.tmp 32) (by rfl) w.heap.size 0 pl c pc ao po [] PD PA PL PC P (by rfl) (by rfl) hown.out HL.out (by omega) (by omega) (by omega) ?_; intro ao' c' w' hown' hgrow')
     have HO2:Hid (w'.ownsRow w.heap.size 124 2 (.slice ao' (0+pl) c') (0+pl) ([] ++ chOf PD PA PL PC pl)):=hown';have HB2:Hid (Below w.heap.size w w'):=hbel.out.grown hgrow' hws (fun r hr=>(hown.out.lt r hr).1);rw [Nat.zero_add] at HO2;clear hown' hgrow';go_roundw
     case rel=>exact .inr (.inl ⟨by go_num,ao',c',rfl,HO2,HB2⟩)
     case measure=>simp [intOf]
    ·have d0:=held c1 hbel.out;have hws:=hbel.out.size;have HL:Hid (Chl wr qo ql qc QD QA QL QC Q):=HQ.out.below hbel.out;obtain⟨XS,hXS⟩:∃ X,X=chOf PD PA PL PC pl:=⟨_,rfl⟩
     have HXS:Hid (chOf PD PA PL PC pl=XS):=hXS.symm;have HO:Hid (wr.ownsRow w.heap.size 124 2 (.slice ao pl c) pl XS):=by rw [hXS]; exact hown.out
     clear hXS hown;go_wp2_with (at_builtin; refine wpList_append_chl (by rfl) (.tmp 31) (.tmp 32) (by rfl) w.heap.size pl ql c qc ao qo XS QD QA QL QC Q (by rfl) (by rfl) HO.out HL.out (by omega) (by omega) (by omega) ?_; intro ao' c' w' hown' hgrow')
     have HO2:Hid (w'.ownsRow w.heap.size 124 2 (.slice ao' (pl+ql) c') (pl+ql) (chOf PD PA PL PC pl ++ chOf QD QA QL QC ql)):=by rw [HXS.out]; exact hown'
     have HB2:Hid (Below w.heap.size w w'):=hbel.out.grown hgrow' hws (fun r hr=>(HO.out.lt r hr).1);clear hown' hgrow';go_roundw
     case rel=>exact .inr (.inr ⟨by go_num,ao',c',rfl,HO2,HB2⟩)
     case measure=>simp [intOf]
    ·go_wp2;go_ret;refine⟨ao,c,rfl,owns_chl (by rw [<- chOf_cat]; exact hown.out) fun i hi=>?_,hbel.out⟩;by_cases e:i<pl
     ·rw [Cod.cat_lo _ _ e,Cod.cat_lo _ _ e,Cod.cat_lo _ _ e,Cod.cat_lo _ _ e];exact(HP.out.bec i e).below hbel.out
     ·obtain⟨q,rfl⟩:∃ q,i=pl+q:=⟨i-pl,by omega⟩
      rw [Cod.cat_hi,Cod.cat_hi,Cod.cat_hi,Cod.cat_hi];exact(HQ.out.bec q (by omega)).below hbel.out
theorem eq_nil_no(w:World)(a:Addr)(l c:Nat):(binOp .eql 27 (.slice (some a) l c) (.slice none 0 0)).run Tryz.prog w=.ok (.bool false) w:=by
 have h:(Op.equal 27 (.slice (some a) l c) (.slice none 0 0)).run Tryz.prog w=.ok false w:=run_equalIn_slice_nil w 9999 27 3 (some a) l c Tryz.underlying27;simp only [binOp];simp [h]
theorem wpList_append_first{w:World}{ops:Array Oper}{rest:List Oper}{o:Oper}{a:Act}{Q:Exit->Act->World->Prop}(hgd:o.guard=none)(s x:Operand)
  (ho:o.op=.call { callee:=.builtin .append,args:=#[s,x],argTypes:=#[27,27]}) (B n cb:Nat) (ao bo:Option Addr) (R:Nat->Int)
  (hs:a.eval s=.slice ao 0 0) (hx:a.eval x=.slice bo n cb) (h:w.ownsRow B 3 1 (.slice ao 0 0) 0 []) (hv:Vec w bo n cb R) (hn:n<=1000) (hB:B<=w.heap.size)
  (cont:∀ ao' c' w',Hid (Own B w' ao' n c' R)->Hid (Below B w w')->wpList Tryz.prog ops Q rest (a.put o.dst (.slice ao' n c')) w'):wpList Tryz.prog ops Q (o :: rest) a w:=by
 refine wpList_append_ints hgd s x ho B 0 n 0 cb ao bo [] R hs hx h hv (by omega) hn hB ?_;intro ao' c' w' h1 h2;rw [Nat.zero_add,List.nil_append] at h1;rw [Nat.zero_add];exact cont ao' c' w' h1 ((Below.refl _ _).grown h2 hB (fun q hq=>(h.lt q hq).1))
theorem clone_any(w:World)(ao:Option Addr)(n ca:Nat)(R:Nat->Int)(hv:Vec w ao n ca R)(h1:1<=n)(hn:n<=1000):
  Calls Tryz.prog 230 #[.slice ao n ca] w fun e w'=>∃ g cap,e=.returned (.slice (some ⟨g,0,none⟩) n cap)/\Own w.heap.size w' (some ⟨g,0,none⟩) n cap R/\Below w.heap.size w w':=by
 obtain⟨ad,rfl⟩:∃ ad,ao=some ad:=by
  cases ao with
  | none=>have:=(hv.nil rfl).1; omega
  | some ad=>exact⟨ad,rfl⟩
 have HV:Hid (∀ o,Vec (w.alloc o) (some ad) n ca R):=fun o=>hv.below (bal _ _);have HO:Hid ((w.alloc (.cells #[] 3)).ownsRow w.heap.size 3 1 (.slice (some ⟨w.heap.size,0,none⟩) 0 0) 0 []):=World.ownsRow_lit w #[] 0 (Nat.le_refl _) (Nat.zero_le _) rfl;clear hv;go_enter Tryz.func230,Tryz.ntmps230
 have hnil:=fun w=>eq_nil_no w ad n ca;have HB0:Hid (∀ o,Below w.heap.size w (w.alloc o)):=fun o=>bal w o;go_wp2_with (at_builtin; refine wpList_append_first (by rfl) (.tmp 5) (.tmp 6) (by rfl) w.heap.size n ca (some ⟨w.heap.size,0,none⟩) (some ad) R (by rfl) (by rfl) HO.out (HV.out _) hn (by simp) ?_; intro ro cap w5 HO5 B5)
 go_ret;obtain⟨g,rfl,_⟩:=HO5.out.at_ (by omega);exact⟨_,_,rfl,HO5.out,(HB0.out _).trans B5.out⟩
theorem bump1_any(c:Int)(g n ca:Nat)(ao:Option Addr)(w:World)(hc:w.cell? ⟨g,0,none⟩=some (.slice ao n ca)):
  Calls Tryz.prog 229 (#[.int .i64 c] ++ #[.pointer (some ⟨g,0,none⟩)]) w fun e w'=>e=.returned (.bool (!decide (0<=c/\c<(n:Int))))/\w'=w:=by
 show Calls Tryz.prog 229 #[.int .i64 c,.pointer (some ⟨g,0,none⟩)] w _;by_cases h1:c<0
 ·rw [decide_eq_false (show ¬ (0<=c/\c<(n:Int)) by omega)];go_enter Tryz.func229,Tryz.ntmps229
  go_wp2;go_ret;exact⟨ret_bool (by first | rfl | (rw [decide_eq_true h1]; rfl)),rfl⟩
 ·by_cases h2:c<(n:Int)
  ·rw [decide_eq_true (show (0<=c/\c<(n:Int)) by omega)];go_enter Tryz.func229,Tryz.ntmps229
   go_wp2;go_ret;exact⟨ret_bool (by first | rfl | rw [decide_eq_false (show ¬ (n:Int)<=c by omega)]),rfl⟩
  ·rw [decide_eq_false (show ¬ (0<=c/\c<(n:Int)) by omega)];go_enter Tryz.func229,Tryz.ntmps229
   go_wp2;go_ret;exact⟨ret_bool rfl,rfl⟩
theorem any_cel(n m:Nat)(C:Nat->Int):anyB m (fun j=>!decide (0<=C j/\C j<(n:Int)))=!celB n m C:=by
 unfold anyB celB;congr 1
 apply decide_eq_decide.2
 constructor
 ·intro h j hj;have:=h j hj;exact of_decide_eq_true (p:=0<=C j/\C j<(n:Int)) (by simpa using this)
 ·intro h j hj;show (!decide (0<=C j/\C j<(n:Int)))=false;rw [decide_eq_true (h j hj)]; rfl
theorem bmp_step{C:Nat->Int}{v:Int}{R:Nat->Int}{j c:Nat}(h:C j=(c:Int))(i:Nat):put c v (bmp C v R j) i=bmp C v R (j+1) i:=by
 show (if i=c then v else bmp C v R j i)=(if C j=(i:Int) then v else bmp C v R j i)
 by_cases e:i=c
 ·subst e; rw [if_pos rfl,if_pos h]
 ·rw [if_neg e,if_neg (by rw [h]; omega)]
theorem Bump_any{k r c q:Int}{N W:Nat}{x:Int}(h:Par k r c q N W x)(w:World)(ao bo:Option Addr)(n ca m cb:Nat)(R C:Nat->Int)(v:Int)(hv:Vec w ao n ca R)(hv':Vec w bo m cb C)(hn:n<=1000)(hm:m<=1000)(E:Int)(hE:erB x N n R m C v=E):
  Calls Tryz.prog 158 #[.agg #[.int .i64 k,.int .i64 r,.int .i64 c,.int .i64 q],.slice ao n ca,.slice bo m cb,.int .i64 v] w (Ans w E n (bmp C v R m)):=by
 have HC:=fun w (hv:Vec w ao n ca R)=>VCheck_any h w ao n ca R hv;have HN:=fun w=>noVersion_any v w;have hs:=h.some;have HV:Hid (Vec w ao n ca R):=hv;have HV':Hid (Vec w bo m cb C):=hv';clear hv hv' h;obtain⟨w0,hw0⟩:∃ w0,w0=w.alloc (.cells #[.int .i64 k,.int .i64 r,.int .i64 c,.int .i64 q] 23):=⟨_,rfl⟩
 obtain⟨w1,hw1⟩:∃ w1,w1=w0.alloc (.cells #[.slice ao n ca] 27):=⟨_,rfl⟩
 have z0:w0.heap.size=w.heap.size+1:=by rw [hw0]; simp
 have b0:Below w.heap.size w w0:=by rw [hw0]; exact bal _ _
 have b01:Below w0.heap.size w0 w1:=by rw [hw1]; exact bal _ _
 have b1:Below w.heap.size w w1:=bth b0 b01;have HS:Hid (∀ w',Below w1.heap.size w1 w'->w'.cell? ⟨w.heap.size+1,0,none⟩=some (.slice ao n ca)):=fun w' hb=>by
  have:=blk_held hw1 hb 0 rfl;rw [z0] at this; exact this
 have c1:w1.cell? ⟨w.heap.size+1,0,none⟩=some (.slice ao n ca):=HS.out _ (Below.refl _ _);obtain⟨p0,p1,p2,p3⟩:=par_held hw0 b01;obtain⟨E1,hE1⟩:∃ E1,E1=erV x N n R:=⟨_,rfl⟩
 rw [<- hE1] at HC;unfold Ans;by_cases h1:E1=0
 ·subst h1;obtain⟨rfl,rfl,h4⟩:=erV_of hE1.symm;have hn1:1<=n:=hs rfl;unfold erB at hE;rw [if_pos hE1.symm] at hE;clear hE1 hs h4;by_cases h2:n<m
  ·rw [if_pos h2] at hE;subst hE;rw [lenE_ne n (show (20:Int) ≠ 0 by decide)];go_enter Tryz.func158,Tryz.ntmps158
   go_wp2_with fail
   rw [<- hw0,<- hw1];refine(HC _ (HV.out.below b1)).mono ?_;rintro e wa ⟨rfl,ha⟩;have hb:=bth b1 ha;have c2:=HS.out _ ha;clear hw0 hw1 p0 p1 p2 p3 c1;go_wp2_with fail
   go_ret2;exact⟨_,_,rfl,own_nil _ _ _,hb⟩
  ·rw [if_neg h2] at hE;have HF:=fun w (hr:RdI w bo m C) (hc:w.cell? ⟨w1.heap.size-1,0,none⟩=some (.slice ao n ca))=>containsF_any w bo m cb 229 #[.pointer (some ⟨w1.heap.size-1,0,none⟩)] C (fun j=>!decide (0<=C j/\C j<(n:Int))) hm (fun _ _=>rfl) hr (fun i _=>bump1_any (C i) (w1.heap.size-1) n ca ao w hc);rw [any_cel,show w1.heap.size-1=w.heap.size+1 by rw [hw1,hw0]; simp] at HF;cases h3:celB n m C
   ·rw [h3,if_neg (by decide)] at hE;subst hE;rw [h3] at HF;rw [lenE_ne n (show (2:Int) ≠ 0 by decide)];clear h3;go_enter Tryz.func158,Tryz.ntmps158
    go_wp2_with fail
    rw [<- hw0,<- hw1];refine(HC _ (HV.out.below b1)).mono ?_;rintro e wa ⟨rfl,ha⟩;have hb:=bth b1 ha;have c2:=HS.out _ ha;clear hw0 hw1 p0 p1 p2 p3 c1;go_wp2_with fail
    refine(HF _ (HV'.out.below hb).rd c2).mono ?_;rintro e wb ⟨rfl,rfl⟩;go_wp2_with fail
    go_ret2;exact⟨_,_,rfl,own_nil _ _ _,hb⟩
   ·rw [h3,if_pos rfl] at hE;rw [h3] at HF;have hcb:∀ j,j<m->0<=C j/\C j<(n:Int):=of_decide_eq_true h3;have HCB:Hid (∀ j,j<m->0<=C j/\C j<(n:Int)):=hcb;clear hcb;clear h3;cases h5:verB v
    ·rw [h5,if_neg (by decide)] at hE;subst hE;rw [h5] at HN;rw [lenE_ne n (show (70:Int) ≠ 0 by decide)];clear h5;go_enter Tryz.func158,Tryz.ntmps158
     go_wp2_with fail
     rw [<- hw0,<- hw1];refine(HC _ (HV.out.below b1)).mono ?_;rintro e wa ⟨rfl,ha⟩;have hb:=bth b1 ha;have c2:=HS.out _ ha;clear hw0 hw1 p0 p1 p2 p3 c1;go_wp2_with fail
     refine(HF _ (HV'.out.below hb).rd c2).mono ?_;rintro e wb ⟨rfl,rfl⟩;go_wp2_with fail
     refine(HN _).mono ?_;rintro e wc ⟨rfl,rfl⟩;go_wp2_with fail
     go_ret2;exact⟨_,_,rfl,own_nil _ _ _,hb⟩
    ·rw [h5,if_pos rfl] at hE;subst hE;rw [h5] at HN;rw [lenE_zero];clear h5;go_enter Tryz.func158,Tryz.ntmps158
     go_wp2_with fail
     rw [<- hw0,<- hw1];refine(HC _ (HV.out.below b1)).mono ?_;rintro e wa ⟨rfl,ha⟩;have hb:=bth b1 ha;have c2:=HS.out _ ha;clear hw0 hw1 p0 p1 p2 p3 c1;go_wp2_with fail
     refine(HF _ (HV'.out.below hb).rd c2).mono ?_;rintro e wb ⟨rfl,hwb⟩;obtain rfl:=hwb.symm;go_wp2_with fail
     refine(HN _).mono ?_;rintro e wc ⟨rfl,hwc⟩;obtain rfl:=hwc.symm;go_wp2_with fail
     refine(clone_any wa ao n ca R (HV.out.below hb) hn1 hn).mono ?_;rintro e wd ⟨g,cap,rfl,hown,hd⟩;have HO:Hid (Own wa.heap.size wd (some ⟨g,0,none⟩) n cap R):=hown;have HB:Hid (Below w.heap.size w wd):=bth hb hd;have hsz:=hb.size;have hgl:w.heap.size<=g:=by
      obtain⟨g',e,h1,_⟩:=hown.at_ hn1;cases e; omega
     clear hown hd hb ha c2 HC HN HF HS b0 b01 b1;go_wp2_with fail
     go_loopw [34] (fun x wr=>∃ j:Nat,j<=m/\x=.int .i64 (j:Int)/\Hid (Own wa.heap.size wr (some ⟨g,0,none⟩) n cap (bmp C v R j))/\Hid (Below w.heap.size w wr)) (fun x _=>m-(intOf x).toNat)
     case atStart=>exact⟨0,Nat.zero_le _,rfl,HO.out,HB.out⟩
     case round =>
      obtain⟨j,hj,rfl,hown,hbel⟩:=hrel;by_cases hlt:j<m
      ·obtain⟨b,off,rfl,hcc⟩:=(HV'.out.below hbel.out).rd (by omega);have ck:=hcc j hlt;obtain⟨hc0,hc1⟩:=HCB.out j hlt;obtain⟨cj,hcj⟩:=Int.eq_ofNat_of_zero_le hc0;have HCJ:Hid (C j=(cj:Int)):=hcj;rw [hcj] at ck hc1;have i1:(0:Int)<=(j:Int):=by omega
       have i2:(j:Int)<(m:Int):=by omega
       have i3:(0:Int)<=(cj:Int):=by omega
       have hcn:cj<n:=by omega
       have d1:=hown.out.cell hcn;have z1:=hown.out.free cj;have HO2:Hid (Own wa.heap.size (wr.setCell ⟨g,cj,none⟩ (.int .i64 v)) (some ⟨g,0,none⟩) n cap (bmp C v R (j+1))):=(hown.out.set cj v).congr (fun i _=>bmp_step HCJ.out i);have HB2:Hid (Below w.heap.size w (wr.setCell ⟨g,cj,none⟩ (.int .i64 v))):=hbel.out.setCell hgl _;clear hcc hcj hc0;go_wp2;go_roundw
       case rel=>exact⟨j+1,by omega,by go_num,HO2.out,HB2.out⟩
       case measure=>simp [intOf]; omega
      ·obtain rfl:j=m:=by omega
       go_wp2;go_ret2;exact⟨_,_,rfl,hown.out.mono hsz,hbel.out⟩
 ·have hne:(E1 != 0)=true:=by simpa using h1
  obtain rfl:E=E1:=by rw [<- hE]; unfold erB; rw [<- hE1,if_neg h1]
  rw [lenE_ne _ h1];clear hE h1 hs hE1;go_enter Tryz.func158,Tryz.ntmps158
  go_wp2_with fail
  rw [<- hw0,<- hw1];refine(HC _ (HV.out.below b1)).mono ?_;rintro e wa ⟨rfl,ha⟩;have hb:=bth b1 ha;clear hw0 hw1 p0 p1 p2 p3 c1;go_wp2_with fail
  go_ret2;exact⟨_,_,rfl,own_nil _ _ _,hb⟩
end Go.Proofs.YtemlojjkokooeaaGreat
