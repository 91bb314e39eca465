import Derived.Test.YtemlojjkokooeaaGreatTj47
set_option maxHeartbeats 4000000
set_option maxRecDepth 100000
namespace Go.Proofs.YtemlojjkokooeaaGreat
open Go.RowKit
theorem rplan_no{k r c q:Int}{N W:Nat}{x:Int}(h:Par k r c q N W x)(w:World)(ro:Option Addr)(rn rc:Nat)(A:Nat->Option Addr)(L C:Nat->Nat)(F:Nat->Nat->UInt8)(hr:Rw w ro rn A L C F)(nu fr tv:Int)(lo:Option Addr)(n lc:Nat)(E:Int)(hE:erK x N c rn L 1 fr=E)(he:E ≠ 0):
  Calls Tryz.prog 32 #[.agg #[.int .i64 k,.int .i64 r,.int .i64 c,.int .i64 q],.slice ro rn rc,.int .i64 nu,.int .i64 fr,.int .i64 tv,.slice lo n lc] w fun e w'=>e=.returned (.tuple #[.slice none 0 0,.int .i64 E])/\Below w.heap.size w w':=by
 have HA:Hid (∀ v,Below w.heap.size w v->Calls Tryz.prog 95 #[.agg #[.int .i64 k,.int .i64 r,.int .i64 c,.int .i64 q],.slice ro rn rc,.int .i64 nu,.int .i64 fr,.int .i64 tv,.slice lo n lc] v fun e w'=>e=.returned (.int .i64 E)/\Below v.heap.size v w'):=fun v hv=>RAsk13_no h v ro rn rc A L C F (hr.below hv) nu fr tv lo n lc E hE he;obtain⟨w0,hw0⟩:∃ w0,w0=w.alloc (.cells #[.int .i64 k,.int .i64 r,.int .i64 c,.int .i64 q] 23):=⟨_,rfl⟩
 have B0:Hid (Below w.heap.size w w0):=by show Below _ _ _; rw [hw0]; exact bal _ _
 clear h hr hE;go_enter Tryz.func32,Tryz.ntmps32
 go_wp2_with fail
 rw [<- hw0];clear hw0;refine(HA.out _ B0.out).mono ?_;rintro e wa ⟨rfl,ha⟩;have HB:Hid (Below w.heap.size w wa):=bth B0.out ha;clear ha HA;go_wp2_with fail
 go_ret2;exact⟨rfl,HB.out⟩
theorem erPl_g{q nu fr tv G Q:Int}(h:erPl q nu fr tv G 0 ≠ 0):erPl q nu fr tv G Q=erPl q nu fr tv G 0:=by
 unfold erPl at *;by_cases a:0<=nu/\nu<q/\fr<tv/\tv<=1073741824
 ·rw [if_pos a] at h ⊢;rw [if_pos a];by_cases b:G=0
  ·rw [if_pos b] at h; exact absurd rfl h
  ·rw [if_neg b,if_neg b]
 ·rw [if_neg a,if_neg a]
theorem erPl_z{q nu fr tv G Q:Int}(h:erPl q nu fr tv G 0=0):(0<=nu/\nu<q/\fr<tv/\tv<=1073741824)/\G=0/\erPl q nu fr tv G Q=Q:=by
 unfold erPl at *;by_cases a:0<=nu/\nu<q/\fr<tv/\tv<=1073741824
 ·rw [if_pos a] at h ⊢;by_cases b:G=0
  ·exact⟨a,b,if_pos b⟩
  ·rw [if_neg b] at h; exact absurd h b
 ·rw [if_neg a] at h; exact absurd h (by decide)
theorem erG_z{D:Nat->Int}{L:Nat->Nat}{K:Int}{m n:Nat}(h:erG D L K m n=0):0<n/\gdB D K n/\∀ i,i<n->L i=m:=by
 unfold erG at h;by_cases a:0<n/\gdB D K n
 ·rw [if_pos a] at h;by_cases b:∀ i,i<n->L i=m
  ·exact⟨a.1,a.2,b⟩
  ·rw [if_neg b] at h; exact absurd h (by decide)
 ·rw [if_neg a] at h; exact absurd h (by decide)
theorem rplan_yes{K R m:Nat}{q:Int}{N W:Nat}(h:Par (K:Int) (R:Int) (m:Int) q N W 0)(w:World)(ro:Option Addr)(rc:Nat)(A:Nat->Option Addr)(L C:Nat->Nat)(F:Nat->Nat->UInt8)(hr:Rw w ro N A L C F)(hL:∀ j,j<2*N->L j=0\/L j=sz N (m:Int))(nu fr tv:Int)(hfr:1<=fr/\fr<=1073741824)
  (lo:Option Addr) (n lc:Nat) (D:Nat->Int) (AA:Nat->Option Addr) (LL CC:Nat->Nat) (H:Nat->Nat->UInt8) (hl:Chl w lo n lc D AA LL CC H) (hn:n<=100) (t:Sl) (ht:tS (yy N (m:Int) L F) 1 fr (2*N)=t) (z:Nat->Sl) (hz:zv N (m:Int) L F 1 fr=z) (E:Int) (hE:erPl q nu fr tv (erG D LL (K:Int) m n) (erL K z N)=E) :
  Calls Tryz.prog 32 #[.agg #[.int .i64 (K:Int),.int .i64 (R:Int),.int .i64 (m:Int),.int .i64 q],.slice ro N rc,.int .i64 nu,.int .i64 fr,.int .i64 tv,.slice lo n lc] w (AnsL w E (n+R) N (Lw (dq K n D) (n+R)) (ol N (m:Int) L F t.V) nu (sz N (m:Int)) (fun i=>enc (slC 1 N (bmp (Cod.cat n D (fun i=>((K+i:Nat):Int))) tv t.V (n+R)) m (pH K N n z D H (Cod.cnt (Lw (dq K n D) (n+R)) i)) i))):=by
 obtain⟨E1,hE1⟩:∃ E1,erPl q nu fr tv (erG D LL (K:Int) m n) 0=E1:=⟨_,rfl⟩
 have HA:Hid (∀ v,Below w.heap.size w v->Calls Tryz.prog 95 #[.agg #[.int .i64 (K:Int),.int .i64 (R:Int),.int .i64 (m:Int),.int .i64 q],.slice ro N rc,.int .i64 nu,.int .i64 fr,.int .i64 tv,.slice lo n lc] v fun e w'=>e=.returned (.int .i64 E1)/\Below v.heap.size v w'):=fun v hv=>RAsk13_yes h v ro rc A L C F (hr.below hv) hL nu fr tv hfr lo n lc D AA LL CC H (hl.below hv) hn E1 hE1;obtain⟨w0,hw0⟩:∃ w0,w0=w.alloc (.cells #[.int .i64 (K:Int),.int .i64 (R:Int),.int .i64 (m:Int),.int .i64 q] 23):=⟨_,rfl⟩
 have B0:Hid (Below w.heap.size w w0):=by show Below _ _ _; rw [hw0]; exact bal _ _
 have HPAR:Hid (∀ v,Below w0.heap.size w0 v->v.cell? ⟨w.heap.size,0,none⟩=some (.int .i64 (K:Int))/\v.cell? ⟨w.heap.size,1,none⟩=some (.int .i64 (R:Int))/\v.cell? ⟨w.heap.size,2,none⟩=some (.int .i64 (m:Int))/\v.cell? ⟨w.heap.size,3,none⟩=some (.int .i64 q)):=fun v hv=>par_held hw0 hv;by_cases h1:E1=0
 ·subst h1;obtain⟨⟨a1,a2,a3,a4⟩,hG,hQ⟩:=erPl_z (Q:=erL K z N) hE1;rw [hQ] at hE;obtain⟨b1,b2,b3⟩:=erG_z hG;have HM:Hid (∀ v,Below w.heap.size w v->Calls Tryz.prog 96 #[.agg #[.int .i64 (K:Int),.int .i64 (R:Int),.int .i64 (m:Int),.int .i64 q],.slice ro N rc,.int .i64 nu,.int .i64 fr,.int .i64 tv,.slice lo n lc] v (AnsL v E (n+R) N (Lw (dq K n D) (n+R)) (ol N (m:Int) L F t.V) nu (sz N (m:Int)) (fun i=>enc (slC 1 N (bmp (Cod.cat n D (fun i=>((K+i:Nat):Int))) tv t.V (n+R)) m (pH K N n z D H (Cod.cnt (Lw (dq K n D) (n+R)) i)) i)))):=fun v hv=>RMade13_any h v ro rc A L C F (hr.below hv) hL nu fr tv hfr ⟨a3,a4⟩ lo n lc D AA CC H (chl_len (hl.below hv) b3) b1 b2 t ht z hz E hE;obtain⟨Lc,hLc⟩:∃ Lc,Lc=Lw (dq K n D) (n+R):=⟨_,rfl⟩
  obtain⟨os,hos⟩:∃ os,os=ol N (m:Int) L F t.V:=⟨_,rfl⟩
  obtain⟨S,hS⟩:∃ S,S=sz N (m:Int):=⟨_,rfl⟩
  obtain⟨G,hGG⟩:∃ G,G=fun i=>enc (slC 1 N (bmp (Cod.cat n D (fun i=>((K+i:Nat):Int))) tv t.V (n+R)) m (pH K N n z D H (Cod.cnt Lc i)) i):=⟨_,rfl⟩
  obtain⟨M,hM⟩:∃ M,M=lenE E (n+R):=⟨_,rfl⟩
  unfold AnsL at HM ⊢;rw [<- hLc,<- hos,<- hS,<- hGG,<- hM];rw [<- hLc,<- hos,<- hS,<- hGG,<- hM] at HM;have HMM:Hid (E=0->M=n+R):=fun e=>by rw [hM]; exact if_pos e
  clear h hr hL hl ht hz hE hE1 a1 a2 a3 a4 hG hQ b1 b2 b3 hLc hos hS hGG hM hn hfr;go_enter Tryz.func32,Tryz.ntmps32
  go_wp2_with fail
  rw [<- hw0];clear hw0;refine(HA.out _ B0.out).mono ?_;rintro e wa ⟨rfl,ha⟩;have HB:Hid (Below w0.heap.size w0 wa):=ha;clear ha HA;obtain⟨x0,x1,x2,x3⟩:=HPAR.out wa HB.out;go_wp2_with fail
  refine(HM.out _ (bth B0.out HB.out)).mono ?_;rintro e wb ⟨ao,cap,T,U,rfl,hp,hb⟩;have HP:Hid (E=0->PL w.heap.size wb ao (n+R) cap N Lc os nu S T U G):=fun e=>by
   have h1:=hp e;have hz:=(bth B0.out HB.out).size;exact⟨owns_mono h1.out hz,fun l hl hne=>(h1.row l hl hne).mono hz⟩
  have HBB:Hid (Below w.heap.size w wb):=bth B0.out (bth HB.out hb);clear hp hb HM x0 x1 x2 x3;go_wp2_with fail
  go_ret2;exact⟨ao,cap,T,U,rfl,HP.out,HBB.out⟩
 ·have hEE:E=E1:=by rw [<- hE,<- hE1]; exact erPl_g (by rw [hE1]; exact h1)
  subst hEE;unfold AnsL;rw [show lenE E (n+R)=0 from if_neg h1];clear h hr hL hl ht hz hE hE1 HPAR;go_enter Tryz.func32,Tryz.ntmps32
  go_wp2_with fail
  rw [<- hw0];clear hw0;refine(HA.out _ B0.out).mono ?_;rintro e wa ⟨rfl,ha⟩;have HB:Hid (Below w.heap.size w wa):=bth B0.out ha;clear ha HA;go_wp2_with fail
  go_ret2;exact⟨none,0,fun _=>none,fun _=>0,rfl,fun e=>absurd e h1,HB.out⟩
theorem plan_both{k r c q:Int}{N W:Nat}{x:Int}(h:Par k r c q N W x)(rn:Nat)(L:Nat->Nat)(F:Nat->Nat->UInt8)(nu fr tv:Int)(n:Nat)(D:Nat->Int)(LL:Nat->Nat)(H:Nat->Nat->UInt8)(hn:n<=100):
  ∃(E:Int) (Lc os:Nat->Nat) (S:Nat) (G:Nat->Nat->UInt8),(S<=1000\/E ≠ 0)/\∀ v ro rc A C lo lc AA CC,Rw v ro rn A L C F->Chl v lo n lc D AA LL CC H ->
   (Calls Tryz.prog 31 #[.agg #[.int .i64 k,.int .i64 r,.int .i64 c,.int .i64 q],.slice ro rn rc,.int .i64 nu,.int .i64 fr,.int .i64 tv,.slice lo n lc] v fun e w'=>∃ a b T U,e=.returned (.tuple #[.slice a (lenE E (Cod.cnt Lc N)) b,.int .i64 E])/\(E=0->PL v.heap.size w' a (Cod.cnt Lc N) b N Lc os nu S T U G)/\Below v.heap.size v w') /\
   (Calls Tryz.prog 32 #[.agg #[.int .i64 k,.int .i64 r,.int .i64 c,.int .i64 q],.slice ro rn rc,.int .i64 nu,.int .i64 fr,.int .i64 tv,.slice lo n lc] v fun e w'=>∃ a b T U,e=.returned (.tuple #[.slice a (lenE E (Cod.cnt Lc N)) b,.int .i64 E])/\(E=0->PL v.heap.size w' a (Cod.cnt Lc N) b N Lc os nu S T U G)/\Below v.heap.size v w'):=by
 obtain⟨E0,hE0⟩:∃ E0,erK x N c rn L 1 fr=E0:=⟨_,rfl⟩
 by_cases he:E0=0
 ·rw [he] at hE0;obtain⟨hz1,_,hfr⟩:=erK_zero hE0;obtain⟨hx,hrn,hL⟩:=erR_zero hz1;subst hx;subst hrn;obtain⟨K,R,m,rfl,rfl,rfl⟩:∃ K R m:Nat,k=(K:Int)/\r=(R:Int)/\c=(m:Int):=by
   rcases h with ⟨h1,_⟩ | ⟨_,_,_,e⟩
   ·have:=may_true h1;exact⟨k.toNat,r.toNat,c.toNat,by omega,by omega,by omega⟩
   ·exact absurd e (by decide)
  obtain⟨hrK,hsz⟩:rn=K+R/\sz rn (m:Int)<=1000:=by
   rcases h with ⟨h1,_,h3,_⟩ | ⟨_,_,_,e⟩
   ·have:=may_true h1;refine⟨by omega,?_⟩;unfold sz; omega
   ·exact absurd e (by decide)
  have hfr2:1<=fr/\fr<=1073741824:=by simpa using hfr
  obtain⟨E,hE⟩:∃ E,erPl q nu fr tv (erG D LL (K:Int) m n) (erL K (zv rn (m:Int) L F 1 fr) rn)=E:=⟨_,rfl⟩
  have hcn:E=0->Cod.cnt (Lw (dq K n D) (n+R)) rn=n+R:=fun e=>by
   have h1:erPl q nu fr tv (erG D LL (K:Int) m n) 0=0:=by
    by_cases g:erPl q nu fr tv (erG D LL (K:Int) m n) 0=0
    ·exact g
    ·have:=erPl_g (Q:=erL K (zv rn (m:Int) L F 1 fr) rn) g;rw [hE,e] at this;exact absurd this.symm g
   obtain⟨_,hG,_⟩:=erPl_z (Q:=0) h1;rw [hrK];exact(dq_ris (R:=R) (erG_z hG).2.1).all
  refine⟨E,Lw (dq K n D) (n+R),ol rn (m:Int) L F (tS (yy rn (m:Int) L F) 1 fr (2*rn)).V,sz rn (m:Int),fun i=>enc (slC 1 rn (bmp (Cod.cat n D (fun i=>((K+i:Nat):Int))) tv (tS (yy rn (m:Int) L F) 1 fr (2*rn)).V (n+R)) m (pH K rn n (zv rn (m:Int) L F 1 fr) D H (Cod.cnt (Lw (dq K n D) (n+R)) i)) i),.inl hsz,fun v ro rc A C lo lc AA CC hr hl=>⟨?_,?_⟩⟩
  ·refine(plan_yes h v ro rc A L C F hr hL nu fr tv hfr2 lo n lc D AA LL CC H hl hn _ rfl _ rfl).mono ?_;rintro e w' (⟨E',hne,hE',rfl,hb⟩ | ⟨a3,a4,b1,b2,b3,b4,⟨a1,a2⟩,_,ao,cap,T,U,rfl,hp,hb⟩)
   ·rw [hE] at hE';subst hE';rw [show lenE E' (Cod.cnt (Lw (dq K n D) (n+R)) rn)=0 from if_neg hne];exact⟨none,0,fun _=>none,fun _=>0,rfl,fun e=>absurd e hne,hb⟩
   ·have h0:E=0:=by
     rw [<- hE];unfold erPl;rw [if_pos ⟨a1,a2,a3,a4⟩,show erG D LL (K:Int) m n=0 by unfold erG; rw [if_pos ⟨b1,b2⟩,if_pos b3],if_pos rfl];exact b4
    rw [h0,show lenE 0 (Cod.cnt (Lw (dq K n D) (n+R)) rn)=Cod.cnt (Lw (dq K n D) (n+R)) rn from if_pos rfl,hcn h0];exact⟨ao,cap,T,U,rfl,fun _=>hp,hb⟩
  ·refine(rplan_yes h v ro rc A L C F hr hL nu fr tv hfr2 lo n lc D AA LL CC H hl hn _ rfl _ rfl E hE).mono ?_;rintro e w' ⟨ao,cap,T,U,rfl,hp,hb⟩;by_cases h0:E=0
   ·rw [hcn h0];exact⟨ao,cap,T,U,rfl,hp,hb⟩
   ·rw [show lenE E (Cod.cnt (Lw (dq K n D) (n+R)) rn)=0 from if_neg h0,show lenE E (n+R)=0 from if_neg h0];exact⟨ao,cap,T,U,rfl,fun e=>absurd e h0,hb⟩
 ·refine⟨E0,fun _=>0,fun _=>0,0,fun _ _=>0,.inr he,fun v ro rc A C lo lc AA CC hr hl=>?_⟩;rw [show lenE E0 (Cod.cnt (fun _=>0) N)=0 from if_neg he];refine⟨(plan_no h v ro rn rc A L C F hr nu fr tv lo n lc E0 hE0 he).mono ?_,(rplan_no h v ro rn rc A L C F hr nu fr tv lo n lc E0 hE0 he).mono ?_⟩;all_goals
   rintro e w' ⟨rfl,hb⟩;exact⟨none,0,fun _=>none,fun _=>0,rfl,fun e=>absurd e he,hb⟩
end Go.Proofs.YtemlojjkokooeaaGreat
