import Derived.Deep.RegionLaw
import Derived.Test.YtemlojjkokooeaaGreatTj44
set_option maxHeartbeats 8000000
set_option maxRecDepth 100000
namespace Go.Proofs.YtemlojjkokooeaaGreat
open Go.RowKit
theorem SameCh_any(w:World)(ao bo:Option Addr)(m la lb:Nat)(D:Nat->Int)(T T':Nat->Option Addr)(L U U':Nat->Nat)(G:Nat->Nat->UInt8)(hm:m<=1000)(ha:Chl w ao m la D T L U G)(hb:Chl w bo m lb D T' L U' G):
  Calls Tryz.prog 33 #[.slice ao m la,.slice bo m lb] w fun e w'=>e=.returned (.bool true)/\Below w.heap.size w w':=by
 have HA:Hid (Chl w ao m la D T L U G):=ha;have HB:Hid (Chl w bo m lb D T' L U' G):=hb;clear ha hb;have hnn:((m:Int) != (m:Int))=false:=by simp
 go_enter Tryz.func33,Tryz.ntmps33
 go_wp2;go_loopw [5] (fun x wr=>∃ i:Nat,i<=m/\x=.int .i64 i/\Hid (Below w.heap.size w wr)) (fun x _=>m-(intOf x).toNat)
 case atStart=>exact⟨0,Nat.zero_le _,rfl,Below.refl _ _⟩
 case round =>
  obtain⟨i,hi,rfl,hbw⟩:=hrel;by_cases hlt:i<m
  ·obtain⟨b,off,rfl,hc⟩:=(HA.out.below hbw.out).at_ (by omega);obtain⟨b',off',rfl,hc'⟩:=(HB.out.below hbw.out).at_ (by omega);obtain⟨c0,c1⟩:=hc i hlt;obtain⟨d0,d1⟩:=hc' i hlt;have v1:∀ z,(convert 36 9 (.slice (T i) (L i) (U i))).run Tryz.prog (wr.drewN z)=.ok (.string (sOf (lsF (L i) (G i)))) (wr.drewN z):=fun z=>conv_any (((HA.out.below hbw.out).bec i hlt).below (below_drewN _ _ _));have v2:∀ z,(convert 36 9 (.slice (T' i) (L i) (U' i))).run Tryz.prog (wr.drewN z)=.ok (.string (sOf (lsF (L i) (G i)))) (wr.drewN z):=fun z=>conv_any (((HB.out.below hbw.out).bec i hlt).below (below_drewN _ _ _));have e1:=str_ne' (lsF (L i) (G i));have e2:(D i != D i)=false:=by simp
   clear hc hc';have i1:(0:Int)<=(i:Int):=by omega
   have i2:(i:Int)<(m:Int):=by omega
   go_wp2;go_quiet (fail)
   go_wp2;go_roundw
   case rel=>exact⟨i+1,by omega,by go_num,hbw.out.trans (below_drewN _ _ _)⟩
   case measure=>simp [intOf]; omega
  ·go_wp2;go_ret;exact⟨rfl,hbw.out⟩
structure Cq (w wr:World) (ao:Option Addr) (i cap:Nat) (D:Nat->Int) (A:Nat->Option Addr) (L C:Nat->Nat) (F:Nat->Nat->UInt8):Prop where
  row:wr.ownsRow w.heap.size 124 2 (.slice ao i cap) i (chOf D A L C i)
  bec:∀ j,j<i->Bec wr (A j) (L j) (C j) (F j)/\∀ a,A j=some a->w.heap.size<=a.block/\a.block<wr.heap.size/\∀ d,ao=some d->a.block ≠ d.block
  bel:Below w.heap.size w wr
theorem Cq.start(w wr:World)(D:Nat->Int)(A:Nat->Option Addr)(L C:Nat->Nat)(F:Nat->Nat->UInt8)(h:Below w.heap.size w wr):Cq w wr none 0 0 D A L C F:=⟨World.ownsRow_nil _ _ _ _,fun j hj=>absurd hj (Nat.not_lt_zero j),h⟩
theorem Cq.step{w wr wf wn:World}{ao:Option Addr}{i cap d g2 cap2:Nat}{D:Nat->Int}{A:Nat->Option Addr}{L C:Nat->Nat}{F:Nat->Nat->UInt8}{XS:List Value}(h:Cq w wr ao i cap D A L C F)
  (hX:XS=chOf D A L C i) (hbb:Below wr.heap.size wr wf) (hz:wr.heap.size<wf.heap.size) (h0:Bec wf (some ⟨wr.heap.size,0,none⟩) (L i) d (F i)) {o:Obj}
  (ho:wn.ownsRow w.heap.size 124 2 (.slice (some ⟨g2,0,none⟩) (i+1) cap2) (i+1) (XS ++ [.int .i64 (D i),.slice (some ⟨wr.heap.size,0,none⟩) (L i) d]))
  (hg:(wf.alloc o).grownBy wn (Value.slice ao i cap).ownBlock) (hw:(Value.slice ao i cap).ownBlock=some g2\/g2=wf.heap.size+1) :
  Cq w wn (some ⟨g2,0,none⟩) (i+1) cap2 D (updT i (some ⟨wr.heap.size,0,none⟩) A) L (updT i d C) F:=by
 have hs:=hbb.size;have hz0:=h.bel.size;have hao:∀ g,(Value.slice ao i cap).ownBlock=some g->∃ a,ao=some a/\a.block=g/\w.heap.size<=g/\g<wr.heap.size:=fun g hgg=>by
  cases ao with
  | none=>cases hgg
  | some a =>
   have e:a.block=g:=by simpa [Value.ownBlock] using hgg
   exact⟨a,rfl,e,(h.row.lt g hgg).1,(h.row.lt g hgg).2⟩
 have keep:∀ x,x<wf.heap.size->(∀ a,ao=some a->x ≠ a.block)->wn.heap[x]? = wf.heap[x]?:=fun x hx hne=>by
  rw [hg.block x (by simp; omega) fun e=>?_]
  ·exact(bal wf o).block x hx
  ·obtain⟨a,ea,eb,_⟩:=hao x e.symm;exact hne a ea eb.symm
 have hwn:wf.heap.size+1<=wn.heap.size:=by have:=hg.size; simp at this; omega
 refine⟨?_,fun j hj=>?_,?_⟩
 ·rw [show chOf D (updT i (some ⟨wr.heap.size,0,none⟩) A) L (updT i d C) (i+1)=XS ++ [.int .i64 (D i),.slice (some ⟨wr.heap.size,0,none⟩) (L i) d] by
   rw [chOf,updT_at,updT_at,hX,chOf_congr fun j hj=>⟨rfl,updT_ne _ _ (by omega),rfl,updT_ne _ _ (by omega)⟩]]
  exact ho
 ·by_cases c0:j=i
  ·subst c0;rw [updT_at,updT_at];have hn:∀ a,ao=some a->wr.heap.size ≠ a.block:=fun a ha e=>by
    subst ha;obtain⟨a',ea,eb,_,k⟩:=hao a.block rfl;omega
   refine⟨bec_stay h0 (fun a ha=>by cases ha; exact keep _ hz hn),fun a ha=>?_⟩;cases ha
   refine⟨hz0,by show wr.heap.size<_; omega,fun dd hd e=>?_⟩;cases hd
   simp only at e;rcases hw with k | k
   ·obtain⟨x,ex,e3,_⟩:=hao g2 k; exact hn x ex (by omega)
   ·omega
  ·rw [updT_ne _ _ c0,updT_ne _ _ c0];obtain⟨q1,q2⟩:=h.bec j (by omega);refine⟨bec_stay (q1.below hbb) (fun a ha=>?_),fun a ha=>?_⟩
   ·obtain⟨q3,q4,q5⟩:=q2 a ha;exact keep _ (by omega) q5
   ·obtain⟨q3,q4,q5⟩:=q2 a ha;refine⟨q3,by omega,fun dd hd e=>?_⟩;cases hd
    simp only at e;rcases hw with k | k
    ·obtain⟨x,ex,e3,_⟩:=hao g2 k; exact q5 x ex (by omega)
    ·omega
 ·exact(bth (bth h.bel hbb) (bal _ o)).grown hg (by have:=(bth h.bel hbb).size; simp; omega) (fun r hr=>(h.row.lt r hr).1)
theorem Cq.chl{w wr:World}{ao:Option Addr}{i cap:Nat}{D:Nat->Int}{A:Nat->Option Addr}{L C:Nat->Nat}{F:Nat->Nat->UInt8}(h:Cq w wr ao i cap D A L C F):Chl wr ao i cap D A L C F:=by
 refine⟨fun hp=>?_,fun j hj=>(h.bec j hj).1,fun e=>?_,?_⟩
 ·rcases h.row.2 with ⟨_,h2⟩ | ⟨g,cp,cur,h2,h3,h4,_⟩
  ·omega
  ·simp only [Value.slice.injEq] at h2;obtain⟨rfl,_,rfl⟩:=h2;refine⟨g,0,rfl,fun j hj=>?_⟩;rw [Nat.zero_add,World.ownsRow.cellAt h.row (j*2) (by omega),World.ownsRow.cellAt h.row (j*2+1) (by omega)];exact chOf_get D A L C i j hj
 ·rcases h.row.2 with ⟨h0,h1⟩ | ⟨g,c',cur,e',_⟩
  ·cases h0; exact⟨rfl,rfl⟩
  ·rw [e] at e'; cases e'
 ·rcases h.row.2 with ⟨h0,h1⟩ | ⟨g,c',cur,e',_,_,h3,_⟩
  ·omega
  ·cases e'; exact h3
theorem news_two(w:World)(X:Obj)(xs:Array Value)(e:TypeId):∀(j:Nat) u,xs.toList[j]? = some u->((w.alloc X).alloc (.cells xs e)).drew.drew.cell? ((⟨w.heap.size+1,0,none⟩:Addr).add j)=some u:=by
 have h:=Cod.news_drew (w.alloc X) xs e;have e1:(w.alloc X).heap.size=w.heap.size+1:=by simp
 rw [e1] at h;exact h
def AnsCq (w:World) (n:Nat) (D:Nat->Int) (L:Nat->Nat) (F:Nat->Nat->UInt8) (e:Ending) (w':World):Prop:=∃ ao cap A C,e=.returned (.slice ao n cap)/\Cq w w' ao n cap D A L C F
theorem TwinC_any(w:World)(lo:Option Addr)(n lc:Nat)(D:Nat->Int)(A:Nat->Option Addr)(L C:Nat->Nat)(F:Nat->Nat->UInt8)(h:Chl w lo n lc D A L C F)(hn:n<=1000):
  Calls Tryz.prog 30 #[.slice lo n lc] w (AnsCq w n D L F):=by
 obtain⟨j0,hj,hj0,hj1,hj2⟩:=info_parts info33;have H:Hid (Chl w lo n lc D A L C F):=h;clear h;go_enter Tryz.func30,Tryz.ntmps30
 go_wp2;go_loopw [3,4] (fun l y wr=>∃ i:Nat,i<=n/\y=.int .i64 (i:Int)/\∃ ao cap T U,l=.slice ao i cap/\Hid (Cq w wr ao i cap D T L U F)) (fun _ y _=>n-(intOf y).toNat)
 case atStart=>exact⟨0,Nat.zero_le _,rfl,none,0,fun _=>none,fun _=>0,rfl,Cq.start _ _ _ _ _ _ _ (Below.refl _ _)⟩
 case round =>
  obtain⟨i,hi,rfl,ao,cap,T,U,rfl,hcq⟩:=hrel;by_cases hlt:i<n
  ·obtain⟨b,off,rfl,hc⟩:=H.out.at_ (by omega);obtain⟨e0,e1⟩:=hc i hlt;have E0:Hid (w.cell? ⟨b,off+i*2,none⟩=some (.int .i64 (D i))):=e0;have E1:Hid (w.cell? ⟨b,off+i*2+1,none⟩=some (.slice (A i) (L i) (C i))):=e1;have EB:Hid (Bec w (A i) (L i) (C i) (F i)):=H.out.bec i hlt;have c0:=held e0 hcq.out.bel;have c1:=held e1 hcq.out.bel;clear e0 e1;have v1:=conv_any ((H.out.below hcq.out.bel).bec i hlt);have HB:Hid (Bec wr (A i) (L i) (C i) (F i)):=(H.out.below hcq.out.bel).bec i hlt;obtain⟨cc,X,hcv,HX⟩:∃(cc:World->Nat) (X:World->Obj),(∀ v,(convert 9 36 (.string (sOf (lsF (L i) (F i))))).run Tryz.prog v=.ok (.slice (some ⟨v.heap.size,0,none⟩) (L i) (cc v)) (v.drew.alloc (X v)))/\Hid (∀ v,Bec (v.drew.alloc (X v)) (some ⟨v.heap.size,0,none⟩) (L i) (cc v) (F i)):=by
    have hrun:=fun v=>run_bytes_of_string (P:=Tryz.prog) v 9 36 5 (sOf (lsF (L i) (F i))) Tryz.underlying9 Tryz.underlying36 Tryz.underlying5;have hsz:(sOf (lsF (L i) (F i))).size=L i:=by simp [sOf,ByteArray.size,lsF_length]
    rw [hsz] at hrun;refine⟨_,_,hrun,fun v=>?_⟩;obtain⟨v',c',hr,hb,_⟩:=conv_newz v (L i) (F i);rw [hrun v] at hr;cases hr
    exact hb
   obtain⟨xs,hxs⟩:∃ xs,xs=chOf D T L U i:=⟨_,rfl⟩
   have HXO:Hid (wr.ownsRow w.heap.size 124 2 (.slice ao i cap) i xs):=by show World.ownsRow _ _ _ _ _ _ _; rw [hxs]; exact hcq.out.row
   have HXS:Hid (xs=chOf D T L U i):=hxs;have HWR:Hid (Below w.heap.size w wr):=hcq.out.bel;obtain⟨wd,hwd⟩:∃ wd,wd=wr.drew:=⟨_,rfl⟩
   have HD:Hid (Below wr.heap.size wr wd):=by show Below _ _ _; rw [hwd]; exact bdw _ _
   have hsd:wd.heap.size=wr.heap.size:=by rw [hwd]; rfl
   have v1:=fun z=>conv_any (HB.out.below (below_drewN wr.heap.size wr z));have k0:∀ o,(wr.drew.drew.alloc o).cell? ⟨b,off+i*2,none⟩=some (.int .i64 (D i)):=fun o=>held c0 (bth (bdw _ _) (bth (bdw _ _) (bal wr.drew.drew o)));have k1:∀ o,(wr.drew.drew.alloc o).cell? ⟨b,off+i*2+1,none⟩=some (.slice (A i) (L i) (C i)):=fun o=>held c1 (bth (bdw _ _) (bth (bdw _ _) (bal wr.drew.drew o)));have k2:(convert 36 9 (.slice (A i) (L i) (C i))).run Tryz.prog wr.drew=.ok (.string (sOf (lsF (L i) (F i)))) wr.drew:=conv_any (HB.out.below (bdw _ _));have B2:∀ o,Below wr.heap.size wr (wr.alloc o).drew.drew:=fun o=>bth (bal wr o) (bth (bdw _ _) (bdw _ _));have B3:∀ o,Below wr.heap.size wr (wr.alloc o).drew.drew.drew:=fun o=>bth (B2 o) (bdw _ _);have B4:∀ o o',Below wr.heap.size wr ((wr.alloc o).alloc o').drew.drew.drew:=fun o o'=>bth (bth (bal wr o) (bal _ o')) (bth (bdw _ _) (bth (bdw _ _) (bdw _ _)));have t2:∀ o,(convert 36 9 (.slice (A i) (L i) (C i))).run Tryz.prog (wr.alloc o).drew.drew=.ok (.string (sOf (lsF (L i) (F i)))) (wr.alloc o).drew.drew:=fun o=>conv_any (HB.out.below (B2 o));have t3:∀ o,(convert 36 9 (.slice (A i) (L i) (C i))).run Tryz.prog (wr.alloc o).drew.drew.drew=.ok (.string (sOf (lsF (L i) (F i)))) (wr.alloc o).drew.drew.drew:=fun o=>conv_any (HB.out.below (B3 o));have t4:∀ o o',(convert 36 9 (.slice (A i) (L i) (C i))).run Tryz.prog ((wr.alloc o).alloc o').drew.drew.drew=.ok (.string (sOf (lsF (L i) (F i)))) ((wr.alloc o).alloc o').drew.drew.drew:=fun o o'=>conv_any (HB.out.below (B4 o o'));have B5:∀ o o',Below wr.heap.size wr ((wr.alloc o).alloc o').drew.drew:=fun o o'=>bth (bth (bal wr o) (bal _ o')) (bth (bdw _ _) (bdw _ _));have t5:∀ o o',(convert 36 9 (.slice (A i) (L i) (C i))).run Tryz.prog ((wr.alloc o).alloc o').drew.drew=.ok (.string (sOf (lsF (L i) (F i)))) ((wr.alloc o).alloc o').drew.drew:=fun o o'=>conv_any (HB.out.below (B5 o o'));have u2:∀ o,(wr.alloc o).cell? ⟨b,off+i*2,none⟩=some (.int .i64 (D i)):=fun o=>held c0 (bal wr o);have u3:∀ o,(wr.alloc o).cell? ⟨b,off+i*2+1,none⟩=some (.slice (A i) (L i) (C i)):=fun o=>held c1 (bal wr o);have u4:∀ o o',((wr.alloc o).alloc o').cell? ⟨b,off+i*2,none⟩=some (.int .i64 (D i)):=fun o o'=>held (u2 o) (bal _ o');have u5:∀ o o',((wr.alloc o).alloc o').cell? ⟨b,off+i*2+1,none⟩=some (.slice (A i) (L i) (C i)):=fun o o'=>held (u3 o) (bal _ o');have d0:wr.drew.cell? ⟨b,off+i*2,none⟩=some (.int .i64 (D i)):=held c0 (bdw _ _);have d1:wr.drew.cell? ⟨b,off+i*2+1,none⟩=some (.slice (A i) (L i) (C i)):=held c1 (bdw _ _);have HST:Hid (∀ g5 cap5 w5 o,w5.ownsRow w.heap.size 124 2 (.slice (some ⟨g5,0,none⟩) (i+1) cap5) (i+1) (xs ++ [.int .i64 (D i),.slice (some ⟨wr.heap.size,0,none⟩) (L i) (cc wr.drew)])->((wr.alloc (X wr.drew)).alloc o).drew.drew.grownBy w5 (Value.slice ao i cap).ownBlock->((Value.slice ao i cap).ownBlock=some g5\/g5=wr.heap.size+2)->Cq w w5 (some ⟨g5,0,none⟩) (i+1) cap5 D (updT i (some ⟨wr.heap.size,0,none⟩) T) L (updT i (cc wr.drew) U) F):=fun g5 cap5 w5 o h1 h2 h3 =>
    hcq.out.step (wf:=(wr.alloc (X wr.drew)).drew.drew) HXS.out (B2 _) (by show _<(wr.alloc _).heap.size; simp) (HX.out wr.drew) (o:=o) h1 h2 (h3.imp_right fun e=>by rw [e]; show _=(wr.alloc _).heap.size+1; simp)
   clear hc hxs;have i1:(0:Int)<=(i:Int):=by omega
   have i2:(i:Int)<(n:Int):=by omega
   go_wp2;go_region_law (refine Cod.step_append_lies (by rfl) (.tmp 11) (.tmp 25) 50 (by rfl) w.heap.size 124 j0 (.agg #[.int .i64 0,.slice none 0 0]) 2 32 Tryz.underlying50 hj hj0 hj1 hj2 (by rfl) (by decide) (.slice ao i cap) i xs (by simp [Act.eval]) (owns_below HXO.out (B5 _ _)) ⟨wr.heap.size+1,0,none⟩ 1 1 [.int .i64 (D i),.slice (some ⟨wr.heap.size,0,none⟩) (L i) (cc wr.drew)] (by simp [Act.eval]) (by rfl) (news_two wr _ #[.int .i64 (D i),.slice (some ⟨wr.heap.size,0,none⟩) (L i) (cc wr.drew)] 124) (by simp [Value.oneCell']) (by decide) (by unfold maxLen; omega) (by omega) (by have:=HWR.out.size; show _<=((wr.alloc _).alloc _).heap.size; simp; omega) (wr.heap.size+2) (by show ((wr.alloc _).alloc _).heap.size=_; simp) ?_; intro g5 cap5 w5 hown5 hgrow5 hat5 _; have HO5:Hid (Cq w w5 (some ⟨g5,0,none⟩) (i+1) cap5 D (updT i (some ⟨wr.heap.size,0,none⟩) T) L (updT i (cc wr.drew) U) F):=HST.out _ _ _ _ hown5 hgrow5 hat5; clear hown5 hgrow5 hat5; have s1:=held E0.out HO5.out.bel; have s2:=held E1.out HO5.out.bel; have s3:=conv_any (EB.out.below HO5.out.bel))
   all_goals (clear s1 s2 s3 u2 u3 u4 u5 t2 t3 t4 t5 k0 k1 k2 B2 B3 B4 B5 c0 c1 hcv; go_wp2; go_roundw)
   all_goals first | exact⟨i+1,by omega,by go_num,_,cap5,_,_,rfl,HO5⟩ | (simp [intOf]; omega)
  ·obtain rfl:i=n:=by omega
   go_wp2;go_ret;exact⟨ao,cap,T,U,rfl,hcq.out⟩
theorem RAsk13_no{k r c q:Int}{N W:Nat}{x:Int}(h:Par k r c q N W x)(w:World)(ro:Option Addr)(rn rc:Nat)(A:Nat->Option Addr)(L C:Nat->Nat)(F:Nat->Nat->UInt8)(hr:Rw w ro rn A L C F)(nu fr tv:Int)(lo:Option Addr)(n lc:Nat)(E:Int)(hE:erK x N c rn L 1 fr=E)(he:E ≠ 0):
  Calls Tryz.prog 95 #[.agg #[.int .i64 k,.int .i64 r,.int .i64 c,.int .i64 q],.slice ro rn rc,.int .i64 nu,.int .i64 fr,.int .i64 tv,.slice lo n lc] w fun e w'=>e=.returned (.int .i64 E)/\Below w.heap.size w w':=by
 obtain⟨w0,hw0⟩:∃ w0,w0=w.alloc (.cells #[.int .i64 k,.int .i64 r,.int .i64 c,.int .i64 q] 23):=⟨_,rfl⟩
 have B0:Hid (Below w.heap.size w w0):=by show Below _ _ _; rw [hw0]; exact bal _ _
 have L0:Hid (∀ v,Below w0.heap.size w0 v->At w v w.heap.size #[.int .i64 k,.int .i64 r,.int .i64 c,.int .i64 q] 23):=fun v hv=>(at_made (Below.refl _ _) hw0).below hv;obtain⟨mb,hmb⟩:∃ mb,may k r c q=mb:=⟨_,rfl⟩
 have HM:Hid (∀ v,Calls Tryz.prog 110 #[.agg #[.int .i64 k,.int .i64 r,.int .i64 c,.int .i64 q]] v fun e w'=>e=.returned (.bool mb)/\Below v.heap.size v w'):=fun v=>by rw [<- hmb]; exact May_any k r c q v
 have hm2:=h.may;rw [hmb] at hm2;by_cases hx:x=0
 ·subst hx;obtain rfl:mb=true:=by rw [hm2]; rfl
  obtain⟨y,hy⟩:∃ y,decide (rn=N/\∀ j,j<2*rn->L j=0\/L j=sz N c)=y:=⟨_,rfl⟩
  have HRW:Hid (∀ u,Below w.heap.size w u->Calls Tryz.prog 134 #[.agg #[.int .i64 k,.int .i64 r,.int .i64 c,.int .i64 q],.slice ro rn rc] u fun e w'=>e=.returned (.bool y)/\Below u.heap.size u w'):=fun u hu=>RRow_any h u ro rn rc A L C F (hr.below hu) y hy;clear hr hmb hm2 h;unfold erK erR at hE;rw [if_pos rfl] at hE;cases y
  ·rw [if_neg (of_decide_eq_false hy),if_neg (by decide)] at hE;subst hE;clear hy;go_enter Tryz.func95,Tryz.ntmps95
   go_wp2_with fail
   rw [<- hw0];clear hw0;refine(HM.out _).mono ?_;rintro e wa ⟨rfl,ha⟩;have BA:Hid (Below w0.heap.size w0 wa):=ha;clear ha;have pq:=L0.out wa BA.out;have s0:=pq.cell (i:=0) rfl;have s1:=pq.cell (i:=1) rfl;have s2:=pq.cell (i:=2) rfl;have s3:=pq.cell (i:=3) rfl;clear pq;go_wp2_with fail
   refine(HRW.out _ (bth B0.out BA.out)).mono ?_;rintro e wb ⟨rfl,hb⟩;have BB:Hid (Below w0.heap.size w0 wb):=bth BA.out hb;clear hb s0 s1 s2 s3;have pq:=L0.out wb BB.out;have s0:=pq.cell (i:=0) rfl;have s1:=pq.cell (i:=1) rfl;have s2:=pq.cell (i:=2) rfl;have s3:=pq.cell (i:=3) rfl;clear pq;go_wp2_with fail
   go_ret;exact⟨rfl,bth B0.out BB.out⟩
  ·rw [if_pos (of_decide_eq_true hy),if_pos rfl] at hE;clear hy;by_cases hf:1<=fr/\fr<=1073741824
   ·rw [if_pos ⟨.inl rfl,hf⟩] at hE; exact absurd hE.symm he
   rw [if_neg fun g=>hf g.2] at hE;subst hE;have HF:Hid (∀ u,Calls Tryz.prog 103 #[.int .i64 fr] u fun e w'=>e=.returned (.bool false)/\w'=u):=fun u=>by
    have e:=Version_any fr u;rw [show verB fr=false from decide_eq_false hf] at e; exact e
   clear hf;by_cases g1:nu<0
   ·go_enter Tryz.func95,Tryz.ntmps95
    go_wp2_with fail
    rw [<- hw0];clear hw0;refine(HM.out _).mono ?_;rintro e wa ⟨rfl,ha⟩;have BA:Hid (Below w0.heap.size w0 wa):=ha;clear ha;have pq:=L0.out wa BA.out;have s0:=pq.cell (i:=0) rfl;have s1:=pq.cell (i:=1) rfl;have s2:=pq.cell (i:=2) rfl;have s3:=pq.cell (i:=3) rfl;clear pq;go_wp2_with fail
    refine(HRW.out _ (bth B0.out BA.out)).mono ?_;rintro e wb ⟨rfl,hb⟩;have BB:Hid (Below w0.heap.size w0 wb):=bth BA.out hb;clear hb s0 s1 s2 s3;have pq:=L0.out wb BB.out;have s0:=pq.cell (i:=0) rfl;have s1:=pq.cell (i:=1) rfl;have s2:=pq.cell (i:=2) rfl;have s3:=pq.cell (i:=3) rfl;clear pq;go_wp2_with fail
    go_ret;exact⟨rfl,bth B0.out BB.out⟩
   by_cases g2:q<=nu
   ·go_enter Tryz.func95,Tryz.ntmps95
    go_wp2_with fail
    rw [<- hw0];clear hw0;refine(HM.out _).mono ?_;rintro e wa ⟨rfl,ha⟩;have BA:Hid (Below w0.heap.size w0 wa):=ha;clear ha;have pq:=L0.out wa BA.out;have s0:=pq.cell (i:=0) rfl;have s1:=pq.cell (i:=1) rfl;have s2:=pq.cell (i:=2) rfl;have s3:=pq.cell (i:=3) rfl;clear pq;go_wp2_with fail
    refine(HRW.out _ (bth B0.out BA.out)).mono ?_;rintro e wb ⟨rfl,hb⟩;have BB:Hid (Below w0.heap.size w0 wb):=bth BA.out hb;clear hb s0 s1 s2 s3;have pq:=L0.out wb BB.out;have s0:=pq.cell (i:=0) rfl;have s1:=pq.cell (i:=1) rfl;have s2:=pq.cell (i:=2) rfl;have s3:=pq.cell (i:=3) rfl;clear pq;go_wp2_with fail
    go_ret;exact⟨rfl,bth B0.out BB.out⟩
   go_enter Tryz.func95,Tryz.ntmps95
   go_wp2_with fail
   rw [<- hw0];clear hw0;refine(HM.out _).mono ?_;rintro e wa ⟨rfl,ha⟩;have BA:Hid (Below w0.heap.size w0 wa):=ha;clear ha;have pq:=L0.out wa BA.out;have s0:=pq.cell (i:=0) rfl;have s1:=pq.cell (i:=1) rfl;have s2:=pq.cell (i:=2) rfl;have s3:=pq.cell (i:=3) rfl;clear pq;go_wp2_with fail
   refine(HRW.out _ (bth B0.out BA.out)).mono ?_;rintro e wb ⟨rfl,hb⟩;have BB:Hid (Below w0.heap.size w0 wb):=bth BA.out hb;clear hb s0 s1 s2 s3;have pq:=L0.out wb BB.out;have s0:=pq.cell (i:=0) rfl;have s1:=pq.cell (i:=1) rfl;have s2:=pq.cell (i:=2) rfl;have s3:=pq.cell (i:=3) rfl;clear pq;go_wp2_with fail
   refine(HF.out _).mono ?_;rintro e wv ⟨rfl,rfl⟩;go_wp2_with fail
   go_ret;exact⟨rfl,bth B0.out BB.out⟩
 ·obtain rfl:mb=false:=by rw [hm2]; exact decide_eq_false hx
  have h2:x=2:=by
   rcases h with ⟨_,_,_,e⟩ | ⟨_,_,_,e⟩
   ·exact absurd e hx
   ·exact e
  obtain rfl:E=2:=by unfold erK at hE; rw [erR_two h2] at hE; exact hE.symm
  clear hr hmb hm2 h hE;go_enter Tryz.func95,Tryz.ntmps95
  go_wp2_with fail
  rw [<- hw0];clear hw0;refine(HM.out _).mono ?_;rintro e wa ⟨rfl,ha⟩;have BA:Hid (Below w0.heap.size w0 wa):=ha;clear ha;have pq:=L0.out wa BA.out;have s0:=pq.cell (i:=0) rfl;have s1:=pq.cell (i:=1) rfl;have s2:=pq.cell (i:=2) rfl;have s3:=pq.cell (i:=3) rfl;clear pq;go_wp2_with fail
  go_ret;exact⟨rfl,bth B0.out BA.out⟩
end Go.Proofs.YtemlojjkokooeaaGreat
