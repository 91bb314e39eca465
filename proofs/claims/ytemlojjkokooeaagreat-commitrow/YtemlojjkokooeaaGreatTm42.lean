import Derived.Test.YtemlojjkokooeaaGreatTm41
open Go.IntKind renaming i64->J
open Go.Value renaming int->O,slice->I,tuple->jd,agg->jg,bool->jh
open Go.Proofs.Tryz renaming prog->Y
open Option renaming some->Z,none->H
open Go renaming World->U,Value->S,Addr->ja,Calls->jb
open Go.RowKit renaming Below->X,Hid->G
open Go.Ending renaming returned->T
open Bool renaming false->R,true->jc
open Nat renaming le_refl->je
open Go.RowKit.Below renaming refl->jf
open Go.Obj renaming cells->ji
set_option maxHeartbeats 16000000
set_option maxRecDepth 100000
namespace Go.Proofs.YtemlojjkokooeaaGreat.Cn
open Go.RowKit Go.Maps Go.ChangeShapes Go.Sort Go.Shelf
def ow (a b:Int):Int:=if a<b then -1 else if b<a then 1 else 0
theorem uq(a:Int)(w:U):jb Y 316 #[O J a] w fun e w'=>e=T (jh R)/\w'=w:=by
 have h:(a != a)=R:=zi;go_enter Tryz.func316,Tryz.ntmps316
 go_wp2;go_ret;exact⟨rfl,rfl⟩
theorem oK(a b:Int)(w:U):jb Y 346 #[O J a,O J b] w fun e w'=>e=T (O J (ow a b))/\w'=w:=by
 have HN:=fun(x:Int) v=>uq x v;unfold ow;by_cases h:a<b
 ·rw [zk h];go_enter Tryz.func346,Tryz.ntmps346
  go_wp2_with (go_at_call 316;refine(HN _ _).mono ?_;rintro e w' ⟨rfl,g8⟩;obtain rfl:=g8.symm)
  go_ret;exact⟨rfl,rfl⟩
 ·rw [zl h];by_cases g:b<a
  ·rw [zk g];go_enter Tryz.func346,Tryz.ntmps346
   go_wp2_with (go_at_call 316;refine(HN _ _).mono ?_;rintro e w' ⟨rfl,g8⟩;obtain rfl:=g8.symm)
   go_ret;exact⟨rfl,rfl⟩
  ·rw [zl g];go_enter Tryz.func346,Tryz.ntmps346
   go_wp2_with (go_at_call 316;refine(HN _ _).mono ?_;rintro e w' ⟨rfl,g8⟩;obtain rfl:=g8.symm)
   go_ret;exact⟨rfl,rfl⟩
theorem uE(x y:Tly)(W:U):jb Y 345 #[jg #[O J x.1,I x.2.1 x.2.2.1 x.2.2.2],jg #[O J y.1,I y.2.1 y.2.2.1 y.2.2.2]] W fun e w'=>e=T (O J (ow y.1 x.1))/\∃ q Xr,w'=grow (W.drewN q) Xr:=by
 have GY:=fun W'=>oK y.1 x.1 W';generalize ow y.1 x.1=r at GY ⊢
 go_enter Tryz.func345,Tryz.ntmps345
 go_wp2_with (go_at_call 346;refine(GY _).mono ?_;rintro e w' ⟨rfl,g8⟩;obtain rfl:=g8.symm)
 go_ret;exact⟨rfl,0,_,by rw [alloc_eq_grow,alloc_eq_grow,grow_grow];rfl⟩
theorem ltT(x y:Tly):ltOf (fun x y:Tly=>ow y.1 x.1) x y=decide (y.1<x.1):=by
 unfold ltOf ow;by_cases h1:y.1<x.1
 ·simp [h1]
 ·by_cases h2:x.1<y.1 <;> simp [h1,h2]
theorem swoT:SWO (ltOf fun x y:Tly=>ow y.1 x.1) where
 irrefl x:=by rw [ltT];simp
 trans x y z h1 h2:=by rw [ltT] at *;simp at *;omega
 ntrans x y z h1 h2:=by rw [ltT] at *;simp at *;omega
theorem ve(w:U)(B g b8:Nat)(ts:List Tly)(h:w.ownsRow B 212 2 (I (Z ⟨g,0,H⟩) ts.length b8) ts.length (tF ts))(hn:ts.length<=100):
  jb Y 344 #[I (Z ⟨g,0,H⟩) ts.length b8,.func (.func 345) #[] #[]] w fun e w'=>e=T (jd #[])/\∃ Lg,Lg.Perm ts/\Lg.Pairwise (fun a b=>b.1<=a.1)/\w'.ownsRow B 212 2 (I (Z ⟨g,0,H⟩) ts.length b8) ts.length (tF Lg)/\Only (fun b=>b=g) w w':=by
 have eg:∀ args w,(callFunc 345 args).run Y w=.ok (.enter 345 args) w:=enters_of Tryz.func345 zh rfl;have hlt:=(World.ownsRow.lt h g rfl).2;have GY:=AnyQ.slices_SortFunc Dj 2 Tryz.isAgg212 Tryz.sizeOf212 gJ (fun _=>rfl) (fun x v hv=>by simp [gJ] at hv;rcases hv with rfl | rfl <;> rfl) (fun x y:Tly=>ow y.1 x.1) swoT 345 #[] g 0 b8 ts.toArray w eg (fun _ _ _ _ x y=>uE x y _) (ru h rfl) hlt zj
 change jb Y 344 _ _ _ at GY
 refine GY.mono ?_;rintro e w' ⟨rfl,d',n,os,hp,hs,rfl⟩;have xJ:d'.size=ts.length:=by have:=hp.1;simpa using this
 obtain⟨h1,h2⟩:=re (m:=n) (os:=os) h xJ;refine⟨rfl,d'.toList,?_,?_,h1,h2⟩
 ·have:=hp.2.2;rw [show ts.toArray.size=ts.length by simp] at this;have e1:d'.extract 0 ts.length=d':=by rw [<- xJ];simp
  have e2:ts.toArray.extract 0 ts.length=ts.toArray:=by rw [show ts.length=ts.toArray.size by simp];simp
  rw [e1,e2] at this
  simpa using this
 ·rw [List.pairwise_iff_getElem];intro i j hi hj L6;have O8:i<d'.size:=by simpa using hi
  have Np:j<d'.size:=by simpa using hj
  have:=hs i j (Nat.zero_le _) L6 zj;rw [ltT,getElem!_pos d' i O8,getElem!_pos d' j Np] at this;have h3:=of_decide_eq_false this;simp only [Array.getElem_toList];omega
structure Tal (B:Nat) (w:World) (a:Option Addr) (b8:Nat) (ts:List Tly) (f:Int->List Int):Prop where
  row:w.ownsRow B 212 2 (.slice a ts.length b8) ts.length (tF ts)
  cel:∀ t,t ∈ ts->w.ownsInts B 3 .i64 (sv t.2) (f t.1)
  far:ts.Pairwise (fun s t=>(sv s.2).ownBlock ≠ (sv t.2).ownBlock)
theorem tq(w:U)(x y:S)(t:TypeId):∀ j u,[x,y][j]? = Z u->(w.alloc (ji #[x,y] t)).cell? ((⟨w.heap.size,0,H⟩:ja).add j)=Z u:=by
 intro j u hj
 match j,hj with
 | 0,hj =>
  simp at hj;subst hj;simp [Addr.add]
 | 1,hj =>
  simp at hj;subst hj;simp [Addr.add]
theorem Aq:(Tryz.prog.info? 212).map (fun i=>(i.zero,i.size,i.bytes))=Z (Z (jg #[O J 0,I H 0 0]),2,32):=zh
theorem invK3(key:S)(kl:Lit)(h:keyOf Y 3 key=Z kl):∃ x,key=Value.int J x:=by
 obtain⟨x,h1,_⟩:=Maps.keyOf_int_inv Tryz.underlying3 h;exact⟨x,h1⟩
theorem invVT(v:S)(y:DataW S × List MemPlace)(h:fL v=Z y):∃ c,v=sv c:=by
 obtain⟨c,h1,_⟩:=nF h;exact⟨c,h1⟩
theorem uX{w w':U}{B r:Nat}{e:TypeId}{sz n:Nat}{v:S}{xs:List S}(h:w.ownsRow B e sz v n xs)(hg:w.grownBy w' (Z r))(hr:r<B):w'.ownsRow B e sz v n xs :=
 h.kept hg (by
  cases hv:v.ownBlock with
  | none=>exact .inl rfl
  | some g=>exact .inr (fun e=>by have:=(h.lt g hv).1;cases e;omega))
theorem ez{w:U}{B B':Nat}{e:TypeId}{sz n:Nat}{v:S}{xs:List S}(h:w.ownsRow B e sz v n xs)(hb:B'<=B):w.ownsRow B' e sz v n xs:=by
 rcases h with ⟨h1,h2 | ⟨g,cp,jw,h2,h3,h4⟩⟩
 ·exact⟨h1,.inl h2⟩
 ·exact⟨h1,.inr ⟨g,cp,jw,h2,za,h4⟩⟩
theorem mW{w:U}{B r:Nat}{e:TypeId}{sz n:Nat}{v:S}{xs:List S}(h:w.ownsRow B e sz v n xs)(hr:r<B):Z r ≠ v.ownBlock:=fun e=>by
 have:=(h.lt r e.symm).1;omega
theorem iE{w:U}{B:Nat}{e:TypeId}{sz n:Nat}{v:S}{xs:List S}(h:w.ownsRow B e sz v n xs):∃ a b8,v=I a n b8:=by
 rcases h.2 with ⟨h2,h3⟩ | ⟨g,cp,jw,h2,_⟩
 ·exact⟨H,0,by rw [h2,h3]⟩
 ·exact⟨_,cp,h2⟩
theorem rI(w:U)(base b m:Nat)(D:DataW Unit)(f:Int->List Int)(h:w.ownsGroups Y 3 base 3 .i64 b m D)(hg:GD D f)(hf:∀ x,f x ≠ []->0<=x/\x<=1073741824)(hm:m<=32)(hb:base<=w.heap.size):
  jb Y 331 #[.map (Z b)] w fun e w'=>∃ a b8 ts,e=.returned (.slice a (ts.length:Nat) b8)/\Tal base w' a b8 ts f/\(ts.map (fun t=>t.1)).Pairwise (fun x y=>y<x)/\(∀ x,x ∈ ts.map (fun t=>t.1) ↔ x ≠ 0/\f x ≠ [])/\X w.heap.size w w':=by
 obtain⟨D',V,em,Ns,jx,Nt⟩:=pU h hg hf;have Kq:=vV em;have Mu:=em.lt;have HG:G (∀ x:Int,x ≠ 0->f x ≠ []->w.ownsInts base 3 .i64 (sv (V x)) (f x)):=fun x a b=>(jx x a b).2;have HA:G (∀ x:Int,x ≠ 0->f x ≠ []->∀ zd,D'.atKey (.int .i64 x) zd=.held (sv (V x))):=fun x a b=>(jx x a b).1;have HH:=am Ns;have HF:=am Nt;have Fb:=am hf;clear jx Ns Nt hf h hg;obtain⟨i0,hi,hz0,yb,yP⟩:=info_parts Aq;go_enter Tryz.func331,Tryz.ntmps331
 go_wp2_with (first
  | (at_range;refine wpList_range_own _ rfl _ 373 rfl 3 27 law3 Tryz.underlying373 _ b m _ rfl em ?_;intro w0 Kr Rj hs0)
  | go_in)
 go_frame
 clear hs0;go_loopw [3] (fun y wr=>∃(left:Lit->Bool) (cnt:Nat) (a:Option ja) (b8:Nat) (ts:List Tly),y=.slice a ts.length b8/\wr.ranges Y 3 fL b w.heap.size m D' left cnt/\ts.length+cnt<=32/\G (wr.ownsRow (w.heap.size+1) 212 2 (.slice a ts.length b8) ts.length (tF ts))/\G (∀ t,t ∈ ts->t.2=V t.1/\t.1 ≠ 0/\f t.1 ≠ [])/\G (∀ x:Int,left (.int .i64 x)=jc->Maps.has D' (.int .i64 x)=jc)/\G (∀ x:Int,x ∈ ts.map (fun t=>t.1)->left (.int .i64 x)=R)/\G (∀ x:Int,Maps.has D' (.int .i64 x)=jc->left (.int .i64 x)=R->x ∈ ts.map (fun t=>t.1))/\G ((ts.map (fun t=>t.1)).Nodup)/\G (X w.heap.size w wr)) (fun _ wr=>wr.rangeLeft b w.heap.size)
 case atStart =>
  exact⟨_,_,H,0,[],rfl,Kr,zj,World.ownsRow_nil _ _ _ _,fun t ht=>absurd ht zi,fun x hx=>hx,(fun x hx=>absurd hx zi),(fun x hx hl=>absurd (hx.symm.trans hl) zi),List.Pairwise.nil,(jf _ w).grown Rj (je _) (fun j hj=>by cases hj)⟩
 case round =>
  obtain⟨left,cnt,a,b8,ts,rfl,O0,kY,jA,yn,Uo,Lh,J7,Iz,jB⟩:=hrel;go_wp2_with (first
   | (at_next;refine wpList_next_ranges _ rfl _ rfl 3 law3 fL (Value.int .i64) sv invK3 invVT b w.heap.size m _ _ _ rfl O0 ?_ ?_)
   | go_in)
  ·intro Ff yE;have HM:G (∀ x:Int,x ∈ ts.map (fun t=>t.1) ↔ x ≠ 0/\f x ≠ []):=fun x=>by
    constructor
    ·intro hx;obtain⟨t,ht,rfl⟩:=List.mem_map.1 hx;exact(yn.out t ht).2
    ·rintro⟨x0,x1⟩;exact J7.out x (has_true_of_atKey (HA.out x x0 x1)) (yE _)
   by_cases hn:ts=[]
   ·subst hn;have hS:=AnyF.slices_SortFunc_none Dj a b8 (.func (.func 345) #[] #[]) wr
    change jb Y 344 _ _ _ at hS
    have Xs:=jA.out;clear em Kq O0 Kr Rj;go_wp2_with (go_at_call 344;refine hS.mono ?_;rintro e w' ⟨rfl,g8⟩;obtain rfl:=g8.symm)
    go_ret;exact⟨a,b8,[],rfl,⟨ez Xs za,fun t ht=>absurd ht zi,List.Pairwise.nil⟩,List.Pairwise.nil,HM.out,jB.out⟩
   ·have hp:0<ts.length:=List.length_pos_iff.2 hn;obtain⟨g,rfl,OK⟩:∃ g,a=Z ⟨g,0,H⟩/\w.heap.size+1<=g:=by
     rcases jA.out.2 with ⟨_,h2⟩ | ⟨g,cp,jw,h2,h3,_⟩
     ·omega
     ·simp only [Value.slice.injEq] at h2;exact⟨g,h2.1,h3⟩
    have hS:=ve wr (w.heap.size+1) g b8 ts jA.out za;have HN:G (ts.length=ts.length):=rfl;clear em Kq O0 Kr Rj;go_wp2_with (go_at_call 344;refine hS.mono ?_;rintro e w' ⟨rfl,Lg,Ho,Xt,PE,Hx⟩)
    go_ret;have Nu:X w.heap.size w w':=jB.out.trans (Hx.below (fun i hi=>by omega) jB.out.size);have xu:=Ho.map (fun t:Tly=>t.1);have f9:Lg.Pairwise (fun s t=>s.1 ≠ t.1):=List.pairwise_map.1 (xu.nodup_iff.2 Iz.out);refine⟨Z ⟨g,0,H⟩,b8,Lg,by rw [Ho.length_eq];rfl,⟨?_,fun t ht=>?_,?_⟩,?_,fun x=>?_,Nu⟩
    ·rw [Ho.length_eq];exact ez PE za
    ·obtain⟨h1,h2,h3⟩:=yn.out t (Ho.subset ht);rw [h1];exact bh (HG.out t.1 h2 h3) Nu
    ·refine f9.imp_of_mem ?_;intro s t hs ht hst;obtain⟨h1,h2,h3⟩:=yn.out s (Ho.subset hs);obtain⟨k1,k2,k3⟩:=yn.out t (Ho.subset ht);rw [h1,k1];exact HF.out s.1 t.1 h2 k2 h3 k3 hst
    ·exact List.pairwise_map.2 ((Xt.and f9).imp fun {s t} h=>by have:=h.1;have:=h.2;omega)
    ·rw [<- HM.out x];exact xu.mem_iff
  ·intro x ca cn cc kl y1 y2 w1 Rl lm Up hv jx Nv hlt kU xW Fh;obtain⟨x',nl,rfl,xL⟩:=Maps.keyOf_int_inv Tryz.underlying3 lm;obtain rfl:x=x':=by cases nl;rfl
   obtain⟨x0,x1⟩:=HH.out x (Uo.out x Up);obtain⟨c',hc',hy⟩:=nF hv;have yz:sv (ca,cn,cc)=sv (V x):=by
    have h1:=(jx .nil).symm.trans (HA.out x x0 x1 .nil);simp only [Prod.mk.injEq] at hy;rw [hy.1] at h1
    simpa using h1
   have HC:G (V x=(ca,cn,cc)):=by
    show V x=_;unfold sv at yz;simp only [Value.slice.injEq] at yz;rw [yz.1,yz.2.1,yz.2.2]
   simp only [sv] at Fh ⊢;have Fi:=uX jA.out kU (Nat.lt_succ_self _);have HK:G (X w.heap.size w w1):=jB.out.grown kU jB.out.size (fun j hj=>by cases hj;exact je _);have ip:=am xW;clear hv jx lm yz nl hc' hy xW;go_wp2_with (first
    | (at_builtin;refine wpList_append_own_at _ rfl _ _ 209 rfl (w.heap.size+1) 212 i0 (.agg #[.int .i64 0,.slice H 0 0]) 2 32 Tryz.underlying209 hi hz0 yb yP rfl zb _ _ _ rfl (Fi.alloc _) ⟨w1.heap.size,0,H⟩ 1 1 [.int .i64 x,.slice ca cn cc] rfl rfl (tq _ _ _ _) (by simp [Value.oneCell']) (by unfold maxLen;omega) za (by have:=Nv.lt;simp;omega) ?_;intro v' w2 jF kw xE In)
    | go_in)
   obtain⟨a2,jK,rfl⟩:=iE jF;have Nw:=(Nv.alloc (.cells #[.int .i64 x,.slice ca cn cc] 212)).kept kw (mW Fi za) (mW Fi za);have Jr:¬ x ∈ ts.map (fun t=>t.1):=fun hx=>by have:=Lh.out x hx;rw [Up] at this;cases this
   have Nx:(Lit.int .i64 x).sameKey (Lit.int .i64 x)=jc:=by simp [Lit.sameKey]
   go_roundw
   case rel =>
    refine⟨_,Rl,a2,jK,ts ++ [(x,ca,cn,cc)],zi,Nw,zj,?_,fun t ht=>?_,fun z hz=>?_,fun z hz=>?_,fun z hz hl=>?_,?_,?_⟩
    ·show World.ownsRow _ _ _ _ _ _ _;rw [List.length_append,fY];exact jF
    ·rcases List.mem_append.1 ht with ht | ht
     ·exact yn.out t ht
     ·obtain rfl:t=(x,ca,cn,cc):=by simpa using ht
      exact⟨HC.out.symm,x0,x1⟩
    ·simp only [Bool.and_eq_true] at hz;exact Uo.out z hz.1
    ·rw [List.map_append] at hz;rcases List.mem_append.1 hz with hz | hz
     ·show (left _ && _)=R;rw [Lh.out z hz];rfl
     ·obtain rfl:z=x:=by simpa using hz
      show (left _ && !_)=R;rw [Nx];simp
    ·rw [List.map_append];by_cases e:z=x
     ·exact List.mem_append.2 (.inr (by simp [e]))
     ·refine List.mem_append.2 (.inl (J7.out z hz ?_));have:(left (.int .i64 z) && !(Lit.int .i64 z).sameKey (.int .i64 x))=R:=hl;rw [sameKey_ne (mX e)] at this
      simpa using this
    ·show (List.map _ _).Nodup;rw [List.map_append,List.nodup_append];refine⟨Iz.out,zi,fun p hp q hq=>?_⟩;obtain rfl:q=x:=by simpa using hq
     exact fun e=>Jr (e ▸ hp)
    ·exact(aa HK.out _).grown kw (by simp;have:=HK.out.size;omega) (fun j hj=>by have:=(Fi.lt j hj).1;omega)
   case measure=>rw [Nw.left_eq,O0.left_eq];exact hlt
theorem Tal.mono{B B':Nat}{w:U}{a:Option ja}{b8:Nat}{ts:List Tly}{f:Int->List Int}(h:Tal B w a b8 ts f)(hb:B'<=B):Tal B' w a b8 ts f:=⟨ez h.row hb,fun t ht=>⟨ez (h.cel t ht).1 hb,(h.cel t ht).2⟩,h.far⟩
theorem Tal.below{B:Nat}{w w':U}{a:Option ja}{b8:Nat}{ts:List Tly}{f:Int->List Int}(h:Tal B w a b8 ts f)(hb:b7 w w'):Tal B w' a b8 ts f:=⟨eX h.row hb,fun t ht=>bh (h.cel t ht) hb,h.far⟩
theorem sI(B:Nat)(w:U)(f:Int->List Int):Tal B w H 0 [] f:=⟨World.ownsRow_nil _ _ _ _,fun t ht=>absurd ht zi,List.Pairwise.nil⟩
theorem Tal.at_{B:Nat}{w:U}{a:Option ja}{b8:Nat}{ts:List Tly}{f:Int->List Int}(h:Tal B w a b8 ts f)(hn:0<ts.length):∃ g,a=Z ⟨g,0,H⟩/\B<=g/\g<w.heap.size:=by
 rcases h.row.2 with ⟨_,h2⟩ | ⟨g,cp,jw,h2,h3,h4,_⟩
 ·omega
 ·simp only [Value.slice.injEq] at h2;exact⟨g,h2.1,h3,(Array.getElem?_eq_some_iff.1 h4).1⟩
theorem Tal.c0{B:Nat}{w:U}{g b8:Nat}{ts:List Tly}{f:Int->List Int}(h:Tal B w (Z ⟨g,0,H⟩) b8 ts f){i:Nat}{t:Tly}(hi:ts[i]? = Z t):w.cell? ⟨g,i*2,H⟩=Z (O J t.1):=by
 have hl:=(List.getElem?_eq_some_iff.1 hi).1;rw [World.ownsRow.cellAt h.row (i*2) za,tF_0 hi]
theorem Tal.c1{B:Nat}{w:U}{g b8:Nat}{ts:List Tly}{f:Int->List Int}(h:Tal B w (Z ⟨g,0,H⟩) b8 ts f){i:Nat}{t:Tly}(hi:ts[i]? = Z t):w.cell? ⟨g,i*2+1,H⟩=Z (I t.2.1 t.2.2.1 t.2.2.2):=by
 have hl:=(List.getElem?_eq_some_iff.1 hi).1;rw [World.ownsRow.cellAt h.row (i*2+1) za,tF_1 hi]
theorem vT{w:U}{B:Nat}{e:TypeId}{q:IntKind}{a:Option ja}{n b8:Nat}{zs:List Int}(h:w.ownsInts B e q (I a n b8) zs):n=zs.length:=by
 rcases h.1.2 with ⟨h2,h3⟩ | ⟨g,cp,jw,h2,_⟩
 ·simp only [Value.slice.injEq] at h2;omega
 ·simp only [Value.slice.injEq] at h2;exact h2.2.1
theorem Tal.len{B:Nat}{w:U}{a:Option ja}{b8:Nat}{ts:List Tly}{f:Int->List Int}(h:Tal B w a b8 ts f){i:Nat}{t:Tly}(hi:ts[i]? = Z t):t.2.2.1=(f t.1).length:=vT (h.cel t (List.mem_of_getElem? hi))
def AB (w:U) (E:Int) (P Q:Nat->Int) (n:Nat) (e:Ending) (w':U):Prop :=
  ∃ a b8 ts,e=.returned (.tuple #[.slice a (ts.length:Nat) b8,.int .i64 E])/\Tal w.heap.size w' a b8 ts (dv P Q n)/\ts.map (fun t=>t.1)=(if E=0 then tvL P Q n else [])/\b7 w w'
theorem pg{k r c q:Int}{N W:Nat}{x:Int}(h:Par k r c q N W x)(w:U)(ro:Option ja)(rn rc:Nat)(A:Nat->Option ja)(L C:Nat->Nat)(F:Nat->Nat->UInt8)(hr:Rw w ro rn A L C F)(E:Int)(hE:erR x N c rn L=E):
  jb Y 302 #[Pz k r c q,I ro rn rc] w (AB w E (hP N c L F) (hQ N c L F) N):=by
 obtain⟨w0,bi⟩:=jM w k r c q
 have b0:=jt bi
 have HH:=mG h w0 ro rn rc A L C F (hr.below b0) E hE;have qe:=h.le;have HB:G ((∀ i,0<=hP N c L F i/\hP N c L F i<=1073741824)/\(∀ i,0<=hQ N c L F i/\hQ N c L F i<=1073741824)/\∀ i,hQ N c L F i=0\/hQ N c L F i ≠ hP N c L F i):=⟨hP_bd N c L F,hQ_bd N c L F,hPQ N c L F⟩
 unfold AnsH at HH;unfold AB;clear hr hE h;generalize hP N c L F=P at *
 generalize hQ N c L F=Q at *
 by_cases e0:E=0
 ·subst e0;rw [show aK 0 N=N from rfl] at HH;rw [zk rfl];go_enter Tryz.func302,Tryz.ntmps302
  go_wp2_with fail
  rw [<- bi];refine HH.mono ?_;rintro e wa ⟨a,b8,rfl,hh,ha⟩;have BA:=am (ap b0 ha);have HO:=nZ wa a N b8 P Q hh qe (fun i _=>HB.out.1 i) (fun i _=>HB.out.2.1 i) (fun i _=>HB.out.2.2 i);clear hh ha b0 bi HH;go_wp2_with fail
  refine HO.mono ?_;rintro e wb ⟨D,m,rfl,hg,hm,qN,hb⟩;have BB:=am hb;have hlt:wa.heap.size<wb.heap.size:=by
   obtain⟨es,qz,h1,_⟩:=hg;exact(Array.getElem?_eq_some_iff.1 h1).1
  have Mo:∀ x,dv P Q N x ≠ []->0<=x/\x<=1073741824:=fun x hx=>by
   obtain⟨y,hy⟩:=List.exists_mem_of_ne_nil _ hx;obtain⟨d,h1,h2,_⟩:=mem_dl.1 hy;rcases of_decide_eq_true h2 with e | e
   ·rw [<- e];exact HB.out.1 d
   ·rw [<- e];exact HB.out.2.1 d
  have HS:=rI wb (wa.heap.size+1) wa.heap.size m D _ hg qN Mo hm za;clear hg qN Mo hm hb HO;go_wp2_with fail
  refine HS.mono ?_;rintro e wc ⟨a2,jK,ts,rfl,ht,z6,Ny,hc⟩;have HT:G (Tal (wa.heap.size+1) wc a2 jK ts (dv P Q N)/\ts.map (fun t=>t.1)=tvL P Q N/\b7 wb wc):=⟨ht,tj z6 (tvL_fall P Q N) (fun v=>(Ny v).trans mem_tv.symm),hc⟩
  clear ht z6 Ny hc HS;go_wp2_with fail
  go_ret2;exact⟨a2,jK,ts,rfl,HT.out.1.mono (by have:=BA.out.size;omega),HT.out.2.1,ap (ap BA.out BB.out) HT.out.2.2⟩
 ·have hq:(E != 0)=jc:=by simpa using e0
  rw [show aK E N=0 from zl e0] at HH;rw [zl e0];go_enter Tryz.func302,Tryz.ntmps302
  go_wp2_with fail
  rw [<- bi];refine HH.mono ?_;rintro e wa ⟨a,b8,rfl,hh,ha⟩;have BA:=am (ap b0 ha);clear hh ha b0 bi HH;go_wp2_with fail
  go_ret2;exact⟨H,0,[],rfl,sI _ _ _,rfl,BA.out⟩
theorem ry(w:U)(k r c q v:Int)(a:Option ja)(n cp:Nat):
  jb Y 303 #[Pz k r c q,jg #[O J v,I a n cp]] w fun e w'=>e=T (jh (decide (k<=(n:Int))))/\b7 w w':=by
 go_enter Tryz.func303,Tryz.ntmps303
 go_wp2;go_ret;exact⟨rfl,aa (bal _ _) _⟩
theorem tm{p:Int->Bool}{l:List Int}{i:Nat}{v:Int}(h:l[i]? = Z v)(hp:p v=jc):(l.filter p)[((l.take i).filter p).length]? = Z v:=by
 have hi:=(List.getElem?_eq_some_iff.1 h).1;have hv:=(List.getElem?_eq_some_iff.1 h).2;have e:l.take i ++ v :: l.drop (i+1)=l:=by
  have e1:=List.take_append_drop i l;rw [List.drop_eq_getElem_cons hi,hv] at e1;exact e1
 have e2:l.filter p=(l.take i).filter p ++ v :: (l.drop (i+1)).filter p:=by
  rw [<- List.filter_cons_of_pos hp,<- List.filter_append,e]
 rw [e2,List.getElem?_append_right (je _)];simp
theorem lN{p:Int->Bool}{l:List Int}{i:Nat}{v:Int}(h:l[i]? = Z v):((l.take (i+1)).filter p).length=((l.take i).filter p).length+(if p v=jc then 1 else 0):=by
 rw [List.take_add_one,h,List.filter_append,List.length_append];congr 1
 cases hp:p v <;> simp [hp]
def rdv (E:Int) (ws:List Int) (p:Nat):Int:=if E=0 then ws.getD p 0 else 0
def rdb (E:Int) (ws:List Int) (p:Nat):Bool:=decide (E=0/\p<ws.length)
theorem fE{k r c q:Int}{N W:Nat}{x:Int}(h:Par k r c q N W x)(w:U)(ro:Option ja)(rn rc:Nat)(A:Nat->Option ja)(L C:Nat->Nat)(F:Nat->Nat->UInt8)(hr:Rw w ro rn A L C F)(E:Int)(hE:erR x N c rn L=E)(pl:Nat)(EI:pl<=1)(y:Int)(hy:rdv E (wins k (hP N c L F) (hQ N c L F) N) pl=y)(z:Bool)(hz:rdb E (wins k (hP N c L F) (hQ N c L F) N) pl=z):
  jb Y 238 #[Pz k r c q,I ro rn rc,O J (pl:Int)] w fun e w'=>e=T (jd #[O J y,jh z,O J E])/\b7 w w':=by
 obtain⟨w0,bi⟩:=jM w k r c q
 have b0:=jt bi
 have HH:=pg h w0 ro rn rc A L C F (hr.below b0) E hE;unfold AB at HH;have qe:=h.le;clear hr hE h;generalize hP N c L F=P at *
 generalize hQ N c L F=Q at *
 have K2:=fun v t1 t2 t3 t4=>ry v k r c q t1 t2 t3 t4;by_cases e0:E=0
 ·subst e0;rw [zk rfl] at HH;have HY:G (rdv 0 (wins k P Q N) pl=y/\rdb 0 (wins k P Q N) pl=z):=⟨hy,hz⟩
  clear hy hz;go_enter Tryz.func238,Tryz.ntmps238
  go_wp2_with fail
  rw [<- bi];refine HH.mono ?_;rintro e wa ⟨a,b8,ts,rfl,ht,hm,ha⟩;have HT:=am ht;have HM:=am hm;have BA:=am (ap b0 ha);have L0:=am fun v (hv:b7 wa v)=>(ah (jf _ _) bi).below (ap ha hv);have Uq:ts.length<=32:=by
   have h1:=mN P Q N;rw [<- hm,List.length_map] at h1;omega
  clear ht hm ha b0 bi HH;go_wp2_with fail
  go_loopw [2,24] (fun p y wr=>∃ i q:Nat,i<=ts.length/\y=O J (i:Int)/\p=O J (q:Int)/\q<=1/\G (q+(((tvL P Q N).take i).filter (enB k P Q N)).length=pl)/\G (b7 wa wr)) (fun _ y _=>ts.length-(intOf y).toNat)
  case atStart=>exact⟨0,pl,Nat.zero_le _,rfl,rfl,EI,(by show pl+_=pl;simp),jf _ _⟩
  case round =>
   obtain⟨i,q,hi,rfl,rfl,Gq,hq,jB⟩:=hrel;by_cases hlt:i<ts.length
   ·obtain⟨g,rfl,_,_⟩:=HT.out.at_ za;obtain⟨t,FY⟩:∃ t,ts[i]? = Z t:=⟨_,List.getElem?_eq_getElem hlt⟩
    have hv:(tvL P Q N)[i]? = Z t.1:=by rw [<- HM.out,List.getElem?_map,FY];rfl
    have hl:=HT.out.len FY;have c0:wr.cell? ⟨g,i*2,H⟩=Z (O J t.1):=held (HT.out.c0 FY) jB.out;have c1:wr.cell? ⟨g,i*2+1,H⟩=Z (I t.2.1 t.2.2.1 t.2.2.2):=held (HT.out.c1 FY) jB.out;have i1:(0:Int)<=(i:Int):=za;have i2:(i:Int)<(ts.length:Int):=za;obtain⟨t0,ta,tn,tc⟩:=t;simp only at c0 c1 hl hv;obtain⟨wd,jN⟩:=fd (wr.alloc (ji #[O J t0,I ta tn tc] 212))
    have BD:G (b7 wa wd):=by show X _ _ _;rw [jN];exact aa jB.out _
    have LD:=am fun v (hv:b7 wd v)=>(ah (ap BA.out jB.out) jN).below hv;have pq:=L0.out wr jB.out;have s0:=fun o=>(pq.alloc o).cz 0;have s1:=fun o=>(pq.alloc o).cz 1;have s2:=fun o=>(pq.alloc o).cz 2;have s3:=fun o=>(pq.alloc o).cz 3;clear pq;have Fh:decide (k<=(tn:Int))=enB k P Q N t0:=by unfold enB ct;rw [<- hl]
    have HV:=am hv;have HI:=am FY;clear hl hv FY;cases hb:enB k P Q N t0
    ·rw [hb] at Fh;have HX:=K2 wd t0 ta tn tc;rw [Fh] at HX;clear Fh;go_wp2_with fail
     rw [<- jN];clear jN c0 c1;refine HX.mono ?_;rintro e we ⟨rfl,Fq⟩;have BE:=am Fq;clear Fq s0 s1 s2 s3 HX;go_wp2_with fail
     go_roundw
     case rel =>
      refine⟨i+1,q,za,by go_num,rfl,Gq,?_,ap BD.out BE.out⟩;show q+_=pl;rw [lN HV.out,hb,zl zb];exact hq.out
     case measure=>simp [intOf];omega
    ·rw [hb] at Fh;have HX:=K2 wd t0 ta tn tc;rw [Fh] at HX;clear Fh;by_cases q0:q=0
     ·subst q0;go_wp2_with fail
      rw [<- jN];clear jN c0 c1;refine HX.mono ?_;rintro e we ⟨rfl,Fq⟩;have BE:=am Fq;clear Fq s0 s1 s2 s3 HX;have pq:=LD.out we BE.out;have d0:=pq.cz 0;clear pq;go_wp2_with fail
      refine bodyPost_ret (v:=jd #[O J t0,jh jc,O J 0]) (by simp [results,Tryz.results238,go_sem]) rfl ?_;have hw:(wins k P Q N)[pl]? = Z t0:=by
       rw [<- hq.out,Nat.zero_add];exact tm HV.out hb
      have e1:y=t0:=by
       rw [<- HY.out.1];unfold rdv;rw [zk rfl,List.getD_eq_getElem?_getD,hw];rfl
      have e2:z=jc:=by
       rw [<- HY.out.2];exact zm ⟨rfl,(List.getElem?_eq_some_iff.1 hw).1⟩
      rw [e1,e2];exact⟨rfl,ap (ap BA.out BD.out) BE.out⟩
     ·obtain rfl:q=1:=za;go_wp2_with fail
      rw [<- jN];clear jN c0 c1;refine HX.mono ?_;rintro e we ⟨rfl,Fq⟩;have BE:=am Fq;clear Fq s0 s1 s2 s3 HX;go_wp2_with fail
      go_roundw
      case rel =>
       refine⟨i+1,0,za,by go_num,rfl,za,?_,ap BD.out BE.out⟩;show 0+_=pl;rw [lN HV.out,hb,zk rfl,<- hq.out];omega
      case measure=>simp [intOf];omega
   ·obtain rfl:i=ts.length:=za;go_wp2_with fail
    refine bodyPost_ret (v:=jd #[O J 0,jh R,O J 0]) (by simp [results,Tryz.results238,go_sem]) rfl ?_;have hw:(wins k P Q N).length<=pl:=by
     have:=hq.out;rw [<- HM.out,show ts.length=(ts.map (fun t=>t.1)).length by simp,List.take_length,HM.out] at this;show ((tvL P Q N).filter _).length<=pl;omega
    have e1:y=0:=by
     rw [<- HY.out.1];unfold rdv;rw [zk rfl,List.getD_eq_getElem?_getD,List.getElem?_eq_none hw];rfl
    have e2:z=R:=by
     rw [<- HY.out.2];exact zp fun a=>by have:=a.2;omega
    rw [e1,e2];exact⟨rfl,ap BA.out jB.out⟩
 ·have hq:(E != 0)=jc:=by simpa using e0
  rw [zl e0] at HH;have e1:y=0:=by rw [<- hy];exact zl e0
  have e2:z=R:=by rw [<- hz];exact zp fun a=>e0 a.1
  subst e1 e2;clear hy hz;go_enter Tryz.func238,Tryz.ntmps238
  go_wp2_with fail
  rw [<- bi];refine HH.mono ?_;rintro e wa ⟨a,b8,ts,rfl,ht,hm,ha⟩;have BA:=am (ap b0 ha);clear ht hm ha b0 bi HH;go_wp2_with fail
  refine bodyPost_ret (v:=jd #[O J 0,jh R,O J E]) (by simp [results,Tryz.results238,go_sem]) rfl ?_;exact⟨rfl,BA.out⟩
end Go.Proofs.YtemlojjkokooeaaGreat.Cn
