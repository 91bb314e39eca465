import Derived.Test.YtemlojjkokooeaaGreatTm45
open Go.IntKind renaming i64->J
open Go.Value renaming int->O,slice->Y,tuple->f
open Go.RowKit renaming Below->I,Hid->Z
open Option renaming none->X,some->D
open Go.Proofs.Tryz renaming prog->G
open Go.Ending renaming returned->H
open Go.RowKit.Below renaming refl->S
open Go renaming Calls->R,World->ja,Addr->jb
open Nat renaming zero_le->z,le_refl->o
open Bool renaming true->jd
set_option maxHeartbeats 40000000
set_option maxRecDepth 100000
namespace Go.Proofs.YtemlojjkokooeaaGreat.Cn
open Go.RowKit Go.Maps Go.ChangeShapes
theorem Cz{k r c q:Int}{N W:Nat}{x:Int}(h:Par k r c q N W x):may k r c q=decide (x=0):=by
 rcases h with ⟨h,_,_,e⟩ | ⟨h,_,_,e⟩
 ·rw [h,e];rfl
 ·rw [h,e];rfl
theorem RCheck_any{k r c q:Int}{N W:Nat}{x:Int}(h:Par k r c q N W x)(w:ja)(ro:Option jb)(rn rc:Nat)(A:Nat->Option jb)(L C:Nat->Nat)(F:Nat->Nat->UInt8)(hr:Rw w ro rn A L C F)(E:Int)(hE:erR x N c rn L=E):
  R G 101 #[Pz k r c q,Y ro rn rc] w fun e w'=>e=H (O J E)/\b7 w w':=by
 obtain⟨w0,bi⟩:=jM w k r c q
 have B0:Z (b7 w w0):=by show I _ _ _;rw [bi];exact bal _ _
 have L0:=am fun v (hv:b7 w0 v)=>(ah (S _ _) bi).below hv;have HM:=eP k r c q w0;rw [Cz h] at HM;by_cases hx:x=0
 ·subst hx;rw [show decide ((0:Int)=0)=jd from rfl] at HM;obtain⟨y,hy⟩:=km (decide (rn=N/\∀ j,j<2*rn->L j=0\/L j=sz N c))
  have Uu:=am fun u (hu:b7 w u)=>AW h u ro rn rc A L C F (hr.below hu) y hy;have O1:E=if y=jd then 0 else 120:=by
   rw [<- hE];unfold erR;rw [zk rfl];by_cases g:rn=N/\∀ j,j<2*rn->L j=0\/L j=sz N c
   ·rw [zk g,<- hy,zm g];rfl
   ·rw [zl g,<- hy,zp g];rfl
  clear hr hE hy h;cases y
  ·rw [zl zb] at O1;subst O1;go_enter Tryz.func101,Tryz.ntmps101
   go_wp2_with fail
   rw [<- bi];refine HM.mono ?_;rintro e wa ⟨rfl,ha⟩;have BA:=am ha;have pq:=L0.out wa BA.out;have s0:=pq.cz 0;have s1:=pq.cz 1;have s2:=pq.cz 2;have s3:=pq.cz 3;clear pq ha bi HM;go_wp2_with fail
   refine(Uu.out _ (ap B0.out BA.out)).mono ?_;rintro e wb ⟨rfl,hb⟩;have BB:=am hb;clear hb s0 s1 s2 s3;go_wp2_with fail
   go_ret;exact⟨rfl,ap (ap B0.out BA.out) BB.out⟩
  ·rw [zk rfl] at O1;subst O1;go_enter Tryz.func101,Tryz.ntmps101
   go_wp2_with fail
   rw [<- bi];refine HM.mono ?_;rintro e wa ⟨rfl,ha⟩;have BA:=am ha;have pq:=L0.out wa BA.out;have s0:=pq.cz 0;have s1:=pq.cz 1;have s2:=pq.cz 2;have s3:=pq.cz 3;clear pq ha bi HM;go_wp2_with fail
   refine(Uu.out _ (ap B0.out BA.out)).mono ?_;rintro e wb ⟨rfl,hb⟩;have BB:=am hb;clear hb s0 s1 s2 s3;go_wp2_with fail
   go_ret;exact⟨rfl,ap (ap B0.out BA.out) BB.out⟩
 ·obtain rfl:E=2:=by
   rw [<- hE];unfold erR;rw [zl hx];rcases h.err with e | e
   ·exact absurd e hx
   ·exact e
  rw [zp hx] at HM;clear hr hE h;go_enter Tryz.func101,Tryz.ntmps101
  go_wp2_with fail
  rw [<- bi];refine HM.mono ?_;rintro e wa ⟨rfl,ha⟩;have BA:=am ha;clear ha bi HM;go_wp2_with fail
  go_ret;exact⟨rfl,ap B0.out BA.out⟩
structure Bst (hj:Nat->Int) (xt:Int) (m:Nat) (jL:Int):Prop where
  nn:0<=jL
  at_:jL=0\/(jL<xt/\∃ j,j<m/\hj j=jL)
  max:∀ j,j<m->hj j<xt->hj j<=jL
theorem bst_0(hj:Nat->Int)(xt:Int):Bst hj xt 0 0:=⟨Int.le_refl _,.inl rfl,fun j h=>absurd h za⟩
theorem Bst.take{hj:Nat->Int}{xt:Int}{m:Nat}{jL:Int}(h:Bst hj xt m jL)(h1:hj m<xt)(h2:jL<hj m):Bst hj xt (m+1) (hj m) :=
 ⟨by have:=h.nn;omega,.inr ⟨h1,m,za,rfl⟩,fun j Np ht=>by
  by_cases e:j=m
  ·rw [e];exact Int.le_refl _
  ·have:=h.max j za ht;omega⟩
theorem Bst.pass{hj:Nat->Int}{xt:Int}{m:Nat}{jL:Int}(h:Bst hj xt m jL)(h1:hj m<xt->hj m<=jL):Bst hj xt (m+1) jL :=
 ⟨h.nn,h.at_.imp id (fun⟨a,j,b,c⟩=>⟨a,j,za,c⟩),fun j Np ht=>by
  by_cases e:j=m
  ·rw [e] at ht ⊢;exact h1 ht
  ·exact h.max j za ht⟩
def Top (tv:List Int) (m:Nat) (xt:Int):Prop:=∀ i v,tv[i]? = D v->(v<xt ↔ m<=i)
theorem va{tv:List Int}(hf:tv.Pairwise (fun a b=>b<a)){m:Nat}{v:Int}(h:tv[m]? = D v):Top tv (m+1) v:=fun i u hu=>by
 obtain⟨a1,rfl⟩:=List.getElem?_eq_some_iff.1 h;obtain⟨b1,rfl⟩:=List.getElem?_eq_some_iff.1 hu;rcases Nat.lt_trichotomy i m with e | e | e
 ·have:=List.pairwise_iff_getElem.1 hf i m b1 a1 e;omega
 ·subst e;omega
 ·have:=List.pairwise_iff_getElem.1 hf m i a1 b1 e;omega
theorem Bx{tv:List Int}{hj:Nat->Int}{n m:Nat}{xt jL:Int}(hf:tv.Pairwise (fun a b=>b<a))(hm:∀ v,v ∈ tv ↔ v ≠ 0/\∃ j,j<n/\hj j=v)(hp:∀ v,v ∈ tv->1<=v)(ht:Top tv m xt)(hb:Bst hj xt n jL):(jL=0->tv.length<=m)/\(jL ≠ 0->tv[m]? = D jL):=by
 constructor
 ·intro e;rcases Nat.lt_or_ge m tv.length with hl | hl
  ·exfalso
   have hv:=List.getElem?_eq_getElem hl;have h1:=(ht m _ hv).2 (o _);obtain⟨_,j,h2,h3⟩:=(hm _).1 (List.mem_of_getElem? hv);have h4:=hb.max j h2 (by rw [h3];exact h1);have:=hp _ (List.mem_of_getElem? hv);omega
  ·exact hl
 ·intro e;rcases hb.at_ with h0 | ⟨h1,j,h2,h3⟩
  ·exact absurd h0 e
  ·obtain⟨i,hi,he⟩:=List.getElem_of_mem ((hm jL).2 ⟨e,j,h2,h3⟩);have hv:tv[i]? = D jL:=by rw [List.getElem?_eq_getElem hi,he]
   have h4:=(ht i jL hv).1 h1;by_cases e2:i=m
   ·rw [<- e2];exact hv
   ·exfalso
    have FB:m<tv.length:=za;have K5:=List.getElem?_eq_getElem FB;have h5:=(ht m _ K5).2 (o _);obtain⟨_,j2,h6,h7⟩:=(hm _).1 (List.mem_of_getElem? K5);have h8:=hb.max j2 h6 (by rw [h7];exact h5);have h9:=List.pairwise_iff_getElem.1 hf m i FB hi za;omega
def hjs (N:Nat) (c:Int) (L:Nat->Nat) (F:Nat->Nat->UInt8) (j:Nat):Int:=hs N c (j / 2) (L j) (F j)
theorem hjs_mem{N:Nat}{c:Int}{L:Nat->Nat}{F:Nat->Nat->UInt8}{n:Nat}{v:Int}:v ∈ tvL (hP N c L F) (hQ N c L F) n ↔ v ≠ 0/\∃ j,j<2*n/\hjs N c L F j=v:=by
 rw [mem_tvL];refine and_congr_right fun hv=>?_;constructor
 ·rintro⟨d,h1,h2⟩;rcases (vd N c L F d hv).1 h2 with e | e
  ·exact⟨2*d,za,by unfold hjs;rw [show 2*d / 2=d by omega];exact e⟩
  ·exact⟨2*d+1,za,by unfold hjs;rw [show (2*d+1) / 2=d by omega];exact e⟩
 ·rintro⟨j,h1,h2⟩;refine⟨j / 2,za,(vd N c L F (j / 2) hv).2 ?_⟩;unfold hjs at h2;rcases (show j % 2=0\/j % 2=1 by omega) with e | e
  ·left;unfold hP;rw [show 2*(j / 2)=j by omega];exact h2
  ·right;unfold hR;rw [show 2*(j / 2)+1=j by omega];exact h2
theorem iB{w:ja}{B B' n m:Nat}{u v:Value}{xs ys:List Value}(h:w.ownsRow B 212 2 u n xs)(g:w.ownsRow B' 3 1 v m ys):v.ownBlock=X\/v.ownBlock ≠ u.ownBlock:=by
 rcases g.2 with ⟨e,_⟩ | ⟨g1,c1,k1,e,_,h1,_⟩
 ·left;rw [e];rfl
 ·right
  rcases h.2 with ⟨e2,_⟩ | ⟨g2,c2,k2,e2,_,h2,_⟩
  ·rw [e,e2];simp [Value.ownBlock]
  ·rw [e,e2];simp only [Value.ownBlock,ne_eq,Option.some.injEq];intro e3;rw [e3] at h1;rw [h1] at h2;simp only [Option.some.injEq,Obj.cells.injEq] at h2;exact absurd h2.2.1 zb
def DD:Value->Nat
  | .slice _ n _=>n
  | _=>0
theorem ints_set{w:ja}{B:Nat}{v:Value}{zs:List Int}{g i:Nat}{u:Value}(h:w.ownsInts B 3 J v zs)(hg:g<B):(w.setCell ⟨g,i,X⟩ u).ownsInts B 3 J v zs:=by
 refine⟨?_,h.2⟩;rcases h.1 with ⟨h1,h2 | ⟨g1,cp,jw,h2,h3,h4,h5⟩⟩
 ·exact⟨h1,.inl h2⟩
 ·exact⟨h1,.inr ⟨g1,cp,jw,h2,h3,(heap_setCell_other w ⟨g,i,X⟩ g1 u (fun e=>by simp only at e;omega)).trans h4,h5⟩⟩
theorem mS{k r c q:Int}{N W:Nat}(h:Par k r c q N W 0)(w:ja)(ro:Option jb)(rc:Nat)(A:Nat->Option jb)(L C:Nat->Nat)(F:Nat->Nat->UInt8)(hr:Rw w ro N A L C F)(hL:∀ j,j<2*N->L j<=1000):
  R G 167 #[.agg #[.int .i64 k,.int .i64 r,.int .i64 c,.int .i64 q],.slice ro N rc] w fun e w'=>∃ a b8 ts,e=.returned (.slice a (ts.length:Nat) b8)/\Tal w.heap.size w' a b8 ts (dv (hP N c L F) (hQ N c L F) N)/\ts.map (fun t=>t.1)=tvL (hP N c L F) (hQ N c L F) N/\I w.heap.size w w':=by
 have qe:=h.le;have YO:1<=N:=h.some rfl;have Xw:Z (∀ v j,I w.heap.size w v->j<2*N->R G 240 #[.agg #[.int .i64 k,.int .i64 r,.int .i64 c,.int .i64 q],.slice (A j) (L j) (C j),.int .i64 ((j / 2:Nat):Int)] v fun e w'=>e=.returned (.int .i64 (hjs N c L F j))/\I v.heap.size v w'):=fun v j hv hj=>et h v _ _ _ _ ((hr.bec j hj).below hv) (by have:=hL j hj;omega) (j / 2) _ rfl;have Qr:Z (∀ v b off d x,I w.heap.size w v->ro=D ⟨b,off,X⟩->d<N->x ≠ 0->R G 241 #[.agg #[.int .i64 k,.int .i64 r,.int .i64 c,.int .i64 q],.slice (D ⟨b,off,X⟩) N rc,.int .i64 (d:Int),.int .i64 x] v fun e w'=>e=.returned (.bool (hbv (hP N c L F) (hQ N c L F) x d))/\I v.heap.size v w'):=fun v b off d x hv LV hd hx=>by
  obtain⟨b',qg,e,jI⟩:=hr.at_ za;rw [LV] at e;simp only [Option.some.injEq,Addr.mk.injEq,and_true] at e;obtain⟨rfl,rfl⟩:=e;have:=uH h v b off N rc d hd _ _ _ (F (2*d)) _ _ _ (F (2*d+1)) (held (jI d hd).1 hv) (held (jI d hd).2 hv) ((hr.bec (2*d) za).below hv) ((hr.bec (2*d+1) za).below hv) (hL _ za) (hL _ za) x _ _ rfl rfl;rw [show hbv (hP N c L F) (hQ N c L F) x d=decide (hs N c d (L (2*d)) (F (2*d))=x\/hs N c d (L (2*d+1)) (F (2*d+1))=x) from decide_eq_decide.2 (vd N c L F d hx)];exact this
 have YP:Z (∀ j,0<=hjs N c L F j/\hjs N c L F j<=1073741824):=fun j=>⟨tr _ _ _ _ _,nv _ _ _ _ _⟩
 have ND:Z (∀ v,v ∈ tvL (hP N c L F) (hQ N c L F) N ↔ v ≠ 0/\∃ j,j<2*N/\hjs N c L F j=v):=fun v=>hjs_mem;have Io:Z (∀ v,v ∈ tvL (hP N c L F) (hQ N c L F) N->1<=v/\v<=1073741824):=fun v hv=>by
  obtain⟨h0,j,_,h2⟩:=hjs_mem.1 hv;have h3:0<=hjs N c L F j/\hjs N c L F j<=1073741824:=⟨tr _ _ _ _ _,nv _ _ _ _ _⟩
  omega
 obtain⟨b,off,rfl,jI⟩:=hr.at_ za;have yI:=am jI;obtain⟨w0,bi⟩:=jM w k r c q
 have B0:Z (I w.heap.size w w0):=by show I _ _ _;rw [bi];exact bal _ _
 have HC:Z (∀ v,I w0.heap.size w0 v->v.cell? ⟨w.heap.size,0,X⟩=D (.int .i64 k)/\v.cell? ⟨w.heap.size,1,X⟩=D (.int .i64 r)/\v.cell? ⟨w.heap.size,2,X⟩=D (.int .i64 c)/\v.cell? ⟨w.heap.size,3,X⟩=D (.int .i64 q)):=fun v hv=>by
  have pq:=(ah (S _ w) bi).below hv;exact⟨pq.cz 0,pq.cz 1,pq.cz 2,pq.cz 3⟩
 obtain⟨tv,yn⟩:=fd (tvL (hP N c L F) (hQ N c L F) N)
 have Jj:Z (tv.Pairwise (fun a b=>b<a)):=by show List.Pairwise _ _;rw [yn];exact tvL_fall _ _ _
 have Kq:tv.length<=32:=by rw [yn];have:=mN (hP N c L F) (hQ N c L F) N;omega
 rw [<- yn] at ND Io ⊢;have P5:=am yn;obtain⟨i0,yJ,zZ,M4,xA⟩:=info_parts gy;obtain⟨j0,kE,hb0,ko,jP⟩:=info_parts Aq;clear yn hr h hL jI;generalize hP N c L F=P at *
 generalize hQ N c L F=Q at *
 generalize hjs N c L F=hj at *
 go_enter Tryz.func167,Tryz.ntmps167
 go_wp2_with fail
 rw [<- bi];clear bi;go_loopw [5,6] (fun l t wr=>∃(m:Nat) (a:Option jb) (b8:Nat) (ts:List Tly) (xt:Int),l=.slice a m b8/\t=.int .i64 xt/\m<=tv.length/\Z (m=ts.length)/\Z (ts.map (fun t=>t.1)=tv.take m)/\Z (Top tv m xt)/\Z (Tal w0.heap.size wr a b8 ts (dv P Q N))/\Z (I w0.heap.size w0 wr)) (fun l _ _=>40-DD l)
 case atStart =>
  refine⟨0,X,0,[],1073741825,rfl,rfl,z _,rfl,rfl,fun i v hv=>?_,sI _ _ _,S _ _⟩;have:=(Io.out v (List.mem_of_getElem? hv)).2;constructor
  ·intro _;exact z _
  ·intro _;omega
 case round =>
  obtain⟨m,a,b8,ts,xt,rfl,rfl,hm,It,NE,Rs,Rt,jB⟩:=hrel;obtain⟨wm,rfl⟩:∃ x,x=wr:=⟨wr,rfl⟩
  go_wp2_with fail
  go_loopw [7,8] (fun bv y wr=>∃(i:Nat) (jL:Int),i<=N/\y=.int .i64 (i:Int)/\bv=.int .i64 jL/\Z (Bst hj xt (2*i) jL)/\Z (I wm.heap.size wm wr)) (fun _ y _=>N-(intOf y).toNat)
  case atStart=>exact⟨0,0,z _,rfl,rfl,bst_0 _ _,S _ _⟩
  case round =>
   obtain⟨i,jL,hi,rfl,rfl,NF,GC⟩:=hrel;by_cases hlt:i<N
   ·have i1:(0:Int)<=(i:Int):=za;have i2:(i:Int)<(N:Int):=za;go_wp2_with fail
    go_loopw [7,9] (fun bv y wr=>∃(s:Nat) (jL:Int),s<=2/\y=.int .i64 (s:Int)/\bv=.int .i64 jL/\Z (Bst hj xt (2*i+s) jL)/\Z (I wm.heap.size wm wr)) (fun _ y _=>2-(intOf y).toNat)
    case atStart=>exact⟨0,jL,z _,rfl,rfl,NF.out,GC.out⟩
    case round =>
     obtain⟨s,bes,hs2,rfl,rfl,Ip,yF⟩:=hrel;by_cases hs:s<2
     ·have Ku:=am (ap jB.out yF.out);have hce:w.cell? ⟨b,off+i*2+s,X⟩=D (.slice (A (2*i+s)) (L (2*i+s)) (C (2*i+s))):=by
       rcases (show s=0\/s=1 by omega) with e | e
       ·rw [e];exact(yI.out i hlt).1
       ·rw [e];exact(yI.out i hlt).2
      have hJ:=fun v hv=>Xw.out v (2*i+s) hv za;rw [show (2*i+s) / 2=i by omega] at hJ;obtain⟨aj,Uv⟩:=km (A (2*i+s))
      obtain⟨nj,Uw⟩:=km (L (2*i+s))
      obtain⟨cj,Qc⟩:=km (C (2*i+s))
      obtain⟨u,hu⟩:=km (hj (2*i+s))
      rw [Uv,Uw,Qc] at hce hJ;rw [hu] at hJ;have HU:=am hu;have HJ:Z (∀ v,I wr.heap.size wr v->R G 240 #[.agg #[.int .i64 k,.int .i64 r,.int .i64 c,.int .i64 q],.slice aj nj cj,.int .i64 (i:Int)] v fun e w'=>e=.returned (.int .i64 u)/\I v.heap.size v w'):=fun v hv=>hJ v (ap B0.out (ap Ku.out hv));have CH:Z (∀ v,I wr.heap.size wr v->v.cell? ⟨w.heap.size,0,X⟩=D (.int .i64 k)/\v.cell? ⟨w.heap.size,1,X⟩=D (.int .i64 r)/\v.cell? ⟨w.heap.size,2,X⟩=D (.int .i64 c)/\v.cell? ⟨w.heap.size,3,X⟩=D (.int .i64 q)/\v.cell? ⟨b,off+i*2+s,X⟩=D (.slice aj nj cj)):=fun v hv=>by
       obtain⟨g0,g1,g2,g3⟩:=HC.out v (ap Ku.out hv);exact⟨g0,g1,g2,g3,held hce (ap B0.out (ap Ku.out hv))⟩
      obtain⟨d0,d1,d2,d3,d4⟩:=CH.out wr (S _ _);have k1:(0:Int)<=(s:Int):=za;have k2:(s:Int)<2:=za;clear Uv Uw Qc hu hJ hce;by_cases h1:u<xt
      ·have Xx:decide (u<xt)=jd:=zm h1;by_cases h2:bes<u
       ·have Xy:decide (bes<u)=jd:=zm h2;have HB:Z (Bst hj xt (2*i+(s+1)) u):=by
         have:=Ip.out.take (by rw [HU.out];exact h1) (by rw [HU.out];exact h2);rw [HU.out] at this;exact this
        go_wp2_with fail
        go_region_held3 (fun v=>v.cell? ⟨w.heap.size,0,X⟩=D (.int .i64 k)/\v.cell? ⟨w.heap.size,1,X⟩=D (.int .i64 r)/\v.cell? ⟨w.heap.size,2,X⟩=D (.int .i64 c)/\v.cell? ⟨w.heap.size,3,X⟩=D (.int .i64 q)/\v.cell? ⟨b,off+i*2+s,X⟩=D (.slice aj nj cj)) (go_keep) ((go_at_call 240;refine(HJ.out _ (by first | exact bdw _ _ | exact S _ _)).mono ?_;rintro e wf ⟨rfl,hf⟩;have GT:Z (I wr.heap.size wr wf):=(by first | exact az hf | exact hf);obtain⟨f0,f1,f2,f3,f4⟩:=CH.out wf GT.out;clear hf))
        all_goals (
         go_wp2_with fail
         go_roundw
         case rel=>exact⟨s+1,u,za,by go_num,rfl,HB.out,ap yF.out GT.out⟩
         case measure=>simp [intOf];omega)
       ·have Xy:decide (bes<u)=false:=zp h2;have HB:Z (Bst hj xt (2*i+(s+1)) bes):=Ip.out.pass (fun _=>by rw [HU.out];omega);go_wp2_with fail
        go_region_held3 (fun v=>v.cell? ⟨w.heap.size,0,X⟩=D (.int .i64 k)/\v.cell? ⟨w.heap.size,1,X⟩=D (.int .i64 r)/\v.cell? ⟨w.heap.size,2,X⟩=D (.int .i64 c)/\v.cell? ⟨w.heap.size,3,X⟩=D (.int .i64 q)/\v.cell? ⟨b,off+i*2+s,X⟩=D (.slice aj nj cj)) (go_keep) ((go_at_call 240;refine(HJ.out _ (by first | exact bdw _ _ | exact S _ _)).mono ?_;rintro e wf ⟨rfl,hf⟩;have GT:Z (I wr.heap.size wr wf):=(by first | exact az hf | exact hf);obtain⟨f0,f1,f2,f3,f4⟩:=CH.out wf GT.out;clear hf))
        all_goals (
         go_wp2_with fail
         go_roundw
         case rel=>exact⟨s+1,bes,za,by go_num,rfl,HB.out,ap yF.out GT.out⟩
         case measure=>simp [intOf];omega)
      ·have Xx:decide (u<xt)=false:=zp h1;have HB:Z (Bst hj xt (2*i+(s+1)) bes):=Ip.out.pass (fun g=>by rw [HU.out] at g;exact absurd g h1);go_wp2_with fail
       go_region_held3 (fun v=>v.cell? ⟨w.heap.size,0,X⟩=D (.int .i64 k)/\v.cell? ⟨w.heap.size,1,X⟩=D (.int .i64 r)/\v.cell? ⟨w.heap.size,2,X⟩=D (.int .i64 c)/\v.cell? ⟨w.heap.size,3,X⟩=D (.int .i64 q)/\v.cell? ⟨b,off+i*2+s,X⟩=D (.slice aj nj cj)) (go_keep) ((go_at_call 240;refine(HJ.out _ (by first | exact bdw _ _ | exact S _ _)).mono ?_;rintro e wf ⟨rfl,hf⟩;have GT:Z (I wr.heap.size wr wf):=(by first | exact az hf | exact hf);obtain⟨f0,f1,f2,f3,f4⟩:=CH.out wf GT.out;clear hf))
       all_goals (
        go_wp2_with fail
        go_roundw
        case rel=>exact⟨s+1,bes,za,by go_num,rfl,HB.out,ap yF.out GT.out⟩
        case measure=>simp [intOf];omega)
     ·have k2:¬ (s:Int)<2:=za;have HB:Z (Bst hj xt (2*(i+1)) bes):=by
       have:=Ip.out;rw [show s=2 by omega] at this;exact this
      go_wp2_with fail
      go_roundw
      case rel=>exact⟨i+1,bes,za,by go_num,rfl,HB.out,yF.out⟩
      case measure=>simp [intOf];omega
   ·have i2:¬ (i:Int)<(N:Int):=za;have O2:=Bx Jj.out ND.out (fun v hv=>(Io.out v hv).1) Rs.out (by have:=NF.out;rw [show i=N by omega] at this;exact this);have Ku:=am (ap jB.out GC.out);have FX:Z (Tal w0.heap.size wr a b8 ts (dv P Q N)):=Rt.out.below GC.out;obtain⟨wq,rfl⟩:∃ x,x=wr:=⟨wr,rfl⟩
    by_cases hz:jL=0
    ·have KZ:(jL == 0)=jd:=by simpa using hz
     have FB:=O2.1 hz;clear O2 hz;go_wp2_with fail
     go_ret;refine⟨a,b8,ts,by rw [<- It.out];rfl,?_,?_,ap B0.out Ku.out⟩
     ·exact FX.out.mono B0.out.size
     ·rw [NE.out,List.take_of_length_le FB]
    ·have KZ:(jL == 0)=false:=by simpa using hz
     have hv0:=O2.2 hz;have Ux:=am hv0;have YQ:=Io.out jL (List.mem_of_getElem? hv0);have FB:m<tv.length:=(List.getElem?_eq_some_iff.1 hv0).1;have GI:Z (dl (hbv P Q jL) N ≠ []):=by
      have:=P5.out ▸ List.mem_of_getElem? hv0;exact(mem_tv.1 this).2
     clear O2 hv0;obtain⟨wt,EJ⟩:=fd (wq.alloc (.cells #[.int .i64 jL,.slice X 0 0] 212))
     have Uy:=ks EJ
     have Lj:=am Uy;have Xz:Z (At wq wt wq.heap.size #[.int .i64 jL,.slice X 0 0] 212):=ah (S _ _) EJ;have BT:Z (I wq.heap.size wq wt):=by show I _ _ _;rw [EJ];exact bal _ _
     clear Uy;go_wp2_with fail
     rw [<- EJ];clear EJ;go_loopw [12] (fun y wx=>∃(i:Nat) (ac:Option jb) (nc cc:Nat),i<=N/\y=.int .i64 (i:Int)/\nc<=i/\Z (At wq wx wq.heap.size #[.int .i64 jL,.slice ac nc cc] 212)/\Z (wx.ownsInts wt.heap.size 3 .i64 (.slice ac nc cc) (dl (hbv P Q jL) i))/\Z (I wq.heap.size wq wx)) (fun y _=>N-(intOf y).toNat)
     case atStart=>exact⟨0,X,0,0,z _,rfl,o _,Xz.out,World.ownsInts_nil _ _ _ _,BT.out⟩
     case round =>
      obtain⟨n,ac,nc,cc,Fh,rfl,Um,jx,FO,EH⟩:=hrel;have Hn:=am (ap Ku.out EH.out);by_cases hel:n<N
      ·have e1:(0:Int)<=(n:Int):=za;have e2:(n:Int)<(N:Int):=za;obtain⟨s0,s1,s2,s3⟩:=HC.out wr Hn.out;have Lk:=Qr.out wr b off n jL (ap B0.out Hn.out) (by trivial) hel za;cases hb:hbv P Q jL n
       ·rw [hb] at Lk;go_wp2_with fail
        refine Lk.mono ?_;rintro e wy ⟨rfl,hy⟩;have BY:=am hy;clear hy Lk s0 s1 s2 s3;go_wp2_with fail
        go_roundw
        case rel =>
         refine⟨n+1,ac,nc,cc,za,by go_num,za,jx.out.below BY.out,?_,ap EH.out BY.out⟩;show World.ownsInts _ _ _ _ _ _;rw [dl,hb,zl zb];exact bh FO.out BY.out
        case measure=>simp [intOf];omega
       ·rw [hb] at Lk;go_wp2_with fail
        refine Lk.mono ?_;rintro e wy ⟨rfl,hy⟩;have BY:=am hy;have AY:=jx.out.below hy;have OY:=bh FO.out hy;have d1:=AY.cz 1;have FK:=Eo (hbv P Q jL) n;have Uz:=am (ap EH.out hy);clear hy Lk s0 s1 s2 s3;go_wp2_with (first
         | (at_builtin;refine wpList_append_own_at _ rfl _ _ 27 rfl wt.heap.size 3 i0 (.int .i64 0) 1 8 Tryz.underlying27 yJ zZ M4 xA rfl zb _ _ _ rfl (OY.1.alloc _) ⟨wy.heap.size,0,X⟩ 1 1 [.int .i64 (n:Int)] rfl rfl (cell_one_new _ _ _) (ints_oneCell .i64 [(n:Int)]) (by unfold maxLen;omega) za (by have:=BY.out.size;have:=jx.out.lt;have:=Lj.out;simp;omega) ?_;intro v' w2 jF kw xE In;obtain⟨a3,m7,rfl⟩:=iE jF;have A2:At wq w2 wq.heap.size #[.int .i64 jL,.slice ac nc cc] 212:=⟨AY.1,(kw.block _ (AY.alloc _).lt (mW OY.1 (by have:=Lj.out;omega))).trans (AY.alloc _).2⟩;have m1:=A2.cz 1;have mf:=A2.free)
         | go_in)
        have Fa:=OY.appended jF (WalkArith.wf_i64 za);go_roundw
        case rel =>
         refine⟨n+1,a3,(dl (hbv P Q jL) n).length+1,m7,za,by go_num,za,?_,?_,?_⟩
         ·exact A2.set 1 _
         ·show World.ownsInts _ _ _ _ _ _;rw [dl,hb,zk rfl];exact ints_set Fa (by have:=Lj.out;omega)
         ·exact aH ((aa Uz.out _).grown kw (by have:=Uz.out.size;simp;omega) (fun j hj=>by have:=(OY.1.lt j hj).1;have:=Lj.out;omega)) (o _) _
        case measure=>simp [intOf];omega
      ·have e2:¬ (n:Int)<(N:Int):=za;have hnN:n=N:=za;have Ru:Z (wr.ownsInts wt.heap.size 3 .i64 (.slice ac nc cc) (dl (hbv P Q jL) N)):=by rw [hnN] at FO;exact FO.out
       have d0:=jx.out.cz 0;have d1:=jx.out.cz 1;have O3:Z (Tal w0.heap.size wr a b8 ts (dv P Q N)):=FX.out.below EH.out;have A0:=O3.out.row;rw [<- It.out] at A0;clear hnN;go_wp2_with (first
        | (at_builtin;refine wpList_append_own_at _ rfl _ _ 209 rfl w0.heap.size 212 j0 (.agg #[.int .i64 0,.slice X 0 0]) 2 32 Tryz.underlying209 kE hb0 ko jP rfl zb _ _ _ rfl (A0.alloc _) ⟨wr.heap.size,0,X⟩ 1 1 [.int .i64 jL,.slice ac nc cc] rfl rfl (tq _ _ _ _) (by simp [Value.oneCell']) (by unfold maxLen;omega) za (by have:=Hn.out.size;simp;omega) ?_;intro v' w2 jF kw xE In;obtain⟨a3,m7,rfl⟩:=iE jF)
        | go_in)
       go_roundw
       case rel =>
        refine⟨m+1,a3,m7,ts ++ [(jL,ac,nc,cc)],jL,rfl,rfl,za,?_,?_,va Jj.out Ux.out,?_,?_⟩
        ·show _=_;rw [List.length_append,<- It.out];rfl
        ·show _=_;rw [List.map_append,NE.out,List.take_add_one,Ux.out];rfl
        ·refine⟨?_,fun t ht=>?_,?_⟩
         ·rw [List.length_append,<- It.out,fY];exact jF
         ·rcases List.mem_append.1 ht with ht | ht
          ·exact(O3.out.cel t ht).alloc _ |>.kept kw (iB A0 (O3.out.cel t ht).1)
          ·obtain rfl:t=(jL,ac,nc,cc):=by simpa using ht
           exact tY ((Ru.out.alloc _).kept kw (iB A0 Ru.out.1)) (by have:=Ku.out.size;have:=Lj.out;omega)
         ·refine List.pairwise_append.2 ⟨O3.out.far,List.pairwise_singleton _ _,fun s hs t ht=>?_⟩;obtain rfl:t=(jL,ac,nc,cc):=by simpa using ht
          obtain⟨gg,cg,kU,kx,Rv⟩:=cU Ru.out GI.out;show (sv s.2).ownBlock ≠ (Value.slice ac nc cc).ownBlock;rw [kU];intro XA;have:=((FX.out.cel s hs).1.lt gg XA).2;have:=Lj.out;omega
        ·exact(aa Hn.out _).grown kw (by have:=Hn.out.size;simp;omega) (fun j hj=>(A0.lt j hj).1)
       case measure=>simp [DD];omega
theorem Counts_any{k r c q:Int}{N W:Nat}(h:Par k r c q N W 0)(w:World)(ro:Option Addr)(rc:Nat)(A:Nat->Option Addr)(L C:Nat->Nat)(F:Nat->Nat->UInt8)(hr:Rw w ro N A L C F)(hL:∀ j,j<2*N->L j<=1000)(y0 y1:Int)(qK:(wins k (hP N c L F) (hQ N c L F) N).getD 0 0=y0)(kL:(wins k (hP N c L F) (hQ N c L F) N).getD 1 0=y1):
  Calls Tryz.prog 102 #[.agg #[.int .i64 k,.int .i64 r,.int .i64 c,.int .i64 q],.slice ro N rc] w fun e w'=>e=.returned (.tuple #[.int .i64 y0,.int .i64 y1])/\Below w.heap.size w w':=by
 obtain⟨w0,bi⟩:∃ w0,w0=w.alloc (.cells #[.int .i64 k,.int .i64 r,.int .i64 c,.int .i64 q] 23):=⟨_,rfl⟩
 have b0:Below w.heap.size w w0:=by rw [bi];exact bal _ _
 have HH:=mS h w0 ro rc A L C F (hr.below b0) hL;have qe:=h.le;have HW:Hid (Who (enB k (hP N c L F) (hQ N c L F) N) (tvL (hP N c L F) (hQ N c L F) N) (wins k (hP N c L F) (hQ N c L F) N) (lost k (hP N c L F) (hQ N c L F) N)):=BV k _ _ N (fun i=>(hP_bd N c L F i).1) (fun i=>(hQ_bd N c L F i).1);have HY:Hid ((wins k (hP N c L F) (hQ N c L F) N).getD 0 0=y0/\(wins k (hP N c L F) (hQ N c L F) N).getD 1 0=y1):=⟨qK,kL⟩
 clear hr h hL qK kL;generalize hP N c L F=P at *
 generalize hQ N c L F=Q at *
 obtain⟨ws,qA⟩:∃ ws,ws=wins k P Q N:=⟨_,rfl⟩
 rw [<- qA] at HW HY;have Rx:Hid (ws=(tvL P Q N).filter (enB k P Q N)):=qA;clear qA;go_enter Tryz.func102,Tryz.ntmps102
 go_wp2_with fail
 rw [<- bi];refine HH.mono ?_;rintro e wa ⟨a,b8,ts,rfl,ht,hm,ha⟩;have HT:Hid (Tal w0.heap.size wa a b8 ts (dv P Q N)):=ht;have HM:Hid (ts.map (fun t=>t.1)=tvL P Q N):=hm;have BA:Hid (Below w.heap.size w wa):=ap b0 ha;have L0:Hid (∀ v,Below wa.heap.size wa v->At w v w.heap.size #[.int .i64 k,.int .i64 r,.int .i64 c,.int .i64 q] 23):=fun v hv=>(ah (Below.refl _ _) bi).below (ap ha hv);have Uq:ts.length<=32:=by
  have h1:=mN P Q N;rw [<- hm,List.length_map] at h1;omega
 clear ht hm ha b0 bi HH;obtain⟨tl,Lh⟩:∃ tl,tl=ts.length:=⟨_,rfl⟩
 have K7:Hid (tl=ts.length):=Lh;rw [<- Lh] at Uq ⊢;clear Lh;go_wp2_with fail
 go_loopw [7,8] (fun v y wr=>∃(i:Nat) (u:Int),i<=tl/\y=.int .i64 (i:Int)/\v=.int .i64 u/\0<=u/\Hid ((u=0/\((tvL P Q N).take i).filter (enB k P Q N)=[])\/(1<=u/\((tvL P Q N).take i).filter (enB k P Q N)=[u]))/\Hid (Below wa.heap.size wa wr)) (fun _ y _=>tl-(intOf y).toNat)
 case atStart=>exact⟨0,0,Nat.zero_le _,rfl,rfl,Int.le_refl _,.inl ⟨rfl,rfl⟩,Below.refl _ _⟩
 case round =>
  obtain⟨i,u,hi,rfl,rfl,zJ,hu,jB⟩:=hrel;by_cases hlt:i<tl
  ·obtain⟨g,rfl,_,_⟩:=HT.out.at_ (by have:=K7.out;omega);obtain⟨t,FY⟩:∃ t,ts[i]? = some t:=⟨_,List.getElem?_eq_getElem (by rw [<- K7.out];exact hlt)⟩
   have hv:(tvL P Q N)[i]? = some t.1:=by rw [<- HM.out,List.getElem?_map,FY];rfl
   have hl:=HT.out.len FY;have c0:wr.cell? ⟨g,i*2,none⟩=some (.int .i64 t.1):=held (HT.out.c0 FY) jB.out;have c1:wr.cell? ⟨g,i*2+1,none⟩=some (.slice t.2.1 t.2.2.1 t.2.2.2):=held (HT.out.c1 FY) jB.out;have i1:(0:Int)<=(i:Int):=za;have i2:(i:Int)<(tl:Int):=za;obtain⟨t0,ta,tn,tc⟩:=t;simp only at c0 c1 hl hv;have s0:=(L0.out wr jB.out).cell (i:=0) rfl;have Fh:decide (k<=(tn:Int))=enB k P Q N t0:=by unfold enB ct;rw [<- hl]
   have HV:Hid ((tvL P Q N)[i]? = some t0):=hv;have hbig:=HW.out.big t0 (List.mem_of_getElem? hv);have yI:Hid (∀ v,Below wr.heap.size wr v->v.cell? ⟨g,i*2,none⟩=some (.int .i64 t0)):=fun v hv=>held c0 hv;have UA:Hid (((tvL P Q N).take (i+1)).filter (enB k P Q N)=((tvL P Q N).take i).filter (enB k P Q N) ++ (if enB k P Q N t0=true then [t0] else [])):=by
    show _=_;rw [List.take_add_one,HV.out,List.filter_append];congr 1
    cases he:enB k P Q N t0 <;> simp [he]
   clear hl hv FY;cases hb:enB k P Q N t0
   ·have kf:(tn:Int)<k:=by have:=of_decide_eq_false (Fh.trans hb);omega
    have kd:decide ((tn:Int)<k)=true:=zm kf;clear Fh;go_wp2_with fail
    go_quiet (fail)
    obtain⟨wq,yW⟩:∃ wq,wq=wr.drewN nq:=⟨_,rfl⟩
    have BQ:Hid (Below wa.heap.size wa wq):=by show Below _ _ _;rw [yW];exact ap jB.out (below_drewN _ _ _)
    rw [<- yW];clear yW;go_wp2_with fail
    go_roundw
    case rel =>
     refine⟨i+1,u,za,by go_num,rfl,zJ,?_,BQ.out⟩;show _\/_;rw [UA.out,hb,zl zb,List.append_nil];exact hu.out
    case measure=>simp [intOf];omega
   ·have kf:¬ (tn:Int)<k:=by have:=of_decide_eq_true (Fh.trans hb);omega
    have kd:decide ((tn:Int)<k)=false:=zp kf;clear Fh;by_cases hup:(0:Int)<u
    ·obtain⟨zK,xH⟩:1<=u/\((tvL P Q N).take i).filter (enB k P Q N)=[u]:=by
      rcases hu.out with ⟨e,_⟩ | e
      ·omega
      ·exact e
     have NG:ws=[u] ++ (((tvL P Q N).drop i).filter (enB k P Q N)):=by rw [Rx.out,<- xH,<- List.filter_append,List.take_append_drop]
     have ci:ws[1]? = some t0:=by
      have:=tm HV.out hb;rw [xH] at this;rw [Rx.out];exact this
     obtain rfl:y0=u:=by rw [<- HY.out.1,NG];rfl
     obtain rfl:y1=t0:=by rw [<- HY.out.2,List.getD_eq_getElem?_getD,ci];rfl
     clear NG ci xH zK;go_wp2_with fail
     go_quiet (fail)
     obtain⟨wq,yW⟩:∃ wq,wq=wr.drewN nq:=⟨_,rfl⟩
     have BQ:Hid (Below wr.heap.size wr wq):=by show Below _ _ _;rw [yW];exact below_drewN _ _ _
     rw [<- yW];clear yW c0;have c0:=yI.out wq BQ.out;go_wp2_with fail
     go_quiet (fail)
     obtain⟨wz,zF⟩:∃ wz,wz=wq.drewN nq:=⟨_,rfl⟩
     have BZ:Hid (Below wq.heap.size wq wz):=by show Below _ _ _;rw [zF];exact below_drewN _ _ _
     rw [<- zF];clear zF;go_wp2_with fail
     go_ret2;exact⟨rfl,ap BA.out (ap jB.out (ap BQ.out BZ.out))⟩
    ·have xH:((tvL P Q N).take i).filter (enB k P Q N)=[]:=by
      rcases hu.out with ⟨_,e⟩ | ⟨e,_⟩
      ·exact e
      ·omega
     have XB:Hid (((tvL P Q N).take i).filter (enB k P Q N)=[]):=xH;clear xH;go_wp2_with fail
     go_quiet (fail)
     obtain⟨wq,yW⟩:∃ wq,wq=wr.drewN nq:=⟨_,rfl⟩
     have BQ:Hid (Below wr.heap.size wr wq):=by show Below _ _ _;rw [yW];exact below_drewN _ _ _
     rw [<- yW];clear yW c0;have c0:=yI.out wq BQ.out;go_wp2_with fail
     go_roundw
     case rel =>
      refine⟨i+1,t0,za,by go_num,rfl,za,?_,ap jB.out BQ.out⟩;show _\/_;rw [UA.out,hb,zk rfl,XB.out];exact .inr ⟨hbig,rfl⟩
     case measure=>simp [intOf];omega
  ·have i2:¬ (i:Int)<(tl:Int):=za;have hall:ws=((tvL P Q N).take i).filter (enB k P Q N):=by
    rw [Rx.out,List.take_of_length_le];rw [<- HM.out,List.length_map,<- K7.out];omega
   have Mn:y0=u/\y1=0:=by
    rcases hu.out with ⟨e1,e2⟩ | ⟨e1,e2⟩
    ·rw [e2] at hall;rw [<- HY.out.1,<- HY.out.2,hall];exact⟨e1.symm,rfl⟩
    ·rw [e2] at hall;rw [<- HY.out.1,<- HY.out.2,hall];exact⟨rfl,rfl⟩
   obtain⟨rfl,rfl⟩:=Mn;clear hall;go_wp2_with fail
   go_ret2;exact⟨rfl,ap BA.out jB.out⟩
end Go.Proofs.YtemlojjkokooeaaGreat.Cn
namespace Go.Proofs.YtemlojjkokooeaaGreat
open Go.RowKit
theorem rr{k r c q:Int}{N W:Nat}{x:Int}(h:Par k r c q N W x)(w:ja):
  R G 44 #[Pz k r c q] w fun e w'=>e=H (f #[O J (if x=0 then k else 0),O J x])/\b7 w w':=by
 have HM:=fun v=>eP k r c q v;rw [h.may] at HM;obtain⟨w0,bi⟩:=jM w k r c q
 have B0:Z (b7 w w0):=by show I _ _ _;rw [bi];exact bal _ _
 have kJ:=am fun v (hv:b7 w0 v)=>ak bi hv;obtain⟨x0,x1,x2,x3⟩:=kJ.out w0 (S _ _);rcases h.err with rfl | rfl
 ·rw [show decide ((0:Int)=0)=jd from rfl] at HM;rw [zk rfl];clear h;go_enter Tryz.func44,Tryz.ntmps44
  go_wp2_with fail
  rw [<- bi];clear bi x0 x1 x2 x3;refine(HM _).mono ?_;rintro e wa ⟨rfl,ha⟩;obtain⟨x0,x1,x2,x3⟩:=kJ.out wa ha;go_wp2_with fail
  go_ret2;exact⟨rfl,ap B0.out ha⟩
 ·rw [show decide ((2:Int)=0)=false from rfl] at HM;rw [zl zb];clear h;go_enter Tryz.func44,Tryz.ntmps44
  go_wp2_with fail
  rw [<- bi];clear bi x0 x1 x2 x3;refine(HM _).mono ?_;rintro e wa ⟨rfl,ha⟩;go_wp2_with fail
  go_ret2;exact⟨rfl,ap B0.out ha⟩
theorem vk{k r c q:Int}{N W:Nat}{x:Int}(h:Par k r c q N W x)(w:ja)(ro:Option jb)(rn rc:Nat)(A:Nat->Option jb)(L C:Nat->Nat)(F:Nat->Nat->UInt8)(hr:Rw w ro rn A L C F)(nu:Int)(kD:1<=k\/x ≠ 0)(E:Int)(hE:vL x k c q nu N rn L F=E):
  R G 42 #[.agg #[.int .i64 k,.int .i64 r,.int .i64 c,.int .i64 q],.slice ro rn rc,.int .i64 nu] w (bS w E (Cod.cnt (mis (zv N c L F 2 (wnV k N c L F)) c.toNat) N) N (mis (zv N c L F 2 (wnV k N c L F)) c.toNat) (osl N c L F 2 (rnV k N c L F)) nu (sz N c) (fun i=>enc (slC 2 N (tS (yy N c L F) 2 (wnV k N c L F) (2*N)).V c.toNat (cH k.toNat (zv N c L F 2 (wnV k N c L F)) N i) i))):=by
 obtain⟨E0,kT⟩:=km (erR x N c rn L)
 have HC:Z (∀ v,I w.heap.size w v->R G 101 #[.agg #[.int .i64 k,.int .i64 r,.int .i64 c,.int .i64 q],.slice ro rn rc] v fun e w'=>e=.returned (.int .i64 E0)/\I v.heap.size v w'):=fun v hv=>Cn.RCheck_any h v ro rn rc A L C F (hr.below hv) E0 kT;obtain⟨w0,bi⟩:=jM w k r c q
 have B0:Z (I w.heap.size w w0):=by show I _ _ _;rw [bi];exact bal _ _
 have kJ:Z (∀ v,I w0.heap.size w0 v->v.cell? ⟨w.heap.size,0,X⟩=D (.int .i64 k)/\v.cell? ⟨w.heap.size,1,X⟩=D (.int .i64 r)/\v.cell? ⟨w.heap.size,2,X⟩=D (.int .i64 c)/\v.cell? ⟨w.heap.size,3,X⟩=D (.int .i64 q)):=fun v hv=>ak bi hv;have kI:E ≠ 0->(R G 42 #[.agg #[.int .i64 k,.int .i64 r,.int .i64 c,.int .i64 q],.slice ro rn rc,.int .i64 nu] w fun e w'=>e=.returned (.tuple #[.slice X 0 0,.int .i64 E])/\I w.heap.size w w')->R G 42 #[.agg #[.int .i64 k,.int .i64 r,.int .i64 c,.int .i64 q],.slice ro rn rc,.int .i64 nu] w (bS w E (Cod.cnt (mis (zv N c L F 2 (wnV k N c L F)) c.toNat) N) N (mis (zv N c L F 2 (wnV k N c L F)) c.toNat) (osl N c L F 2 (rnV k N c L F)) nu (sz N c) (fun i=>enc (slC 2 N (tS (yy N c L F) 2 (wnV k N c L F) (2*N)).V c.toNat (cH k.toNat (zv N c L F 2 (wnV k N c L F)) N i) i))):=fun f9 hc=>by
  refine hc.mono ?_;rintro e w' ⟨rfl,hb⟩;exact⟨X,0,fun _=>X,fun _=>0,by rw [aZ _ f9],fun e=>absurd e f9,hb⟩
 unfold vL at hE;rw [kT] at hE;by_cases e0:E0=0
 ·subst e0;rw [zk rfl] at hE;obtain⟨hx,I4,hL⟩:=bW kT;subst hx;subst I4;have GZ:∀ j,j<2*rn->L j<=1000:=fun j hj=>by
   have qe:=h.le;obtain⟨c1,c2⟩:=h.cell rfl;have:sz rn c<=1000:=by unfold sz;omega
   rcases hL j hj with g | g <;> omega
  have HN:Z (∀ v,I w.heap.size w v->R G 102 #[.agg #[.int .i64 k,.int .i64 r,.int .i64 c,.int .i64 q],.slice ro rn rc] v fun e w'=>e=.returned (.tuple #[.int .i64 (wnV k rn c L F),.int .i64 (rnV k rn c L F)])/\I v.heap.size v w'):=fun v hv=>Cn.Counts_any h v ro rc A L C F (hr.below hv) GZ _ _ rfl rfl;have HD:=fun v (hv:I w.heap.size w v) (GP:rnV k rn c L F<=0->_)=>oY h v ro rc A L C F (hr.below hv) hL nu 2 (.inr rfl) (rnV k rn c L F) (wnV k rn c L F) GP;by_cases hok:0<=nu/\nu<q
  ·rw [zk hok] at hE;obtain⟨o1,o2⟩:=hok;have i1:¬ nu<0:=za;have i2:¬ q<=nu:=za;cases hz:wnB k rn c L F with
   | false =>
    have hy:wnV k rn c L F=0:=by
     unfold wnB at hz;have h1:¬ 0<(Cn.wins k (Cn.hP rn c L F) (Cn.hQ rn c L F) rn).length:=of_decide_eq_false hz;unfold wnV;rw [List.getD_eq_getElem?_getD,List.getElem?_eq_none za];rfl
    rw [hz,zl zb] at hE;subst hE;refine kI zb ?_;rw [hy] at HN;obtain⟨rv,Iq⟩:=fd (rnV k rn c L F)
    rw [<- Iq] at HN;clear kI HD hL GZ hr h kT hz hy Iq kD o1 o2;go_enter Tryz.func42,Tryz.ntmps42
    go_wp2_with fail
    rw [<- bi];clear bi;refine(HC.out _ B0.out).mono ?_;rintro e wa ⟨rfl,ha⟩;have HB:=am ha;clear ha HC;obtain⟨x0,x1,x2,x3⟩:=kJ.out wa HB.out;go_wp2_with fail
    refine(HN.out _ (ap B0.out HB.out)).mono ?_;rintro e wb ⟨rfl,hb⟩;have io:=am (ap B0.out (ap HB.out hb));clear hb HN x0 x1 x2 x3;go_wp2_with fail
    go_ret2;exact⟨rfl,io.out⟩
   | true =>
    have FJ:0<(Cn.wins k (Cn.hP rn c L F) (Cn.hQ rn c L F) rn).length:=of_decide_eq_true hz;have xS:1<=k:=by
     rcases kD with a | a
     ·exact a
     ·exact absurd rfl a
    have f9:wnV k rn c L F ≠ 0:=(lh xS FJ (rfl:(Cn.wins k (Cn.hP rn c L F) (Cn.hQ rn c L F) rn).getD 0 0=wnV k rn c L F)).1;rw [hz,zk rfl] at hE;have HE:=fun v hv=>HD v hv (fun g=>lS (.inr rfl) g) E hE;obtain⟨rv,Iq⟩:=fd (rnV k rn c L F)
    obtain⟨wv,K9⟩:=fd (wnV k rn c L F)
    rw [<- Iq,<- K9] at HN HE;rw [<- K9] at f9;unfold bS at HE;have GG:∀(P:ja->Ending->ja->Prop),(∀ v e w',I w.heap.size w v->P v e w'->P w e w')->(∀ v,I w.heap.size w v->R G 88 #[.agg #[.int .i64 k,.int .i64 r,.int .i64 c,.int .i64 q],.slice ro rn rc,.int .i64 nu,.int .u8 2,.int .i64 rv,.int .i64 wv] v fun e w'=>∃ ao n b8,e=.returned (.tuple #[.slice ao n b8,.int .i64 E])/\P v (.returned (.tuple #[.slice ao n b8,.int .i64 E])) w'/\I v.heap.size v w')->R G 42 #[.agg #[.int .i64 k,.int .i64 r,.int .i64 c,.int .i64 q],.slice ro rn rc,.int .i64 nu] w (P w):=fun P hP hM=>by
     have HM:=am hM;have Nz:=am hP;clear hM hP HE HD kI hL GZ hr h kT hz Iq K9 kD o1 o2 FJ hE xS;go_enter Tryz.func42,Tryz.ntmps42
     go_wp2_with fail
     rw [<- bi];clear bi;refine(HC.out _ B0.out).mono ?_;rintro e wa ⟨rfl,ha⟩;have HB:=am ha;clear ha HC;obtain⟨x0,x1,x2,x3⟩:=kJ.out wa HB.out;go_wp2_with fail
     refine(HN.out _ (ap B0.out HB.out)).mono ?_;rintro e wb ⟨rfl,hb⟩;have io:=am (ap HB.out hb);clear hb HN x0 x1 x2 x3;obtain⟨x0,x1,x2,x3⟩:=kJ.out wb io.out;go_wp2_with fail
     refine(HM.out _ (ap B0.out io.out)).mono ?_;rintro e wd ⟨ao,n,b8,rfl,hp,hb⟩;have HR:=Nz.out _ _ _ (ap B0.out io.out) hp;clear hp hb HM x0 x1 x2 x3;go_wp2_with fail
     exact HR
    rw [<- Iq,<- K9];refine GG (fun w=>(bS w E (Cod.cnt (mis (zv rn c L F 2 (wv)) c.toNat) rn) rn (mis (zv rn c L F 2 (wv)) c.toNat) (osl rn c L F 2 (rv)) nu (sz rn c) (fun i=>enc (slC 2 rn (tS (yy rn c L F) 2 (wv) (2*rn)).V c.toNat (cH k.toNat (zv rn c L F 2 (wv)) rn i) i)))) (fun v e w' hv hp=>?_) (fun v hv=>?_)
    ·obtain⟨ao,b8,T,U,rfl,EI,j8⟩:=hp;exact⟨ao,b8,T,U,rfl,fun e=>(EI e).mono hv.size,ap hv j8⟩
    ·refine(HE v hv).mono ?_;rintro e w' ⟨ao,b8,T,U,rfl,EI,j8⟩;exact⟨ao,_,b8,rfl,⟨ao,b8,T,U,rfl,EI,j8⟩,j8⟩
  ·rw [zl hok] at hE;subst hE;refine kI zb ?_;clear kI HD hL GZ hr h kT kD HN;by_cases i1:nu<0
   ·clear hok;go_enter Tryz.func42,Tryz.ntmps42
    go_wp2_with fail
    rw [<- bi];clear bi;refine(HC.out _ B0.out).mono ?_;rintro e wa ⟨rfl,ha⟩;have HB:=am ha;clear ha HC;obtain⟨x0,x1,x2,x3⟩:=kJ.out wa HB.out;go_wp2_with fail
    go_ret2;exact⟨rfl,ap B0.out HB.out⟩
   ·have i2:q<=nu:=za;clear hok;go_enter Tryz.func42,Tryz.ntmps42
    go_wp2_with fail
    rw [<- bi];clear bi;refine(HC.out _ B0.out).mono ?_;rintro e wa ⟨rfl,ha⟩;have HB:=am ha;clear ha HC;obtain⟨x0,x1,x2,x3⟩:=kJ.out wa HB.out;go_wp2_with fail
    go_ret2;exact⟨rfl,ap B0.out HB.out⟩
 ·rw [zl e0] at hE;subst hE;refine kI e0 ?_;clear kI hr h kT kD;go_enter Tryz.func42,Tryz.ntmps42
  go_wp2_with fail
  rw [<- bi];clear bi;refine(HC.out _ B0.out).mono ?_;rintro e wa ⟨rfl,ha⟩;have HB:=am ha;clear ha HC;obtain⟨x0,x1,x2,x3⟩:=kJ.out wa HB.out;go_wp2_with fail
  go_ret2;exact⟨rfl,ap B0.out HB.out⟩
end Go.Proofs.YtemlojjkokooeaaGreat
