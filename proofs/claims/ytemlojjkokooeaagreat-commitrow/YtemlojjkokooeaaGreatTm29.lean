import Derived.Test.YtemlojjkokooeaaGreatTm28
open Go.Value renaming slice->J,int->O,tuple->je
open Go.IntKind renaming i64->I
open Option renaming none->Z,some->V
open Go.RowKit renaming Below->X,Hid->S
open Go.Proofs.Tryz renaming prog->H
open Go.Ending renaming returned->y
open Go renaming Addr->t,World->ja,Calls->jc
open Int renaming toNat_natCast->jb
open Bool renaming true->jd
set_option maxHeartbeats 16000000
set_option maxRecDepth 100000
namespace Go.Proofs.YtemlojjkokooeaaGreat
open Go.RowKit
theorem gM{w:ja}{pm:Array Oper}{o:Oper}{a:Act}{K:Act->ja->Prop}{Q:Exit->Act->ja->Prop}{E:Prop}(qN:o.guard=Z)(s x:Operand)
  (ho:o.op=.call { callee:=.builtin .append,args:=#[s,x],argTypes:=#[33,33]}) (base n r ca cx:Nat) (ao xo:Option t) (xs:List Value) (T:Nat->Option t) (L U:Nat->Nat)
  (hs:a.eval s=J ao n ca) (hx:a.eval x=J xo r cx) (hv:w.ownsRow base 36 1 (J ao n ca) n xs) (hl:∃ B,w.ownsRow B 36 1 (J xo r cx) r (Cod.rowsOf r T L U)) (hn:n<=1000) (hr:r<=1000) (hB:base<=w.heap.size)
  (kP:∀ g6 c' w',w'.ownsRow base 36 1 (J g6 (n+r) c') (n+r) (xs ++ Cod.rowsOf r T L U)->w.grownBy w' (Value.slice ao n ca).ownBlock->K (a.put o.dst (J g6 (n+r) c')) w'):if Region.wanted o (yielded pm a.tmps)=jd then Oper.wp H o a w K Q else E:=by
 have hw:Region.wanted o (yielded pm a.tmps)=jd:=by simp [Region.wanted,qN]
 rw [zk hw];obtain⟨j0,hj,kE,kB,kt⟩:=info_parts Cod.info23c;obtain⟨B,hl⟩:=hl;rcases hl.2 with ⟨h1,h2⟩ | ⟨g,b8,jw,h1,_⟩
 ·cases h1
  have l9:=run_append_owned_none (P:=H) (w:=w) base 33 o.type 36 j0 1 Tryz.underlying33 hj (J ao n ca) n xs hv;have hc:=kP ao ca w (by rw [show Cod.rowsOf 0 T L U=[] from rfl,List.append_nil];exact hv) ⟨rfl,rfl,rfl,Nat.le_refl _,fun _ _ _=>rfl⟩;unfold Oper.wp;simp [execOp,ho,resolve,invoke,builtin,hs,hx,l9,Result.andThen];exact hc
 ·cases h1
  refine wp_append_own w s x 33 ho base 36 j0 (J Z 0 0) 1 24 Tryz.underlying33 hj kE kB kt rfl zb (J ao n ca) n xs hs hv ⟨g,0,Z⟩ r cx (Cod.rowsOf r T L U) hx (by rw [Cod.rowsOf_length,Nat.mul_one]) (hl.cells (g:=g) rfl) (Cod.rowsOf_one _ _ _ _) (by unfold maxLen;omega) za hB ?_;intro v' w' h1 h2 _;obtain⟨g6,c',rfl⟩:=Cod.owns_form h1;exact kP g6 c' w' h1 h2
theorem ff{w w':ja}{B B' e s n b8 k ca:Nat}{ao lo:Option t}{xs ys:List Value}(h:w.ownsRow B e s (J ao n b8) n xs)(hk:w.ownsRow B' 36 1 (J lo k ca) k ys)(he:e ≠ 36)(hg:w.grownBy w' (Value.slice lo k ca).ownBlock):w'.ownsRow B e s (J ao n b8) n xs :=
 bQ h fun a ha=>by
  obtain⟨_,hl,jw,hc⟩:=aX h ha;refine hg.block _ hl fun e1=>?_;cases lo with
  | none=>cases e1
  | some l =>
   obtain⟨_,_,Gz,hc'⟩:=aX hk rfl;have e2:a.block=l.block:=by simpa [Value.ownBlock] using e1
   rw [e2,hc'] at hc;cases hc
   exact he rfl
def dM (m:Nat) (D:Nat->UInt8):Cod.M:=fun a b=>toK (D (a*m+b))
def dH (K m:Nat) (D:Nat->UInt8) (i j:Nat):UInt8:=bK (Cod.enc K (dM m D) i j)
theorem tb{K m:Nat}{D:Nat->UInt8}{i j:Nat}(hi:i<K):dH K m D i j=D (i*m+j):=by
 unfold dH;rw [Cod.enc_data _ hi];exact DM _
def erD (E:Int) (n W:Nat):Int:=if E=0 then (if n=W then 0 else 20) else E
def bS (w:ja) (E:Int) (m N:Nat) (Lc os:Nat->Nat) (nu:Int) (n:Nat) (G:Nat->Nat->UInt8) (e:Ending) (w':ja):Prop :=
  ∃ ao b8 T U,e=.returned (.tuple #[.slice ao (aK E m) b8,.int .i64 E])/\(E=0->PL w.heap.size w' ao m b8 N Lc os nu n T U G)/\b7 w w'
theorem Ce{w:ja}{b off n b8:Nat}{D:Nat->UInt8}(h:Bec w (V ⟨b,off,Z⟩) n b8 D){p m:Nat}(hp:p+m<=n)(hn:0<n):Bec w (V ⟨b,off+p,Z⟩) m m (fun j=>D (p+j)):=by
 refine⟨fun hm=>⟨b,off+p,rfl,fun j hj=>?_⟩,(fun e=>by cases e),Nat.le_refl _⟩;obtain⟨b',qg,e,hc⟩:=h.rd hn;cases e
 have:=hc (p+j) za;rw [Nat.add_assoc];exact this
theorem vQ{k r c q:Int}{N W:Nat}{x:Int}(h:Par k r c q N W x)(w:ja)(ro:Option t)(rn rc:Nat)(A:Nat->Option t)(L C:Nat->Nat)(F:Nat->Nat->UInt8)(hr:Rw w ro rn A L C F)(nu:Int)(kd:UInt8)(ke v:Int)(Mz:Option t)(dn dc:Nat)(D:Nat->UInt8)(hD:Bec w Mz dn dc D)(E:Int)(hE:erD (erW (erK x N c rn L kd v) q nu ke) dn W=E):
  jc H 22 #[Pz k r c q,J ro rn rc,O I nu,O .u8 ((kd.toNat:Nat):Int),O I ke,O I v,J Mz dn dc] w (bS w E N N (fun _=>c.toNat) (osl N c L F kd ke) nu (sz N c) (fun i=>enc (slC kd N (fun _=>v) c.toNat (dH k.toNat c.toNat D i) i))):=by
 obtain⟨E1,zt⟩:=km (erW (erK x N c rn L kd v) q nu ke)
 rw [zt] at hE;have HA:=am fun u (hu:b7 w u)=>gC h u ro rn rc A L C F (hr.below hu) nu kd ke v E1 zt;have S8:S (∀ u,jc H 79 #[Pz k r c q] u fun e w'=>e=y (je #[O I (W:Int),O I x])/\b7 u w'):=fun u=>fT h u;obtain⟨w0,bi⟩:=jM w k r c q
 have B0:S (b7 w w0):=by show X _ _ _;rw [bi];exact bal _ _
 have L0:=am fun v (hv:b7 w0 v)=>(ah (Below.refl _ _) bi).below hv;unfold erD at hE;unfold bS;by_cases he:E1=0
 ·subst he;rw [zk rfl] at hE HA;obtain⟨hK,_,hke⟩:=oB zt;obtain⟨hR,hk,JY⟩:=ec hK;obtain⟨rfl,rfl,hL⟩:=bW hR;by_cases hdw:dn=W
  ·subst hdw;rw [zk rfl] at hE;subst hE;have qe:=h.le;obtain⟨c1,c2⟩:=h.cell rfl;obtain⟨k1,k2,r1,r2,MA,hN,OA⟩:1<=k/\k<=12/\0<=r/\r<=4/\(dn:Int)=k*c/\(rn:Int)=k+r/\32<=dn:=by
    rcases h with ⟨hm,hW,hN,_⟩ | ⟨_,_,_,h0⟩
    ·obtain⟨h1,h2,h3,h4,h5,h6,h7,h8,h9⟩:=aB hm;exact⟨h1,h2,h3,h4,hW,hN,za⟩
    ·exact absurd h0 zb
   have zW:S (∀ u,b7 w u->∀ vo vc lo cc Tc Uc,Vec u vo rn vc (fun _=>v)->RdC u lo rn Tc (fun _=>c.toNat) Uc->(∀ i,i<rn->Bec u (Tc i) c.toNat (Uc i) (dH k.toNat c.toNat D i))->jc H 83 #[stv k r c q ro rn rc kd,O I nu,O I ke,J vo rn vc,J lo rn cc] u fun e w'=>∃ ao b8 T U,e=y (J ao rn b8)/\PL u.heap.size w' ao rn b8 rn (fun _=>c.toNat) (osl rn c L F kd ke) nu (sz rn c) T U (fun i=>enc (slC kd rn (fun _=>v) c.toNat (dH k.toNat c.toNat D i) i))/\b7 u w'):=fun u hu vo vc lo cc Tc Uc hv hl hb=>by
    have:=nV h u ro rc A L C F (hr.below hu) hL kd hk nu ke vo vc (fun _=>v) hv (fun _ _=>JY) lo cc Tc (fun _=>c.toNat) Uc (dH k.toNat c.toNat D) hl hb (fun _ _=>.inr rfl);rw [Cod.cnt_full (fun i _=>by omega)] at this;exact this
   have MB:S (∀ u,jc H 82 #[Pz k r c q,O I v] u (Ans u 0 rn (fun _=>v))):=fun u=>mS h v u 0 (by unfold erA;rw [zk rfl,zk (show fj v=jd from zm JY)]);obtain⟨K,rfl⟩:=Int.eq_ofNat_of_zero_le (show 0<=k by omega);obtain⟨R,rfl⟩:=Int.eq_ofNat_of_zero_le r1;obtain⟨m,rfl⟩:=Int.eq_ofNat_of_zero_le (show 0<=c by omega);simp only [jb] at zW ⊢;have xG:dn=K*m:=by rw [<- Int.natCast_mul] at MA;omega
   have MC:rn=K+R:=za;obtain⟨b,off,rfl,Qk⟩:=hD.rd (show 0<dn by omega);have G7:=am hD;have Jt:S (∀ u,jc H 80 #[.agg #[O I (K:Int),O I (R:Int),O I (m:Int),O I q],J (V ⟨b,off,Z⟩) dn dc] u fun e w'=>∃ ao b8,e=y (J ao K b8)/\w'.ownsRow u.heap.size 36 1 (J ao K b8) K (Cod.rowsOf K (fun i=>V ⟨b,off+i*m,Z⟩) (fun _=>m) (fun _=>m))/\b7 u w'):=fun u=>Bl (R:Int) q u b off dn dc za za za xG hD.room;have n8:S (∀ u,b7 w u->∀ i,i<K->Bec u (V ⟨b,off+i*m,Z⟩) m m (fun j=>D (i*m+j))):=fun u hu i hi=>Ce (hD.below hu) (by rw [xG,<- Nat.succ_mul];exact Nat.mul_le_mul_right m hi) za;have K2:S (∀ u lo cl,b7 w u->(∃ B,u.ownsRow B 36 1 (J lo K cl) K (Cod.rowsOf K (fun i=>V ⟨b,off+i*m,Z⟩) (fun _=>m) (fun _=>m)))->jc H 81 #[O I (K:Int),O I (R:Int),J lo K cl] u fun e w'=>∃ ao b8 T U,e=y (je #[J ao R b8,O I 0])/\Cod.Copied w' u.heap.size R (J ao R b8) T (fun _=>m) U (Cod.par K (dM m D))/\b7 u w'):=fun u lo cl hu ⟨B,hl⟩=>by
    have JZ:Cod.Lst u lo K (fun i=>V ⟨b,off+i*m,Z⟩) (fun _=>m) (fun _=>m) (dM m D):=Cod.owns_lst hl (fun i hi=>mD (n8.out u hu i hi).rd);have MD:=Cod.Encode_any u (K:Int) (R:Int) lo K cl _ _ _ _ JZ;have e1:Cod.mayB (K:Int) (R:Int)=jd:=zm za;have hc:=Cod.cnt_full (L:=fun _=>m) (n:=K) (fun i _=>by omega);obtain⟨g1,g2⟩:=Cod.okT_of (L:=fun _=>m) (n:=K) (show m ≠ 0 by omega) za (fun _ _=>.inr rfl);have e2:Cod.okEnc K (fun _=>m) (K:Int) (R:Int)=jd:=by unfold Cod.okEnc Cod.okC;rw [e1,g1,hc];simp
    have e3:Cod.len0 (fun _=>m) K=m:=by
     rcases Cod.len0_sel (fun _=>m) K with ⟨e,_⟩ | ⟨_,e,_⟩
     ·omega
     ·exact e
    rw [e1,e2,e3,jb,jb] at MD;exact MD
   have E4:=am MC;have Ys:K<=12:=za;have Yt:R<=4:=za;have Jz:0<m/\m<=64:=za;clear h hr zt hK hke hR hL JY hD Qk hk MA xG MC hN k1 k2 r1 r2 c1 c2;unfold stv at HA zW;unfold Ans at MB;rw [show aK 0 rn=rn from zk rfl] at MB ⊢;have q1:((dn:Int) != (dn:Int))=false:=zi;go_enter Tryz.func22,Tryz.ntmps22
   go_wp2_with fail
   rw [<- bi];clear bi;refine(HA.out _ B0.out).mono ?_;rintro e wa ⟨rfl,ha⟩;obtain⟨w2,jz⟩:=fd (wa.alloc (.cells #[O I (K:Int),O I (R:Int),O I (m:Int),O I q,J ro rn rc,O .u8 ((kd.toNat:Nat):Int)] 99))
   have b2:b7 w w2:=by rw [jz];exact ap (ap B0.out ha) (bal _ _)
   have jv:=am b2;have Mv:S (b7 w0 w2):=by show X _ _ _;rw [jz];exact ap ha (bal _ _)
   have L2:=am fun v (hv:b7 w2 v)=>(ah (ap B0.out ha) jz).below hv;have qq:=fun o=>((L0.out wa ha).alloc o)
   have s0:=fun o=>(qq o).cz 0;have s1:=fun o=>(qq o).cz 1;have s2:=fun o=>(qq o).cz 2;have s3:=fun o=>(qq o).cz 3;clear ha b2 qq;go_wp2_with fail
   rw [<- jz];clear jz s0 s1 s2 s3;refine(S8.out _).mono ?_;rintro e w3 ⟨rfl,h3⟩;have p:=L0.out w3 (ap Mv.out h3);have s0:=p.cz 0;have s1:=p.cz 1;have s2:=p.cz 2;have s3:=p.cz 3;have Ql:=am h3;clear h3 p;go_wp2_with fail
   refine(Jt.out _).mono ?_;rintro e w4 ⟨lo,lc,rfl,Qm,h4⟩;clear s0 s1 s2 s3;have p:=L0.out w4 (ap (ap Mv.out Ql.out) h4);have s0:=p.cz 0;have s1:=p.cz 1;have Qn:=am (ap Ql.out h4);have WF:=am Qm;have ME:=K2.out w4 lo lc (ap jv.out Qn.out) ⟨_,Qm⟩;have WG:=am (h4.size);clear h4 p Qm;go_wp2_with fail
   refine ME.mono ?_;clear ME s0 s1;rintro e w5 ⟨po,pc,T,U,rfl,jY,h5⟩;have p:=L0.out w5 (ap (ap Mv.out Qn.out) h5);have s0:=p.cz 0;have s1:=p.cz 1;have s2:=p.cz 2;have s3:=p.cz 3;have WH:=am (ap Qn.out h5);have PS:=am jY;have JI:=am (ar WF.out h5);have MF:S (w3.heap.size<=w5.heap.size/\w2.heap.size<=w3.heap.size):=⟨Nat.le_trans WG.out h5.size,Ql.out.size⟩
   clear h5 p jY;go_wp2_with fail
   refine(MB.out _).mono ?_;rintro e w6 ⟨vo,vc,rfl,J0,h6⟩;clear s0 s1 s2 s3;have Qo:=am (ap WH.out h6);have WI:=am J0;have OB:=am (ar JI.out h6);have J1:=am (ar PS.out.out h6);have WJ:S (∀ i,i<R->OwU w4.heap.size w6 (T i) m (U i) (fun j=>bK (Cod.par K (dM m D) i j))):=fun i hi=>by
    have:=PS.out.row i hi;rw [ig] at this;exact ar this h6
   have MG:=am (Nat.le_trans MF.out.1 h6.size);have CH:S (∀ u,b7 w2 u->(u.cell? ⟨wa.heap.size,0,Z⟩=V (O I (K:Int))/\u.cell? ⟨wa.heap.size,1,Z⟩=V (O I (R:Int))/\u.cell? ⟨wa.heap.size,2,Z⟩=V (O I (m:Int))/\u.cell? ⟨wa.heap.size,3,Z⟩=V (O I q)/\u.cell? ⟨wa.heap.size,4,Z⟩=V (J ro rn rc)/\u.cell? ⟨wa.heap.size,5,Z⟩=V (O .u8 ((kd.toNat:Nat):Int)))):=fun u hu=>by
    have p:=L2.out u hu;exact⟨p.cz 0,p.cz 1,p.cz 2,p.cz 3,p.cz 4,p.cz 5⟩
   obtain⟨s0,s1,s2,s3,s4,s5⟩:=CH.out w6 Qo.out;have AP:S (∀ g6 c' w7,w7.ownsRow w3.heap.size 36 1 (J g6 (K+R) c') (K+R) (Cod.rowsOf K (fun i=>V ⟨b,off+i*m,Z⟩) (fun _=>m) (fun _=>m) ++ Cod.rowsOf R T (fun _=>m) U)->w6.drew.grownBy w7 (Value.slice lo K lc).ownBlock->b7 w2 w7/\jc H 83 #[.agg #[O I (K:Int),O I (R:Int),O I (m:Int),O I q,J ro rn rc,O .u8 ((kd.toNat:Nat):Int)],O I nu,O I ke,J vo rn vc,J g6 rn c'] w7 fun e w'=>∃ ao b8 T U,e=y (J ao rn b8)/\PL w7.heap.size w' ao rn b8 rn (fun _=>m) (osl rn (m:Int) L F kd ke) nu (sz rn (m:Int)) T U (fun i=>enc (slC kd rn (fun _=>v) m (dH K m D i) i))/\b7 w7 w'):=fun g6 c' w7 em kw=>by
    have JK:b7 w2 w7:=(Qo.out.drew).grown kw Qo.out.size (fun r hr=>Nat.le_trans MF.out.2 (OB.out.lt r hr).1);refine⟨JK,?_⟩;have jB:=ap jv.out JK;rw [<- Cod.rowsOf_join,<- E4.out] at em;refine zW.out w7 jB vo vc g6 c' (Cod.join K (fun i=>V ⟨b,off+i*m,Z⟩) T) (Cod.join K (fun _=>m) U) ?_ (fun hp=>?_) (fun i hi=>?_)
    ·exact Own.vec (B:=w5.heap.size) (ff (w:=w6.drew) WI.out OB.out zb kw)
    ·rcases em.2 with ⟨_,h1⟩ | ⟨g,jy,jw,h1,_⟩
     ·omega
     ·cases h1
      refine⟨g,0,rfl,fun i hi=>?_⟩;have:=em.cells (g:=g) rfl i _ (Cod.rowsOf_get rn _ _ _ i hi);rw [Addr.add_lit,Cod.join_const] at this;exact this
    ·unfold Cod.join;by_cases e:i<K
     ·rw [zk e,zk e];exact(n8.out w7 jB i e).congr fun j _=>(tb e).symm
     ·rw [zl e,zl e];have hi2:i-K<R:=by have:=E4.out;omega
      have:=(OwU.bec (B:=w4.heap.size) (ff (w:=w6.drew) (WJ.out (i-K) hi2) OB.out zb kw))
      refine this.congr fun j _=>?_;unfold dH Cod.par;rw [show K+(i-K)=i by omega]
   clear J0 h6;go_wp2_with fail
   go_region_held3 (fun u=>u.cell? ⟨wa.heap.size,0,Z⟩=V (O I (K:Int))/\u.cell? ⟨wa.heap.size,1,Z⟩=V (O I (R:Int))/\u.cell? ⟨wa.heap.size,2,Z⟩=V (O I (m:Int))/\u.cell? ⟨wa.heap.size,3,Z⟩=V (O I q)/\u.cell? ⟨wa.heap.size,4,Z⟩=V (J ro rn rc)/\u.cell? ⟨wa.heap.size,5,Z⟩=V (O .u8 ((kd.toNat:Nat):Int))) (go_keep) ((first
    | (go_at_call 83;refine Qp.out.2.mono ?_;rintro e w8 ⟨qo,qc,QT,QU,rfl,EI,h8⟩;have S9:=am (ap Qp.out.1 h8);have GK:=am EI;obtain⟨f0,f1,f2,f3,f4,f5⟩:=CH.out w8 S9.out;clear EI h8)
    | (refine gM zg (.tmp 69) (.tmp 70) zg w3.heap.size K R lc pc lo po (Cod.rowsOf K (fun i=>V ⟨b,off+i*m,Z⟩) (fun _=>m) (fun _=>m)) T (fun _=>m) U zg zg OB.out ⟨_,J1.out⟩ za za MG.out ?_;intro WK c7 w7 zX ym;have hq:=AP.out WK c7 w7 zX ym;have Qp:S _:=hq;obtain⟨e0,e1,e2,e3,e4,e5⟩:=CH.out w7 hq.1;rw [<- E4.out];clear hq zX ym)))
   go_wp2_with fail
   go_ret2;exact⟨qo,qc,QT,QU,rfl,fun _=>GK.out.mono (Nat.le_trans jv.out.size Qp.out.1.size),ap jv.out S9.out⟩
  ·rw [zl hdw] at hE;subst hE;have q1:((dn:Int) != (W:Int))=jd:=zj;rw [show aK 20 rn=0 from rfl];clear h hr zt hK hke hR hL JY hD hk hdw;unfold stv at HA;go_enter Tryz.func22,Tryz.ntmps22
   go_wp2_with fail
   rw [<- bi];clear bi;refine(HA.out _ B0.out).mono ?_;rintro e wa ⟨rfl,ha⟩;have qq:=fun o=>((L0.out wa ha).alloc o)
   have s0:=fun o=>(qq o).cz 0;have s1:=fun o=>(qq o).cz 1;have s2:=fun o=>(qq o).cz 2;have s3:=fun o=>(qq o).cz 3;have yN:=am (ap B0.out ha);clear ha qq;go_wp2_with fail
   refine(S8.out _).mono ?_;rintro e w3 ⟨rfl,h3⟩;go_wp2_with fail
   go_ret2;exact⟨Z,0,fun _=>Z,fun _=>0,rfl,(fun e=>absurd e zb),ap yN.out (ap (bal _ _) h3)⟩
 ·rw [zl he] at hE HA;subst hE;have e1:(E1 != 0)=jd:=by simp [he]
  rw [show aK E1 N=0 from zl he];have GI:=am he;clear h hr zt hD he;unfold stz at HA;go_enter Tryz.func22,Tryz.ntmps22
  go_wp2_with fail
  rw [<- bi];clear bi;refine(HA.out _ B0.out).mono ?_;rintro e wa ⟨rfl,ha⟩;go_wp2_with fail
  go_ret2;exact⟨Z,0,fun _=>Z,fun _=>0,rfl,(fun e=>absurd e GI.out),ap (ap B0.out ha) (bal _ _)⟩
def mT (z:Nat->Sl) (T:Nat->Option t) (d i:Nat):Option t:=if i<d/\(z i).ce ≠ 0 then Z else T i
def mL (z:Nat->Sl) (m:Nat->Nat) (d i:Nat):Nat:=if i<d/\(z i).ce ≠ 0 then 0 else m i
theorem oH{N d:Nat}(T:Nat->Option t)(L U:Nat->Nat)(a:Option t)(l u:Nat):(Cod.rowsOf N T L U).set d (J a l u)=Cod.rowsOf N (Cod.put d a T) (Cod.put d l L) (Cod.put d u U):=by
 apply List.ext_getElem?
 intro i;rw [List.getElem?_set];by_cases hi:i<N
 ·rw [Cod.rowsOf_get N (Cod.put d a T) _ _ i hi];by_cases e:d=i
  ·subst e;rw [zk rfl,zk (by rw [Cod.rowsOf_length];exact hi),Cod.put_at,Cod.put_at,Cod.put_at]
  ·rw [zl e,Cod.rowsOf_get _ _ _ _ _ hi,Cod.put_ne _ _ (fun h=>e h.symm),Cod.put_ne _ _ (fun h=>e h.symm),Cod.put_ne _ _ (fun h=>e h.symm)]
 ·have h1:(Cod.rowsOf N (Cod.put d a T) (Cod.put d l L) (Cod.put d u U))[i]? = Z:=List.getElem?_eq_none (by rw [Cod.rowsOf_length];omega);rw [h1];by_cases e:d=i
  ·subst e;rw [zk rfl,zl (by rw [Cod.rowsOf_length];exact hi)]
  ·rw [zl e,List.getElem?_eq_none (by rw [Cod.rowsOf_length];omega)]
theorem BF{z:Nat->Sl}{d:Nat}(h:(z d).ce ≠ 0)(T:Nat->Option t):Cod.put d Z (mT z T d)=mT z T (d+1):=by
 funext i
 unfold mT;by_cases e:i=d
 ·subst e;rw [Cod.put_at,zk ⟨za,h⟩]
 ·rw [Cod.put_ne _ _ e];by_cases g:i<d/\(z i).ce ≠ 0
  ·rw [zk g,zk ⟨za,g.2⟩]
  ·rw [zl g,zl (fun a=>g ⟨za,a.2⟩)]
theorem sV{z:Nat->Sl}{d:Nat}(h:(z d).ce ≠ 0)(m:Nat->Nat):Cod.put d 0 (mL z m d)=mL z m (d+1):=by
 funext i
 unfold mL;by_cases e:i=d
 ·subst e;rw [Cod.put_at,zk ⟨za,h⟩]
 ·rw [Cod.put_ne _ _ e];by_cases g:i<d/\(z i).ce ≠ 0
  ·rw [zk g,zk ⟨za,g.2⟩]
  ·rw [zl g,zl (fun a=>g ⟨za,a.2⟩)]
theorem Ds{α:Type}{z:Nat->Sl}{d:Nat}(h:(z d).ce=0)(x:α)(f:Nat->α)(i:Nat):(if i<d/\(z i).ce ≠ 0 then x else f i)=if i<d+1/\(z i).ce ≠ 0 then x else f i:=by
 by_cases g:i<d/\(z i).ce ≠ 0
 ·rw [zk g,zk ⟨za,g.2⟩]
 ·rw [zl g,zl (fun a=>g ⟨by
   have:i ≠ d:=fun e=>a.2 (by rw [e];exact h);omega,a.2⟩)]
theorem pW{z:Nat->Sl}{d:Nat}(h:(z d).ce=0)(T:Nat->Option t)(m:Nat->Nat):mT z T d=mT z T (d+1)/\mL z m d=mL z m (d+1):=by
 constructor
 all_goals funext i
 ·unfold mT;exact Ds h _ _ i
 ·unfold mL;exact Ds h _ _ i
def Mnl (wz:ja) (gc gl N b8:Nat) (z:Nat->Sl) (T:Nat->Option t) (m U:Nat->Nat) (d:Nat) (v:ja) (Y:Nat->Prop):Prop :=
  At wz v gc #[.slice (V ⟨gl,0,Z⟩) N b8] 33/\v.ownsRow wz.heap.size 36 1 (.slice (V ⟨gl,0,Z⟩) N b8) N (Cod.rowsOf N (mT z T d) (mL z m d) (mL z U d))/\∀ g,Y g ↔ g=gl
theorem ua(wz v:ja)(gc gl N b8 d:Nat)(hd:d<N)(z:Nat->Sl)(T:Nat->Option t)(m U:Nat->Nat)(Y:Nat->Prop)(x0 x1:Value)(ao:Option t)(ca:Nat)(bo:Option t)(cb:Nat)(h:Mnl wz gc gl N b8 z T m U d v Y):
  jc H 87 #[O I (d:Int),.agg #[x0,x1],slv (z d) ao ca bo cb,.pointer (V ⟨gc,0,Z⟩)] v fun e v'=>e=y (je #[])/\∃ Y',Mnl wz gc gl N b8 z T m U (d+1) v' Y'/\Only Y v v'/\∀ g,Y' g->Y g\/v.heap.size<=g:=by
 unfold slv;obtain⟨hA,hO,hY⟩:=h;obtain⟨v0,hv0⟩:=fd (v.alloc (.cells #[x0,x1] 97))
 obtain⟨v1,xT⟩:=fd (v0.alloc (.cells #[O .u8 (((z d).kd.toNat:Nat):Int),O I (z d).ix,O I (z d).ce,O I (z d).st,J ao (z d).vn ca,J bo (z d).dn cb] 107))
 have b1:b7 v v1:=by rw [xT,hv0];exact ap (bal _ _) (bal _ _)
 have i1:(0:Int)<=(d:Int):=za;have i2:(d:Int)<(N:Int):=za;by_cases hz:(z d).ce=0
 ·have Hl:((z d).ce != 0)=false:=by simp [hz]
  have HC:S (Mnl wz gc gl N b8 z T m U (d+1) v1 Y):=by
   refine⟨hA.below b1,?_,hY⟩;rw [<- (pW hz T m).1,<- (pW hz T m).2,<- (pW hz T U).2];exact ar hO b1
  clear hz hA hO;go_enter Tryz.func87,Tryz.ntmps87
  go_wp2_with fail
  rw [<- hv0,<- xT];exact bodyPost_end (results_none rfl _ _ _) rfl ⟨rfl,Y,HC.out,.of_below b1,fun g hg=>.inl hg⟩
 ·have Hl:((z d).ce != 0)=jd:=by simp [hz]
  have OC:=ar hO b1;have hs:=World.ownsRow.stored OC d (J Z 0 0);rw [oH,BF hz,sV hz,sV hz] at hs;have f9:gc ≠ gl:=fun e=>by
   obtain⟨_,_,jw,hc⟩:=aX hO (a:=⟨gl,0,Z⟩) rfl;have:=hA.2;rw [e] at this;simp only at hc;rw [hc] at this;cases this
  have HC:S (Mnl wz gc gl N b8 z T m U (d+1) (v1.setCell ⟨gl,d,Z⟩ (J Z 0 0)) Y):=⟨(hA.below b1).far f9 d _,hs.1,hY⟩
  have HO:S (Only Y v (v1.setCell ⟨gl,d,Z⟩ (J Z 0 0))):=(Only.of_below b1).setCell ((hY gl).2 rfl) _;have g0:=fun o o'=>((hA.alloc o).alloc o').cz 0;have jU:v1.cell? ⟨gl,d,Z⟩=V (J (mT z T d d) (mL z m d d) (mL z U d d)):=by
   rw [World.ownsRow.cellAt OC d za,Cod.rowsOf_get _ _ _ _ _ hd]
  have WL:v1.frozen? ⟨gl,d,Z⟩=false:=World.ownsRow.frozenAt OC d;rw [xT,hv0] at jU WL;clear hz hA hO hs OC f9 hY;go_enter Tryz.func87,Tryz.ntmps87
  go_wp2_with fail
  rw [<- hv0,<- xT];exact bodyPost_end (results_none rfl _ _ _) rfl ⟨rfl,Y,HC.out,HO.out,fun g hg=>.inl hg⟩
end Go.Proofs.YtemlojjkokooeaaGreat
