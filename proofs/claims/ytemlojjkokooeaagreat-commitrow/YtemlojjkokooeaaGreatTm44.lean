import Derived.Test.YtemlojjkokooeaaGreatTm43
open Go.Value renaming int->J,slice->Y,agg->H,tuple->f,bool->jf
open Go.IntKind renaming i64->O
open Go.RowKit renaming Below->I,Hid->s
open Go.Proofs.Tryz renaming prog->Z
open Go.Ending renaming returned->X
open Go renaming Calls->G,World->ja,Addr->jd
open Option renaming none->S,some->B
open Bool renaming true->o,false->jb
open Go.Obj renaming cells->jc
open Nat renaming le_refl->je
set_option maxHeartbeats 16000000
set_option maxRecDepth 100000
namespace Go.Proofs.YtemlojjkokooeaaGreat
open Go.RowKit
theorem ox(w:ja):G Z 34 #[] w fun e w'=>e=X (jf o)/\b7 w w':=by
 have HP:=fun w=>ml (k:=2) (r:=1) (c:=16) (q:=8) (N:=3) (W:=32) (x:=0) (.inl ⟨zb,zb,zb,rfl⟩) w;rw [zk rfl] at HP;go_enter Tryz.func34,Tryz.ntmps34
 go_wp2_with fail
 refine(HP _).mono ?_;rintro e wa ⟨rfl,ha⟩;go_wp2_with fail
 go_ret;exact⟨rfl,ha⟩
theorem fX{k r c q:Int}(w:ja)(ro:Option jd)(rn rc:Nat)(nu v len gt:Int)(so:Option jd)(sn sc:Nat)(y E0 eB:Int)(ok:Bool)
  (HA:s (∀ u,b7 w u->G Z 97 #[Pz k r c q,Y ro rn rc,.func (.func 98) #[] #[]] u fun e w'=>e=X (f #[J O y,J O E0])/\b7 u w'))
  (HI:s (∀ u,G Z 99 #[Pz k r c q,J O nu] u fun e w'=>e=X (jf ok)/\b7 u w'))
  (HB:s (eB ≠ 0->∀ u,b7 w u->G Z 100 #[Pz k r c q,H #[J O len,J O gt,Y so sn sc]] u fun e w'=>∃ ao cp,e=X (f #[Y ao 0 cp,J O eB])/\b7 u w')) (E:Int)
  (hE:(E0 ≠ 0/\E=E0)\/(E0=0/\(ok=jb\/v<=y\/1073741824<v)/\E=2)\/(E0=0/\ok=o/\¬ v<=y/\¬ 1073741824<v/\eB ≠ 0/\E=eB)) :
  G Z 37 #[Pz k r c q,Y ro rn rc,J O nu,J O v,H #[J O len,J O gt,Y so sn sc]] w fun e w'=>e=X (f #[Y S 0 0,J O E])/\b7 w w':=by
 obtain⟨w0,bi⟩:=jM w k r c q
 obtain⟨w1,ci⟩:=fd (w0.alloc (jc #[J O len,J O gt,Y so sn sc] 60))
 have b0:=jt bi
 have b1:=jt ci
 have z0:=ks bi
 have HQ:s (∀ u,b7 w1 u->(u.cell? ⟨w.heap.size,0,S⟩=B (J O k)/\u.cell? ⟨w.heap.size,1,S⟩=B (J O r)/\u.cell? ⟨w.heap.size,2,S⟩=B (J O c)/\u.cell? ⟨w.heap.size,3,S⟩=B (J O q))/\(u.cell? ⟨w.heap.size+1,0,S⟩=B (J O len)/\u.cell? ⟨w.heap.size+1,1,S⟩=B (J O gt)/\u.cell? ⟨w.heap.size+1,2,S⟩=B (Y so sn sc))):=fun u hu=>⟨ak bi (ap b1 hu),by rw [<- z0];exact⟨ae ci hu 0 rfl,ae ci hu 1 rfl,ae ci hu 2 rfl⟩⟩
 have io:=am (ap b0 b1);rcases hE with ⟨h0,rfl⟩ | ⟨rfl,h1,rfl⟩ | ⟨rfl,rfl,h2,h3,h4,rfl⟩
 ·have hz:(E != 0)=o:=by simpa using h0
  go_enter Tryz.func37,Tryz.ntmps37
  go_wp2_with fail
  rw [<- bi,<- ci];clear bi ci z0 b0 b1;refine(HA.out _ io.out).mono ?_;rintro e wa ⟨rfl,ha⟩;go_wp2_with fail
  go_ret2;exact⟨rfl,ap io.out ha⟩
 ·cases ok
  ·go_enter Tryz.func37,Tryz.ntmps37
   go_wp2_with fail
   rw [<- bi,<- ci];clear bi ci z0 b0 b1;refine(HA.out _ io.out).mono ?_;rintro e wa ⟨rfl,ha⟩;obtain⟨⟨s0,s1,s2,s3⟩,_⟩:=HQ.out wa ha;go_wp2_with fail
   refine(HI.out _).mono ?_;rintro e wb ⟨rfl,hb⟩;have kK:=ap ha hb;clear s0 s1 s2 s3 ha hb;go_wp2_with fail
   go_ret2;exact⟨rfl,ap io.out kK⟩
  ·by_cases hv:v<=y
   ·have d1:decide (v<=y)=o:=zm hv;go_enter Tryz.func37,Tryz.ntmps37
    go_wp2_with fail
    rw [<- bi,<- ci];clear bi ci z0 b0 b1;refine(HA.out _ io.out).mono ?_;rintro e wa ⟨rfl,ha⟩;obtain⟨⟨s0,s1,s2,s3⟩,_⟩:=HQ.out wa ha;go_wp2_with fail
    refine(HI.out _).mono ?_;rintro e wb ⟨rfl,hb⟩;have kK:=ap ha hb;clear s0 s1 s2 s3 ha hb;go_wp2_with fail
    go_ret2;exact⟨rfl,ap io.out kK⟩
   ·have h5:1073741824<v:=by
     rcases h1 with h | h | h
     ·cases h
     ·exact absurd h hv
     ·exact h
    have d1:decide (v<=y)=jb:=zp hv;have d2:decide (1073741824<v)=o:=zm h5;go_enter Tryz.func37,Tryz.ntmps37
    go_wp2_with fail
    rw [<- bi,<- ci];clear bi ci z0 b0 b1;refine(HA.out _ io.out).mono ?_;rintro e wa ⟨rfl,ha⟩;obtain⟨⟨s0,s1,s2,s3⟩,_⟩:=HQ.out wa ha;go_wp2_with fail
    refine(HI.out _).mono ?_;rintro e wb ⟨rfl,hb⟩;have kK:=ap ha hb;clear s0 s1 s2 s3 ha hb;go_wp2_with fail
    go_ret2;exact⟨rfl,ap io.out kK⟩
 ·have d1:decide (v<=y)=jb:=zp h2;have d2:decide (1073741824<v)=jb:=zp h3;have hz:(E != 0)=o:=by simpa using h4
  have qj:=HB.out h4;go_enter Tryz.func37,Tryz.ntmps37
  go_wp2_with fail
  rw [<- bi,<- ci];clear bi ci z0 b0 b1;refine(HA.out _ io.out).mono ?_;rintro e wa ⟨rfl,ha⟩;obtain⟨⟨s0,s1,s2,s3⟩,_⟩:=HQ.out wa ha;go_wp2_with fail
  refine(HI.out _).mono ?_;rintro e wb ⟨rfl,hb⟩;have kK:=ap ha hb;clear s0 s1 s2 s3 ha hb;obtain⟨⟨s0,s1,s2,s3⟩,t0,t1,t2⟩:=HQ.out wb kK;go_wp2_with fail
  refine(qj _ (ap io.out kK)).mono ?_;rintro e wc ⟨ao,cp,rfl,hc⟩;have FI:=ap kK hc;clear s0 s1 s2 s3 t0 t1 t2 kK hc;go_wp2_with fail
  go_ret2;exact⟨rfl,ap io.out FI⟩
theorem rK{k r c q:Int}{W:Nat}(w:ja)(ro:Option jd)(rn rc:Nat)(nu v len gt:Int)(so:Option jd)(sn sc:Nat)(y:Int)(D:Nat->UInt8)(P:ja->Ending->ja->Prop)
  (HA:s (∀ u,b7 w u->G Z 97 #[Pz k r c q,Y ro rn rc,.func (.func 98) #[] #[]] u fun e w'=>e=X (f #[J O y,J O 0])/\b7 u w'))
  (HI:s (∀ u,G Z 99 #[Pz k r c q,J O nu] u fun e w'=>e=X (jf o)/\b7 u w'))
  (HB:s (∀ u,b7 w u->G Z 100 #[Pz k r c q,H #[J O len,J O gt,Y so sn sc]] u fun e w'=>∃ ao cp,e=X (f #[Y ao W cp,J O 0])/\Bec w' ao W cp D/\b7 u w'))
  (HF:s (∀ u ao cp,b7 w u->Bec u ao W cp D->G Z 22 #[Pz k r c q,Y ro rn rc,J O nu,J .u8 2,J O y,J O v,Y ao W cp] u fun e w'=>∃ lo ln lc,e=X (f #[Y lo ln lc,J O 0])/\(∀ w0,b7 w0 u->w0.heap.size<=u.heap.size->P w0 (X (f #[Y lo ln lc,J O 0])) w')/\b7 u w'))
  (h1:¬ v<=y) (h2:¬ 1073741824<v) :
  G Z 37 #[Pz k r c q,Y ro rn rc,J O nu,J O v,H #[J O len,J O gt,Y so sn sc]] w fun e w'=>P w e w':=by
 obtain⟨w0,bi⟩:=jM w k r c q
 obtain⟨w1,ci⟩:=fd (w0.alloc (jc #[J O len,J O gt,Y so sn sc] 60))
 have b0:=jt bi
 have b1:=jt ci
 have z0:=ks bi
 have HQ:s (∀ u,b7 w1 u->(u.cell? ⟨w.heap.size,0,S⟩=B (J O k)/\u.cell? ⟨w.heap.size,1,S⟩=B (J O r)/\u.cell? ⟨w.heap.size,2,S⟩=B (J O c)/\u.cell? ⟨w.heap.size,3,S⟩=B (J O q))/\(u.cell? ⟨w.heap.size+1,0,S⟩=B (J O len)/\u.cell? ⟨w.heap.size+1,1,S⟩=B (J O gt)/\u.cell? ⟨w.heap.size+1,2,S⟩=B (Y so sn sc))):=fun u hu=>⟨ak bi (ap b1 hu),by rw [<- z0];exact⟨ae ci hu 0 rfl,ae ci hu 1 rfl,ae ci hu 2 rfl⟩⟩
 have io:=am (ap b0 b1);have d1:decide (v<=y)=jb:=zp h1;have d2:decide (1073741824<v)=jb:=zp h2;go_enter Tryz.func37,Tryz.ntmps37
 go_wp2_with fail
 rw [<- bi,<- ci];clear bi ci z0 b0 b1;refine(HA.out _ io.out).mono ?_;rintro e wa ⟨rfl,ha⟩;obtain⟨⟨s0,s1,s2,s3⟩,_⟩:=HQ.out wa ha;go_wp2_with fail
 refine(HI.out _).mono ?_;rintro e wb ⟨rfl,hb⟩;have kK:=ap ha hb;clear s0 s1 s2 s3 ha hb;obtain⟨⟨s0,s1,s2,s3⟩,t0,t1,t2⟩:=HQ.out wb kK;go_wp2_with fail
 refine(HB.out _ (ap io.out kK)).mono ?_;rintro e wc ⟨ao,cp,rfl,qm,hc⟩;have FI:=ap kK hc;clear s0 s1 s2 s3 t0 t1 t2 kK hc;obtain⟨⟨s0,s1,s2,s3⟩,_⟩:=HQ.out wc FI;go_wp2_with fail
 refine(HF.out _ ao cp (ap io.out FI) qm).mono ?_;rintro e wd ⟨lo,ln,lc,rfl,hP,hd⟩;have Nz:=hP w (ap io.out FI) (ap io.out FI).size;clear s0 s1 s2 s3 hP;go_wp2_with fail

 exact Nz
def tD (x:Int) (W:Nat) (k c q nu v len gt:Int) (N rn:Nat) (L:Nat->Nat) (F:Nat->Nat->UInt8) (n:Nat) (R V:Nat->Int):Int :=
  if erR x N c rn L=0 then (if (0<=nu/\nu<q)/\wnV k N c L F<v/\v<=1073741824 then De.erD x W q len gt n R V else 2) else erR x N c rn L
theorem ny(k:Int)(N:Nat)(c:Int)(L:Nat->Nat)(F:Nat->Nat->UInt8):0<=wnV k N c L F/\wnV k N c L F<=1073741824:=by
 unfold wnV;cases h:Cn.wins k (Cn.hP N c L F) (Cn.hQ N c L F) N with
 | nil=>exact⟨Int.le_refl 0,zb⟩
 | cons a l =>
  have hm:a ∈ Cn.wins k (Cn.hP N c L F) (Cn.hQ N c L F) N:=by rw [h];simp
  obtain⟨_,d,_,h2⟩:=Cn.mem_tvL.1 (List.mem_filter.1 hm).1;show 0<=a/\a<=_;rcases h2 with e | e
  ·rw [<- e];exact Cn.hP_bd N c L F d
  ·rw [<- e];exact Cn.hQ_bd N c L F d
theorem tx{k r c q:Int}{N W:Nat}{x:Int}(h:Par k r c q N W x)(w:ja)(ro:Option jd)(rn rc:Nat)(A:Nat->Option jd)(L C:Nat->Nat)(F:Nat->Nat->UInt8)(hr:Rw w ro rn A L C F)(nu v len gt:Int)(so:Option jd)(sn sc:Nat)(R V:Nat->Int)(hR:De.Rec w so sn sc R V)(E:Int)(hE:tD x W k c q nu v len gt N rn L F sn R V=E):
  G Z 37 #[Pz k r c q,Y ro rn rc,J O nu,J O v,H #[J O len,J O gt,Y so sn sc]] w (bS w E N N (fun _=>c.toNat) (osl N c L F 2 (wnV k N c L F)) nu (sz N c) (fun i=>enc (slC 2 N (fun _=>v) c.toNat (dH k.toNat c.toNat (De.deB len gt sn R V) i) i))):=by
 obtain⟨E0,kT⟩:=km (erR x N c rn L)
 obtain⟨y,hy⟩:=km (Cn.rdv E0 (Cn.wins k (Cn.hP N c L F) (Cn.hQ N c L F) N) 0)
 have HA:=fun u (hu:b7 w u)=>iW 98 (fun _ _=>rfl) u ro rn rc y _ E0 ((iV h w ro rn rc A L C F hr E0 kT y hy _ rfl).below hu);have HI:=fun u=>lO u k r c q nu;have HB:=fun u (hu:b7 w u)=>De.Bytes_any h u len gt so sn sc R V (hR.below hu) _ rfl;have kI:∀ E',E' ≠ 0->(G Z 37 #[Pz k r c q,Y ro rn rc,J O nu,J O v,H #[J O len,J O gt,Y so sn sc]] w fun e w'=>e=X (f #[Y S 0 0,J O E'])/\b7 w w')->G Z 37 #[Pz k r c q,Y ro rn rc,J O nu,J O v,H #[J O len,J O gt,Y so sn sc]] w (bS w E' N N (fun _=>c.toNat) (osl N c L F 2 (wnV k N c L F)) nu (sz N c) (fun i=>enc (slC 2 N (fun _=>v) c.toNat (dH k.toNat c.toNat (De.deB len gt sn R V) i) i))):=fun E' f9 hc=>by
  refine hc.mono ?_;rintro e w' ⟨rfl,hb⟩;exact⟨S,0,fun _=>S,fun _=>0,by rw [aZ _ f9],fun e=>absurd e f9,hb⟩
 unfold tD at hE;rw [kT] at hE;by_cases e0:E0=0
 ·subst e0;have Ji:y=wnV k N c L F:=by rw [<- hy];unfold Cn.rdv wnV;rw [zk rfl]
  rw [zk rfl,<- Ji] at hE;rw [<- Ji];rw [<- Ji] at kI;have EM:=ny k N c L F;rw [<- Ji] at EM;by_cases hok:(0<=nu/\nu<q)/\y<v/\v<=1073741824
  ·obtain⟨o1,o2,o3⟩:=hok;rw [zk ⟨o1,o2,o3⟩] at hE;obtain⟨eB,Xu⟩:=km (De.erD x W q len gt sn R V)
   rw [Xu] at hE HB;rw [zm o1] at HI;unfold De.AnsB at HB;by_cases hb0:eB=0
   ·subst hb0;subst hE;rw [aQ] at HB;have jA:erK x N c rn L 2 v=0:=by unfold erK;rw [kT,zk rfl,zk ⟨.inr rfl,za,o3⟩]
    have Ro:erW 0 q nu y=0:=by unfold erW;rw [zk rfl,zk ⟨⟨o1.1,za⟩,EM⟩]
    have hF0:erD (erW (erK x N c rn L 2 v) q nu y) W W=0:=by rw [jA,Ro];unfold erD;rw [zk rfl,zk rfl]
    refine rK (W:=W) w ro rn rc nu v len gt so sn sc y (De.deB len gt sn R V) (fun w=>bS w 0 N N (fun _=>c.toNat) (osl N c L F 2 y) nu (sz N c) (fun i=>enc (slC 2 N (fun _=>v) c.toNat (dH k.toNat c.toNat (De.deB len gt sn R V) i) i))) HA HI (fun u hu=>(HB u hu).mono ?_) (fun u ao cp hu qm=>(vQ h u ro rn rc A L C F (hr.below hu) nu 2 y v ao W cp _ qm 0 hF0).mono ?_) za za
    ·rintro e w' ⟨ao,cp,rfl,hb,j8⟩;exact⟨ao,cp,rfl,hb.bec,j8⟩
    ·rintro e w' ⟨ao,b8,T,U,rfl,EI,j8⟩;refine⟨ao,_,b8,rfl,fun w0 bi hs=>⟨ao,b8,T,U,rfl,fun _=>(EI rfl).mono hs,ap bi j8⟩,j8⟩
   ·rw [aZ _ hb0] at HB;rw [<- hE];refine kI eB hb0 (fX w ro rn rc nu v len gt so sn sc y 0 eB o HA HI (fun _ u hu=>(HB u hu).mono ?_) eB (.inr (.inr ⟨rfl,rfl,za,za,hb0,rfl⟩)));rintro e w' ⟨ao,cp,rfl,_,j8⟩;exact⟨ao,cp,rfl,j8⟩
  ·rw [zl hok] at hE;rw [<- hE];refine kI 2 zb ?_;refine fX w ro rn rc nu v len gt so sn sc y 0 0 (decide (0<=nu/\nu<q)) HA HI (fun e=>absurd rfl e) 2 (.inr (.inl ⟨rfl,?_,rfl⟩));by_cases h1:0<=nu/\nu<q
   ·by_cases h2:v<=y
    ·exact .inr (.inl h2)
    ·exact .inr (.inr (Classical.byContradiction fun h3=>hok ⟨h1,za,za⟩))
   ·exact .inl (zp h1)
 ·rw [zl e0] at hE;rw [<- hE];exact kI E0 e0 (fX w ro rn rc nu v len gt so sn sc y E0 0 (decide (0<=nu/\nu<q)) HA HI (fun e=>absurd rfl e) E0 (.inl ⟨e0,rfl⟩))
end Go.Proofs.YtemlojjkokooeaaGreat
namespace Go.Proofs.YtemlojjkokooeaaGreat.Cn
open Go.RowKit Go.Maps Go.ChangeShapes
theorem nK(p:Int->Bool):∀ l:List Int,(l.filter p=[]/\l.takeWhile (fun v=>!p v)=l)\/∃ a r,l=l.takeWhile (fun v=>!p v) ++ a :: r/\p a=o/\l.filter p=a :: r.filter p
 | []=>.inl ⟨rfl,rfl⟩
 | x :: l=>by
  cases hx:p x
  ·have e1:(x :: l).takeWhile (fun v=>!p v)=x :: l.takeWhile (fun v=>!p v):=by rw [List.takeWhile_cons,hx];rfl
   have e2:(x :: l).filter p=l.filter p:=by rw [List.filter_cons,hx];rfl
   rw [e1,e2];rcases nK p l with ⟨h1,h2⟩ | ⟨a,r,h1,h2,h3⟩
   ·exact .inl ⟨h1,by rw [h2]⟩
   ·exact .inr ⟨a,r,by rw [List.cons_append,<- h1],h2,h3⟩
  ·have e1:(x :: l).takeWhile (fun v=>!p v)=[]:=by rw [List.takeWhile_cons,hx];rfl
   have e2:(x :: l).filter p=x :: l.filter p:=by rw [List.filter_cons,hx];rfl
   rw [e1,e2];exact .inr ⟨x,l,rfl,hx,rfl⟩
theorem mg{p:Int->Bool}{v:Int}:∀ {l:List Int},v ∈ l.takeWhile p->p v=o
 | [],h=>absurd h zi
 | x :: l,h=>by
  rw [List.takeWhile_cons] at h;cases hx:p x
  ·rw [hx] at h;simp at h
  ·rw [hx] at h;rcases List.mem_cons.1 h with e | e
   ·rw [e];exact hx
   ·exact mg e
structure Who (p:Int->Bool) (l ws ms:List Int):Prop where
  big:∀ v,v ∈ l->1<=v
  ahead:∀ i v,l[i]? = some v->i<ms.length->p v=false/\ws.getD 0 0<v/\ms[i]? = some v/\ws.getD 1 0<v
  here:∀ v,l[ms.length]? = some v->p v=true/\v=ws.getD 0 0/\ws.getD 1 0<v
  behind:∀ i v,l[i]? = some v->ms.length<i->v<ws.getD 0 0/\(p v=true->v=ws.getD 1 0\/v<ws.getD 1 0)/\(p v=false->v ≠ ws.getD 1 0)
  few:ms.length<=l.length
  none:ws=[]->ms=l
  fall:∀ i u v,l[i]? = some u->l[i+1]? = some v->v<u
  two:∀ a b r,ws=a :: b :: r->b<a
  sub:∀ v,v ∈ ws->v ∈ l/\p v=true
theorem BC{p:Int->Bool}{l:List Int}(hf:l.Pairwise (fun a b=>b<a))(hb:∀ v,v ∈ l->1<=v):Who p l (l.filter p) (l.takeWhile (fun v=>!p v)):=by
 have Ur:∀ v,v ∈ l.takeWhile (fun v=>!p v)->p v=jb:=fun v hv=>by
  have:=mg hv
  simpa using this
 have Rp:(l.filter p).Pairwise (fun a b=>b<a):=hf.filter _;have z6:∀ i u v,l[i]? = B u->l[i+1]? = B v->v<u:=fun i u v h1 h2=>by
  obtain⟨i1,rfl⟩:=List.getElem?_eq_some_iff.1 h1;obtain⟨i2,rfl⟩:=List.getElem?_eq_some_iff.1 h2;exact List.pairwise_iff_getElem.1 hf i (i+1) i1 i2 za
 have NA:∀ v,v ∈ l.filter p->v ∈ l/\p v=o:=fun v hv=>by simpa using hv
 have NB:∀ a b r,l.filter p=a :: b :: r->b<a:=fun a b r h=>by
  rw [h] at Rp;exact(List.pairwise_cons.1 Rp).1 b zi
 rcases nK p l with ⟨h1,h2⟩ | ⟨a,r,h1,h2,h3⟩
 ·rw [h2];refine⟨hb,fun i v hv _=>?_,fun v hv=>?_,fun i v hv hi=>?_,je _,fun _=>rfl,z6,NB,NA⟩
  ·have hm:=List.mem_of_getElem? hv;have:=hb v hm;rw [h1];refine⟨?_,by simpa using by omega,hv,by simpa using by omega⟩;cases hp:p v
   ·rfl
   ·have:v ∈ l.filter p:=by simp [hm,hp]
    rw [h1] at this;cases this
  ·rw [List.getElem?_eq_none (je _)] at hv;cases hv
  ·rw [List.getElem?_eq_none za] at hv;cases hv
 ·obtain⟨ms,hm⟩:=fd (l.takeWhile (fun v=>!p v))
  rw [<- hm] at h1 Ur ⊢;have Us:=hf;rw [h1] at Us;obtain⟨q1,q2,q3⟩:=List.pairwise_append.1 Us;obtain⟨q4,q5⟩:=List.pairwise_cons.1 q2;have e0:(l.filter p).getD 0 0=a:=by rw [h3];rfl
  have Mc:(l.filter p).getD 1 0=0\/(l.filter p).getD 1 0 ∈ r.filter p:=by
   rw [h3];cases hc:r.filter p with
   | nil=>exact .inl rfl
   | cons b t=>exact .inr zi
  have KP:(l.filter p).getD 1 0<a:=by
   rcases Mc with e | e
   ·rw [e];have:=hb a (by rw [h1];simp);omega
   ·exact q4 _ (List.mem_filter.1 e).1
  refine⟨hb,fun i v hv hi=>?_,fun v hv=>?_,fun i v hv hi=>?_,by rw [h1];simp,fun h=>?_,z6,NB,NA⟩
  ·rw [h1,List.getElem?_append_left hi] at hv;have Li:=List.mem_of_getElem? hv;have:=q3 v Li a zi;rw [e0];exact⟨Ur v Li,this,hv,za⟩
  ·rw [h1,List.getElem?_append_right (je _),Nat.sub_self] at hv;obtain rfl:a=v:=by simpa using hv
   exact⟨h2,e0.symm,KP⟩
  ·rw [h1,List.getElem?_append_right za,show i-ms.length=(i-ms.length-1)+1 by omega,List.getElem?_cons_succ] at hv;have Li:=List.mem_of_getElem? hv;rw [e0];refine⟨q4 v Li,fun hp=>?_,fun hp e=>?_⟩
   ·have GR:v ∈ r.filter p:=by simp [Li,hp]
    have Rq:=Rp;rw [h3] at Rq ⊢;cases hc:r.filter p with
    | nil=>rw [hc] at GR;cases GR
    | cons b t =>
     rw [hc] at GR Rq;rcases List.mem_cons.1 GR with e | e
     ·exact .inl e
     ·exact .inr ((List.pairwise_cons.1 (List.pairwise_cons.1 Rq).2).1 v e)
   ·rcases Mc with e1 | e1
    ·have:=hb v (by rw [h1];simp [Li]);omega
    ·rw [<- e] at e1;rw [(List.mem_filter.1 e1).2] at hp;cases hp
  ·rw [h] at h3;cases h3
theorem BV(k:Int)(P Q:Nat->Int)(n:Nat)(hP:∀ i,0<=P i)(hQ:∀ i,0<=Q i):Who (enB k P Q n) (tvL P Q n) (wins k P Q n) (lost k P Q n) :=
 BC (tvL_fall P Q n) fun v hv=>by
  obtain⟨h0,d,_,h2⟩:=mem_tvL.1 hv;rcases h2 with e | e
  ·have:=hP d;omega
  ·have:=hQ d;omega
end Go.Proofs.YtemlojjkokooeaaGreat.Cn
namespace Go.Proofs.YtemlojjkokooeaaGreat
theorem lh{k:Int}{P Q:Nat->Int}{N:Nat}(kD:1<=k)(h:0<(Cn.wins k P Q N).length){v:Int}(hv:(Cn.wins k P Q N).getD 0 0=v):v ≠ 0/\k<=(Cn.ct P Q N v:Int)/\∀ u,v<u->u ≠ 0->¬ k<=(Cn.ct P Q N u:Int):=by
 have hf:(Cn.wins k P Q N).Pairwise (fun a b=>b<a):=(Cn.tvL_fall P Q N).filter _;have GR:∀ u,u ∈ Cn.wins k P Q N->u ≠ 0/\k<=(Cn.ct P Q N u:Int):=fun u hu=>⟨(Cn.mem_tv.1 (List.mem_filter.1 hu).1).1,of_decide_eq_true (List.mem_filter.1 hu).2⟩
 have hall:∀ u,u ≠ 0->k<=(Cn.ct P Q N u:Int)->u ∈ Cn.wins k P Q N:=fun u hu hk=>by
  unfold Cn.wins;refine List.mem_filter.2 ⟨Cn.mem_tv.2 ⟨hu,fun e=>?_⟩,zm hk⟩;unfold Cn.ct at hk;rw [e] at hk;simp at hk;omega
 cases e:Cn.wins k P Q N with
 | nil=>rw [e] at h;simp at h
 | cons a r =>
  rw [e] at hf GR hv hall;obtain rfl:a=v:=hv;obtain⟨h1,h2⟩:=GR a zi;refine⟨h1,h2,fun u hu h0 hk=>?_⟩;rcases List.mem_cons.1 (hall u h0 hk) with g | g
  ·omega
  ·have:=(List.pairwise_cons.1 hf).1 u g;omega
open Go.RowKit
theorem vB{k r c q:Int}{N W:Nat}{x:Int}(h:Par k r c q N W x)(w:ja)(ro:Option jd)(rn rc:Nat)(A:Nat->Option jd)(L C:Nat->Nat)(F:Nat->Nat->UInt8)(hr:Rw w ro rn A L C F)(E:Int)(hE:erR x N c rn L=E)(y:Int)(hy:Cn.rdv E (Cn.wins k (Cn.hP N c L F) (Cn.hQ N c L F) N) 1=y)(z:Bool)(hz:Cn.rdb E (Cn.wins k (Cn.hP N c L F) (Cn.hQ N c L F) N) 1=z):Askd w 108 k r c q ro rn rc y z E:=fun u hu=>by
 obtain⟨w0,bi⟩:=fd (u.alloc (jc #[J O k,J O r,J O c,J O q,Y ro rn rc] 136))
 have b0:=jt bi
 have HH:=Cn.Runner_any h w0 ro rn rc A L C F (hr.below (ap hu b0)) E hE y hy z hz;clear hr hE h hy hz;go_enter Tryz.func108,Tryz.ntmps108
 go_wp2_with fail
 rw [<- bi];refine HH.mono ?_;rintro e wa ⟨rfl,ha⟩;have BA:=am (ap b0 ha);clear ha b0 bi HH;go_wp2_with fail
 refine bodyPost_ret (v:=f #[J O y,jf z,J O E]) (by simp [results,Tryz.results108,go_sem]) rfl ?_;exact⟨rfl,BA.out⟩
theorem ir{k r c q:Int}(w:ja)(ro:Option jd)(rn rc:Nat)(nu y0 y E0 eL:Int)(ok:Bool)
  (HA:s (∀ u,b7 w u->G Z 97 #[Pz k r c q,Y ro rn rc,.func (.func 108) #[] #[]] u fun e w'=>e=X (f #[J O y0,J O E0])/\b7 u w'))
  (HI:s (∀ u,G Z 99 #[Pz k r c q,J O nu] u fun e w'=>e=X (jf ok)/\b7 u w'))
  (HL:s (∀ u,b7 w u->G Z 105 #[Pz k r c q,Y ro rn rc,.func (.func 98) #[] #[]] u fun e w'=>e=X (f #[J O y,J O eL])/\b7 u w')) (E:Int)
  (hE:(E0 ≠ 0/\E=E0)\/(E0=0/\ok=jb/\E=2)\/(E0=0/\ok=o/\eL ≠ 0/\E=eL)) :
  G Z 41 #[Pz k r c q,Y ro rn rc,J O nu] w fun e w'=>e=X (f #[Y S 0 0,J O E])/\b7 w w':=by
 obtain⟨w0,bi⟩:=jM w k r c q
 have b0:=jt bi
 have HQ:=am fun u (hu:b7 w0 u)=>ak bi hu;have io:=am b0;rcases hE with ⟨h0,rfl⟩ | ⟨rfl,rfl,rfl⟩ | ⟨rfl,rfl,h4,rfl⟩
 ·have hz:(E != 0)=o:=by simpa using h0
  go_enter Tryz.func41,Tryz.ntmps41
  go_wp2_with fail
  rw [<- bi];clear bi b0;refine(HA.out _ io.out).mono ?_;rintro e wa ⟨rfl,ha⟩;go_wp2_with fail
  go_ret2;exact⟨rfl,ap io.out ha⟩
 ·go_enter Tryz.func41,Tryz.ntmps41
  go_wp2_with fail
  rw [<- bi];clear bi b0;refine(HA.out _ io.out).mono ?_;rintro e wa ⟨rfl,ha⟩;obtain⟨s0,s1,s2,s3⟩:=HQ.out wa ha;go_wp2_with fail
  refine(HI.out _).mono ?_;rintro e wb ⟨rfl,hb⟩;have kK:=ap ha hb;clear s0 s1 s2 s3 ha hb;go_wp2_with fail
  go_ret2;exact⟨rfl,ap io.out kK⟩
 ·have hz:(E != 0)=o:=by simpa using h4
  go_enter Tryz.func41,Tryz.ntmps41
  go_wp2_with fail
  rw [<- bi];clear bi b0;refine(HA.out _ io.out).mono ?_;rintro e wa ⟨rfl,ha⟩;obtain⟨s0,s1,s2,s3⟩:=HQ.out wa ha;go_wp2_with fail
  refine(HI.out _).mono ?_;rintro e wb ⟨rfl,hb⟩;have kK:=ap ha hb;clear s0 s1 s2 s3 ha hb;obtain⟨s0,s1,s2,s3⟩:=HQ.out wb kK;go_wp2_with fail
  refine(HL.out _ (ap io.out kK)).mono ?_;rintro e wc ⟨rfl,hc⟩;have FI:=ap kK hc;clear s0 s1 s2 s3 kK hc;go_wp2_with fail
  go_ret2;exact⟨rfl,ap io.out FI⟩
theorem tw{k r c q:Int}(w:ja)(ro:Option jd)(rn rc:Nat)(nu y0 y:Int)(P:ja->Ending->ja->Prop)
  (HA:s (∀ u,b7 w u->G Z 97 #[Pz k r c q,Y ro rn rc,.func (.func 108) #[] #[]] u fun e w'=>e=X (f #[J O y0,J O 0])/\b7 u w'))
  (HI:s (∀ u,G Z 99 #[Pz k r c q,J O nu] u fun e w'=>e=X (jf o)/\b7 u w'))
  (HL:s (∀ u,b7 w u->G Z 105 #[Pz k r c q,Y ro rn rc,.func (.func 98) #[] #[]] u fun e w'=>e=X (f #[J O y,J O 0])/\b7 u w'))
  (HF:s (∀ u,b7 w u->G Z 24 #[Pz k r c q,Y ro rn rc,J O nu,J .u8 2,J O y0,J O y] u fun e w'=>∃ lo ln lc E,e=X (f #[Y lo ln lc,J O E])/\(∀ w0,b7 w0 u->w0.heap.size<=u.heap.size->P w0 (X (f #[Y lo ln lc,J O E])) w')/\b7 u w')) :
  G Z 41 #[Pz k r c q,Y ro rn rc,J O nu] w fun e w'=>P w e w':=by
 obtain⟨w0,bi⟩:=jM w k r c q
 have b0:=jt bi
 have HQ:=am fun u (hu:b7 w0 u)=>ak bi hu;have io:=am b0;go_enter Tryz.func41,Tryz.ntmps41
 go_wp2_with fail
 rw [<- bi];clear bi b0;refine(HA.out _ io.out).mono ?_;rintro e wa ⟨rfl,ha⟩;obtain⟨s0,s1,s2,s3⟩:=HQ.out wa ha;go_wp2_with fail
 refine(HI.out _).mono ?_;rintro e wb ⟨rfl,hb⟩;have kK:=ap ha hb;clear s0 s1 s2 s3 ha hb;obtain⟨s0,s1,s2,s3⟩:=HQ.out wb kK;go_wp2_with fail
 refine(HL.out _ (ap io.out kK)).mono ?_;rintro e wc ⟨rfl,hc⟩;have FI:=ap kK hc;clear s0 s1 s2 s3 kK hc;obtain⟨s0,s1,s2,s3⟩:=HQ.out wc FI;go_wp2_with fail
 refine(HF.out _ (ap io.out FI)).mono ?_;rintro e wd ⟨lo,ln,lc,E,rfl,hP,hd⟩;have Nz:=hP w (ap io.out FI) (ap io.out FI).size;clear s0 s1 s2 s3 hP;go_wp2_with fail
 exact Nz
def rnV (k:Int) (N:Nat) (c:Int) (L:Nat->Nat) (F:Nat->Nat->UInt8):Int:=(Cn.wins k (Cn.hP N c L F) (Cn.hQ N c L F) N).getD 1 0
theorem Ek(k:Int)(N:Nat)(c:Int)(L:Nat->Nat)(F:Nat->Nat->UInt8):0<=rnV k N c L F/\rnV k N c L F<=1073741824:=by
 unfold rnV
 match h:Cn.wins k (Cn.hP N c L F) (Cn.hQ N c L F) N with
 | []=>exact⟨Int.le_refl 0,zb⟩
 | [_]=>exact⟨Int.le_refl 0,show (0:Int)<=1073741824 by decide⟩
 | b :: a :: l =>
  have hm:a ∈ Cn.wins k (Cn.hP N c L F) (Cn.hQ N c L F) N:=by rw [h];simp
  obtain⟨_,d,_,h2⟩:=Cn.mem_tvL.1 (List.mem_filter.1 hm).1;show 0<=a/\a<=_;rcases h2 with e | e
  ·rw [<- e];exact Cn.hP_bd N c L F d
  ·rw [<- e];exact Cn.hQ_bd N c L F d
def vL (x:Int) (k c q nu:Int) (N rn:Nat) (L:Nat->Nat) (F:Nat->Nat->UInt8):Int :=
  if erR x N c rn L=0 then (if 0<=nu/\nu<q then (if wnB k N c L F=o then erL k.toNat (zv N c L F 2 (wnV k N c L F)) N else 5) else 2) else erR x N c rn L
theorem Ah{k r c q:Int}{N W:Nat}{x:Int}(h:Par k r c q N W x)(w:ja)(ro:Option jd)(rn rc:Nat)(A:Nat->Option jd)(L C:Nat->Nat)(F:Nat->Nat->UInt8)(hr:Rw w ro rn A L C F)(nu:Int)(kD:1<=k\/x ≠ 0)(E:Int)(hE:vL x k c q nu N rn L F=E):
  G Z 41 #[Pz k r c q,Y ro rn rc,J O nu] w (bS w E (Cod.cnt (mis (zv N c L F 2 (wnV k N c L F)) c.toNat) N) N (mis (zv N c L F 2 (wnV k N c L F)) c.toNat) (osl N c L F 2 (rnV k N c L F)) nu (sz N c) (fun i=>enc (slC 2 N (tS (yy N c L F) 2 (wnV k N c L F) (2*N)).V c.toNat (cH k.toNat (zv N c L F 2 (wnV k N c L F)) N i) i))):=by
 obtain⟨E0,kT⟩:=km (erR x N c rn L)
 obtain⟨y,hy⟩:=km (Cn.rdv E0 (Cn.wins k (Cn.hP N c L F) (Cn.hQ N c L F) N) 0)
 obtain⟨z,hz⟩:=km (Cn.rdb E0 (Cn.wins k (Cn.hP N c L F) (Cn.hQ N c L F) N) 0)
 obtain⟨y0,qK⟩:∃ y,Cn.rdv E0 (Cn.wins k (Cn.hP N c L F) (Cn.hQ N c L F) N) 1=y:=⟨_,rfl⟩
 have HA:=fun u (hu:b7 w u)=>iW 108 (fun _ _=>rfl) u ro rn rc y0 _ E0 ((vB h w ro rn rc A L C F hr E0 kT y0 qK _ rfl).below hu);have HL:=fun u (hu:b7 w u)=>iy 98 (fun _ _=>rfl) u ro rn rc y z E0 ((iV h w ro rn rc A L C F hr E0 kT y hy z hz).below hu);have HI:=fun u=>lO u k r c q nu;have kI:∀ E',E' ≠ 0->(G Z 41 #[Pz k r c q,Y ro rn rc,J O nu] w fun e w'=>e=X (f #[Y S 0 0,J O E'])/\b7 w w')->G Z 41 #[Pz k r c q,Y ro rn rc,J O nu] w (bS w E' (Cod.cnt (mis (zv N c L F 2 (wnV k N c L F)) c.toNat) N) N (mis (zv N c L F 2 (wnV k N c L F)) c.toNat) (osl N c L F 2 (rnV k N c L F)) nu (sz N c) (fun i=>enc (slC 2 N (tS (yy N c L F) 2 (wnV k N c L F) (2*N)).V c.toNat (cH k.toNat (zv N c L F 2 (wnV k N c L F)) N i) i))):=fun E' f9 hc=>by
  refine hc.mono ?_;rintro e w' ⟨rfl,hb⟩;exact⟨S,0,fun _=>S,fun _=>0,by rw [aZ _ f9],fun e=>absurd e f9,hb⟩
 unfold vL at hE;rw [kT] at hE;by_cases e0:E0=0
 ·subst e0;rw [zk rfl] at hE;have Ji:y=wnV k N c L F:=by rw [<- hy];unfold Cn.rdv wnV;rw [zk rfl]
  have Rr:y0=rnV k N c L F:=by rw [<- qK];unfold Cn.rdv rnV;rw [zk rfl]
  have Hl:z=wnB k N c L F:=by rw [<- hz];unfold Cn.rdb wnB;simp
  have hx:x=0:=(bW kT).1;by_cases hok:0<=nu/\nu<q
  ·rw [zk hok,<- Hl] at hE;rw [zm hok] at HI;unfold fP lenO at HL;rw [zk rfl] at HL;cases z
   ·rw [zl zb] at hE;rw [zk ⟨rfl,rfl⟩,zl zb] at HL;rw [<- hE];exact kI 5 zb (ir w ro rn rc nu y0 _ 0 5 o HA HI HL 5 (.inr (.inr ⟨rfl,rfl,zb,rfl⟩)))
   ·rw [zk rfl] at hE;rw [zk rfl,zl (fun e=>by cases e.2)] at HL;rw [Ji] at HL;rw [Rr] at HA;have FJ:0<(Cn.wins k (Cn.hP N c L F) (Cn.hQ N c L F) N).length:=of_decide_eq_true Hl.symm;have xS:1<=k:=by
     rcases kD with a | a
     ·exact a
     ·exact absurd hx a
    have f9:wnV k N c L F ≠ 0:=(lh xS FJ (rfl:(Cn.wins k (Cn.hP N c L F) (Cn.hQ N c L F) N).getD 0 0=wnV k N c L F)).1;have hb:=ny k N c L F;have jA:erK x N c rn L 2 (wnV k N c L F)=0:=by unfold erK;rw [kT,zk rfl,zk ⟨.inr rfl,za,hb.2⟩]
    have Ro:erW 0 q nu (rnV k N c L F)=0:=by unfold erW;rw [zk rfl,zk ⟨⟨hok.1,za⟩,Ek k N c L F⟩]
    have hF0:dW (erW (erK x N c rn L 2 (wnV k N c L F)) q nu (rnV k N c L F)) (erL k.toNat (zv N c L F 2 (wnV k N c L F)) N)=E:=by rw [jA,Ro];unfold dW;rw [zk rfl];exact hE
    refine tw w ro rn rc nu (rnV k N c L F) (wnV k N c L F) (fun w=>bS w E (Cod.cnt (mis (zv N c L F 2 (wnV k N c L F)) c.toNat) N) N (mis (zv N c L F 2 (wnV k N c L F)) c.toNat) (osl N c L F 2 (rnV k N c L F)) nu (sz N c) (fun i=>enc (slC 2 N (tS (yy N c L F) 2 (wnV k N c L F) (2*N)).V c.toNat (cH k.toNat (zv N c L F 2 (wnV k N c L F)) N i) i))) HA HI HL (fun u hu=>(wV h u ro rn rc A L C F (hr.below hu) nu 2 (rnV k N c L F) (wnV k N c L F) E hF0).mono ?_);rintro e w' ⟨ao,b8,T,U,rfl,EI,j8⟩;exact⟨ao,_,b8,E,rfl,fun w0 bi hs=>⟨ao,b8,T,U,rfl,fun e=>(EI e).mono hs,ap bi j8⟩,j8⟩
  ·rw [zl hok] at hE;rw [<- hE];exact kI 2 zb (ir w ro rn rc nu y0 _ 0 _ (decide (0<=nu/\nu<q)) HA HI HL 2 (.inr (.inl ⟨rfl,zp hok,rfl⟩)))
 ·rw [zl e0] at hE;rw [<- hE];exact kI E0 e0 (ir w ro rn rc nu y0 _ E0 _ (decide (0<=nu/\nu<q)) HA HI HL E0 (.inl ⟨e0,rfl⟩))
end Go.Proofs.YtemlojjkokooeaaGreat
namespace Go.Proofs.YtemlojjkokooeaaGreat.Cn
open Go.RowKit
theorem BJ{N:Nat}{c ix:Int}{n:Nat}{F:Nat->UInt8}(h:(he 0 N c ix n F).ce=0):he 0 N c ix n F=zSl:=by
 rcases pk N c ix n F with e | ⟨g,_,e⟩
 ·exact e
 ·rw [e] at h;have:=(dx (eH g).2.2.2).1.1;omega
theorem et{k r c q:Int}{N W:Nat}(h:Par k r c q N W 0)(w:ja)(b0:Option jd)(n m:Nat)(F:Nat->UInt8)(hb:Bec w b0 n m F)(hn:n<=9223372036854775807)(ix:Nat)(v:Int)(hv:hs N c ix n F=v):
  G Z 240 #[Pz k r c q,Y b0 n m,J O (ix:Int)] w fun e w'=>e=X (J O v)/\b7 w w':=by
 obtain⟨w0,bi⟩:=jM w k r c q
 have Ks:b7 w w0:=by rw [bi];exact bal _ _
 obtain⟨y,hy⟩:=km (he 0 N c (ix:Int) n F)
 have HO:=fg h w0 b0 n m F (hb.below Ks) hn (ix:Int) y hy;have Kt:ev (ofK 2 y)=v:=by rw [<- hy];exact hv
 have hz:y.ce=0->y=zSl:=fun e=>by rw [<- hy];exact BJ (by rw [hy];exact e)
 have D6:y.vn<=16:=by rw [<- hy];exact Nat.le_trans Ae h.le
 clear hv hy hb h;unfold slv at HO;by_cases e0:y.ce=0
 ·obtain rfl:=hz e0;obtain rfl:v=0:=by rw [<- Kt,AM];rfl
  rw [zp (fun h=>h e0)] at HO;clear hz e0 Kt;go_enter Tryz.func240,Tryz.ntmps240
  go_wp2_with fail
  rw [<- bi];refine HO.mono ?_;rintro e wa ⟨ao,ca,bo,cb,rfl,hg,ha⟩;have BA:=am (ap Ks ha);clear hg ha bi Ks HO;go_wp2_with fail
  go_ret;exact⟨rfl,aa BA.out _⟩
 ·rw [zm e0] at HO;by_cases hk:y.kd=2
  ·have xF:(((y.kd.toNat:Nat):Int) != 2)=jb:=by rw [hk];rfl
   have M1:ofK 2 y=y:=zk hk;rw [M1] at Kt;have Ut:=am Kt;clear hz e0 Kt M1 hk;go_enter Tryz.func240,Tryz.ntmps240
   go_wp2_with fail
   rw [<- bi];refine HO.mono ?_;rintro e wa ⟨ao,ca,bo,cb,rfl,hg,ha⟩;have BA:=am (ap Ks ha);have HG:=am (hg.has.vec.rd);obtain⟨wb,jD⟩:=fd (wa.alloc (jc #[J .u8 ((y.kd.toNat:Nat):Int),J O y.ix,J O y.ce,J O y.st,Y ao y.vn ca,Y bo y.dn cb] 107))
   have BB:s (b7 wa wb):=by show I _ _ _;rw [jD];exact bal _ _
   have LB:=am fun u (hu:b7 wb u)=>(ah BA.out jD).below hu;clear hg ha bi Ks HO;go_wp2_with fail
   rw [<- jD];clear jD;go_loopw [9] (fun z wr=>∃ i:Nat,i<=y.vn/\z=J O (i:Int)/\s (∀ j,j<i->y.V j=y.ce)/\s (b7 wb wr)) (fun z _=>y.vn-(intOf z).toNat)
   case atStart=>exact⟨0,Nat.zero_le _,rfl,(fun j hj=>absurd hj za),Below.refl _ _⟩
   case round =>
    obtain⟨i,hi,rfl,hall,jB⟩:=hrel;have pq:=LB.out wr jB.out;have s2:=pq.cz 2;have s4:=pq.cz 4;clear pq;by_cases hlt:i<y.vn
    ·obtain⟨gv,ov,rfl,yz⟩:=HG.out za;have cv:wr.cell? ⟨gv,ov+i,S⟩=B (J O (y.V i)):=held (yz i hlt) (ap BB.out jB.out);have i1:(0:Int)<=(i:Int):=za;have i2:(i:Int)<(y.vn:Int):=za;clear yz;by_cases hq:y.V i=y.ce
     ·have Xv:(y.V i != y.ce)=jb:=by simpa using hq
      have yi:s (∀ j,j<i+1->y.V j=y.ce):=fun j hj=>by
       by_cases e:j=i
       ·rw [e];exact hq
       ·exact hall.out j za
      clear hq;go_wp2_with fail
      go_quiet (fail)
      obtain⟨wq,yW⟩:=fd (wr.drewN nq)
      have BQ:s (b7 wb wq):=by show I _ _ _;rw [yW];exact ap jB.out (below_drewN _ _ _)
      rw [<- yW];clear yW;go_wp2_with fail
      go_roundw
      case rel=>exact⟨i+1,za,by go_num,yi.out,BQ.out⟩
      case measure=>simp [intOf];omega
     ·have Xv:(y.V i != y.ce)=o:=by simpa using hq
      obtain rfl:v=0:=by rw [<- Ut.out];exact zl fun g=>hq (g i hlt)
      clear hq;go_wp2_with fail
      go_quiet (fail)
      obtain⟨wq,yW⟩:=fd (wr.drewN nq)
      have BQ:s (b7 wb wq):=by show I _ _ _;rw [yW];exact ap jB.out (below_drewN _ _ _)
      rw [<- yW];clear yW;go_wp2_with fail
      go_ret;exact⟨rfl,ap (ap BA.out BB.out) BQ.out⟩
    ·obtain rfl:y.ce=v:=by rw [<- Ut.out];exact(zk fun j hj=>hall.out j za).symm
     have i2:¬ (i:Int)<(y.vn:Int):=za;go_wp2_with fail
     go_ret;exact⟨rfl,ap (ap BA.out BB.out) jB.out⟩
  ·have xF:(((y.kd.toNat:Nat):Int) != 2)=o:=by
    simp only [bne_iff_ne,ne_eq];intro e;exact hk (UInt8.toNat_inj.1 (by show y.kd.toNat=2;omega))
   obtain rfl:v=0:=by rw [<- Kt,show ofK 2 y=zSl from zl hk];rfl
   clear hz e0 Kt hk;go_enter Tryz.func240,Tryz.ntmps240
   go_wp2_with fail
   rw [<- bi];refine HO.mono ?_;rintro e wa ⟨ao,ca,bo,cb,rfl,hg,ha⟩;have BA:=am (ap Ks ha);clear hg ha bi Ks HO;go_wp2_with fail
   go_ret;exact⟨rfl,aa BA.out _⟩
end Go.Proofs.YtemlojjkokooeaaGreat.Cn
