import Derived.Test.YtemlojjkokooeaaGreatTm22
open Go.Value renaming int->J,slice->Q,tuple->p,agg->jd
open Go.IntKind renaming i64->O,u8->S
open Go.RowKit renaming Below->Z,Hid->X
open Option renaming none->U,some->P
open Go.Proofs.Tryz renaming prog->G
open Nat renaming le_refl->H,zero_le->ja,le_succ->jb
open Go.RowKit.Below renaming refl->T
open Go renaming World->R,Calls->jf,Addr->jg
open Go.Obj renaming cells->f
open Go.Ending renaming returned->m
open Bool renaming false->jc,true->je
set_option maxHeartbeats 16000000
set_option maxRecDepth 100000
namespace Go.Proofs.YtemlojjkokooeaaGreat
open Go.RowKit
theorem bW{x:Int}{N:Nat}{c:Int}{rn:Nat}{L:Nat->Nat}(h:erR x N c rn L=0):x=0/\rn=N/\∀ j,j<2*rn->L j=0\/L j=sz N c:=by
 unfold erR at h;by_cases e:x=0
 ·rw [zk e] at h;by_cases g:rn=N/\∀ j,j<2*rn->L j=0\/L j=sz N c
  ·exact⟨e,g⟩
  ·rw [zl g] at h;exact absurd h zb
 ·rw [zl e] at h;exact absurd h e
theorem ec{x:Int}{N:Nat}{c:Int}{rn:Nat}{L:Nat->Nat}{kd:UInt8}{v:Int}(h:erK x N c rn L kd v=0):erR x N c rn L=0/\(kd=1\/kd=2)/\1<=v/\v<=1073741824:=by
 unfold erK at h;by_cases e:erR x N c rn L=0
 ·rw [zk e] at h;by_cases g:(kd=1\/kd=2)/\1<=v/\v<=1073741824
  ·exact⟨e,g⟩
  ·rw [zl g] at h;exact absurd h zb
 ·rw [zl e] at h;exact absurd h e
theorem oB{E q nu ke:Int}(h:erW E q nu ke=0):E=0/\(0<=nu/\nu<=q-1)/\0<=ke/\ke<=1073741824:=by
 unfold erW at h;by_cases e:E=0
 ·rw [zk e] at h;by_cases g:(0<=nu/\nu<=q-1)/\0<=ke/\ke<=1073741824
  ·exact⟨e,g⟩
  ·rw [zl g] at h;exact absurd h zb
 ·rw [zl e] at h;exact absurd h e
theorem Par.rows{k r c q:Int}{N W:Nat}(h:Par k r c q N W 0):8<=q/\q<=256:=by
 rcases h with ⟨h,_⟩ | ⟨_,_,_,h⟩
 ·obtain⟨h1,h2,h3,h4,h5,h6,h7,h8,h9⟩:=aB h;exact⟨h8,h9⟩
 ·exact absurd h zb
theorem gC{k r c q:Int}{N W:Nat}{x:Int}(h:Par k r c q N W x)(w:R)(ro:Option jg)(rn rc:Nat)(A:Nat->Option jg)(L C:Nat->Nat)(F:Nat->Nat->UInt8)(hr:Rw w ro rn A L C F)(nu:Int)(kd:UInt8)(ke v:Int)(E:Int)(hE:erW (erK x N c rn L kd v) q nu ke=E):
  jf G 78 #[Pz k r c q,Q ro rn rc,J O nu,J S ((kd.toNat:Nat):Int),J O ke,J O v] w fun e w'=>e=m (p #[if E=0 then stv k r c q ro rn rc kd else stz,J O E])/\b7 w w':=by
 obtain⟨D,hD⟩:=km (erK x N c rn L kd v)
 have HC:=am fun u (hu:b7 w u)=>ma h u ro rn rc A L C F (hr.below hu) kd v D hD;rw [hD] at hE;have hq:D=0->8<=q/\q<=256:=fun e=>by
  obtain⟨h1,_⟩:=ec (hD.trans e);obtain⟨rfl,_⟩:=bW h1;exact h.rows
 clear hD h hr;obtain⟨w0,bi⟩:=jM w k r c q
 have b0:=jt bi
 have z0:=ks bi
 obtain⟨w1,ci⟩:=fd (w0.alloc (f #[J O 0,J O 0,J O 0,J O 0,Q U 0 0,J S 0] 99))
 have b1:=jt ci
 have B1:=am (ap b0 b1);have L0:=am fun v (hv:b7 w1 v)=>(ah (T _ _) bi).below (ap b1 hv);have L1:X (∀ v,b7 w1 v->At w v (w.heap.size+1) #[J O 0,J O 0,J O 0,J O 0,Q U 0 0,J S 0] 99):=fun v hv=>by rw [<- z0];exact(ah b0 ci).below hv
 clear b0 b1 z0;unfold stv stz at *;generalize ((kd.toNat:Nat):Int)=kv at *
 by_cases hd:D=0
 ·subst hd;obtain⟨q1,q2⟩:=hq rfl;rw [zk rfl] at HC;unfold erW at hE;rw [zk rfl] at hE;obtain⟨y,hy⟩:=km (decide (0<=nu/\nu<=q-1))
  obtain⟨y',Oa⟩:=km (decide (0<=ke/\ke<=1073741824))
  have HW:=fun w=>ej nu 0 (q-1) w;have Ob:=fun w=>ej ke 0 1073741824 w;rw [hy] at HW;rw [Oa] at Ob;have HE:X ((y=je->y'=je->E=0)/\(y=je->y'=jc->E=2)/\(y=jc->E=2)):=by
   refine⟨fun a b=>?_,fun a b=>?_,fun a=>?_⟩
   ·rw [zk ⟨of_decide_eq_true (hy.trans a),of_decide_eq_true (Oa.trans b)⟩] at hE;exact hE.symm
   ·rw [zl fun g=>of_decide_eq_false (Oa.trans b) g.2] at hE;exact hE.symm
   ·rw [zl fun g=>of_decide_eq_false (hy.trans a) g.1] at hE;exact hE.symm
  clear hE hy Oa hq;cases y
  ·obtain rfl:E=2:=HE.out.2.2 rfl;rw [zl (show ¬ (2:Int)=0 by decide)];go_enter Tryz.func78,Tryz.ntmps78
   go_wp2_with fail
   rw [<- bi,<- ci];refine(HC.out _ B1.out).mono ?_;rintro e wa ⟨rfl,ha⟩;have q0:=L0.out wa ha;have s0:=fun o=>(q0.alloc o).cz 0;have s1:=fun o=>(q0.alloc o).cz 1;have s2:=fun o=>(q0.alloc o).cz 2;have s3:=fun o=>(q0.alloc o).cz 3;have qB:=L1.out wa ha;have t0:=fun o=>(qB.alloc o).cz 0;have t1:=fun o=>(qB.alloc o).cz 1;have t2:=fun o=>(qB.alloc o).cz 2;have t3:=fun o=>(qB.alloc o).cz 3;have t4:=fun o=>(qB.alloc o).cz 4;have t5:=fun o=>(qB.alloc o).cz 5;have tf:=fun o=>(qB.alloc o).free;have HA:=am ha;clear q0 qB ha bi ci;go_wp2_with fail
   refine(HW _).mono ?_;rintro e w' ⟨rfl,g8⟩;obtain rfl:=g8.symm;go_wp2_with (go_at_call 132;refine(Ob _).mono ?_;rintro e w' ⟨rfl,g8⟩;obtain rfl:=g8.symm)
   refine bodyPost_ret (v:=p #[jd #[J O 0,J O 0,J O 0,J O 0,Q U 0 0,J S 0],J O 2]) (by simp [results,Tryz.results78,go_sem,t0,t1,t2,t3,t4,t5]) rfl ⟨rfl,?_⟩;exact aC (ap (ap B1.out HA.out) (bal _ _)) (jb _) _ _ _ _ _ _
  ·cases y'
   ·obtain rfl:E=2:=HE.out.2.1 rfl rfl;rw [zl (show ¬ (2:Int)=0 by decide)];go_enter Tryz.func78,Tryz.ntmps78
    go_wp2_with fail
    rw [<- bi,<- ci];refine(HC.out _ B1.out).mono ?_;rintro e wa ⟨rfl,ha⟩;have q0:=L0.out wa ha;have s0:=fun o=>(q0.alloc o).cz 0;have s1:=fun o=>(q0.alloc o).cz 1;have s2:=fun o=>(q0.alloc o).cz 2;have s3:=fun o=>(q0.alloc o).cz 3;have qB:=L1.out wa ha;have t0:=fun o=>(qB.alloc o).cz 0;have t1:=fun o=>(qB.alloc o).cz 1;have t2:=fun o=>(qB.alloc o).cz 2;have t3:=fun o=>(qB.alloc o).cz 3;have t4:=fun o=>(qB.alloc o).cz 4;have t5:=fun o=>(qB.alloc o).cz 5;have tf:=fun o=>(qB.alloc o).free;have HA:=am ha;clear q0 qB ha bi ci;go_wp2_with fail
    refine(HW _).mono ?_;rintro e w' ⟨rfl,g8⟩;obtain rfl:=g8.symm;go_wp2_with (go_at_call 132;refine(Ob _).mono ?_;rintro e w' ⟨rfl,g8⟩;obtain rfl:=g8.symm)
    refine bodyPost_ret (v:=p #[jd #[J O 0,J O 0,J O 0,J O 0,Q U 0 0,J S 0],J O 2]) (by simp [results,Tryz.results78,go_sem,t0,t1,t2,t3,t4,t5]) rfl ⟨rfl,?_⟩;exact aC (ap (ap B1.out HA.out) (bal _ _)) (jb _) _ _ _ _ _ _
   ·obtain rfl:E=0:=HE.out.1 rfl rfl;rw [zk rfl];go_enter Tryz.func78,Tryz.ntmps78
    go_wp2_with fail
    rw [<- bi,<- ci];refine(HC.out _ B1.out).mono ?_;rintro e wa ⟨rfl,ha⟩;have q0:=L0.out wa ha;have s0:=fun o=>(q0.alloc o).cz 0;have s1:=fun o=>(q0.alloc o).cz 1;have s2:=fun o=>(q0.alloc o).cz 2;have s3:=fun o=>(q0.alloc o).cz 3;have qB:=L1.out wa ha;have t0:=fun o=>(qB.alloc o).cz 0;have t1:=fun o=>(qB.alloc o).cz 1;have t2:=fun o=>(qB.alloc o).cz 2;have t3:=fun o=>(qB.alloc o).cz 3;have t4:=fun o=>(qB.alloc o).cz 4;have t5:=fun o=>(qB.alloc o).cz 5;have tf:=fun o=>(qB.alloc o).free;have HA:=am ha;clear q0 qB ha bi ci;go_wp2_with fail
    refine(HW _).mono ?_;rintro e w' ⟨rfl,g8⟩;obtain rfl:=g8.symm;go_wp2_with (go_at_call 132;refine(Ob _).mono ?_;rintro e w' ⟨rfl,g8⟩;obtain rfl:=g8.symm)
    refine bodyPost_ret (v:=p #[jd #[J O k,J O r,J O c,J O q,Q ro rn rc,J S kv],J O 0]) (by simp [results,Tryz.results78,go_sem,t0,t1,t2,t3,t4,t5]) rfl ⟨rfl,?_⟩;exact aC (ap (ap B1.out HA.out) (bal _ _)) (jb _) _ _ _ _ _ _
 ·rw [zl hd] at HC;obtain rfl:D=E:=by unfold erW at hE;rw [zl hd] at hE;exact hE
  rw [zl hd];have e1:(D != 0)=je:=by simp [hd]
  clear hE hq;go_enter Tryz.func78,Tryz.ntmps78
  go_wp2_with fail
  rw [<- bi,<- ci];refine(HC.out _ B1.out).mono ?_;rintro e wa ⟨rfl,ha⟩;have q0:=L0.out wa ha;have s0:=fun o=>(q0.alloc o).cz 0;have s1:=fun o=>(q0.alloc o).cz 1;have s2:=fun o=>(q0.alloc o).cz 2;have s3:=fun o=>(q0.alloc o).cz 3;have qB:=L1.out wa ha;have t0:=fun o=>(qB.alloc o).cz 0;have t1:=fun o=>(qB.alloc o).cz 1;have t2:=fun o=>(qB.alloc o).cz 2;have t3:=fun o=>(qB.alloc o).cz 3;have t4:=fun o=>(qB.alloc o).cz 4;have t5:=fun o=>(qB.alloc o).cz 5;have tf:=fun o=>(qB.alloc o).free;have HA:=am ha;clear q0 qB ha bi ci;go_wp2_with fail
  refine bodyPost_ret (v:=p #[jd #[J O 0,J O 0,J O 0,J O 0,Q U 0 0,J S 0],J O D]) (by simp [results,Tryz.results78,go_sem,t0,t1,t2,t3,t4,t5]) rfl ⟨rfl,?_⟩;exact aC (ap (ap B1.out HA.out) (bal _ _)) (jb _) _ _ _ _ _ _
theorem tN{N:Nat}{c:Int}{kd:UInt8}(hk:kd=1\/kd=2)(i:Nat)(n:Nat)(F:Nat->UInt8)(v:Int)(b:Bool)(z:Sl)(hb:isQ 0 N c n F=b)(hz:slQ b N c F=z):
  (tB (he 0 N c (i:Int) n F) kd v=je/\he 0 N c (i:Int) n F=z/\b=je/\z.kd=kd/\z.ix=(i:Int)/\z.st=v) \/
  (tB (he 0 N c (i:Int) n F) kd v=jc/\(b=jc\/(b=je/\z.kd ≠ kd)\/(b=je/\z.kd=kd/\z.ix ≠ (i:Int))\/(b=je/\z.kd=kd/\z.ix=(i:Int)/\z.st ≠ v))):=by
 have hi:isS N c n F=b:=by rw [<- hb];unfold isQ;simp
 have hh:he 0 N c (i:Int) n F=ofI (i:Int) z:=by unfold he;rw [zk rfl,hi,hz]
 have KZ:tB zSl kd v=jc:=by
  refine zp fun a=>?_;rcases hk with rfl | rfl <;> exact absurd a.1 zb
 rw [hh];cases b
 ·refine .inr ⟨?_,.inl rfl⟩;have:z=zSl:=by rw [<- hz];rfl
  rw [this];unfold ofI;by_cases e:zSl.ix=(i:Int)
  ·rw [zk e];exact KZ
  ·rw [zl e];exact KZ
 ·by_cases e3:z.ix=(i:Int)
  ·have:ofI (i:Int) z=z:=zk e3;rw [this];by_cases e2:z.kd=kd
   ·by_cases e4:z.st=v
    ·exact .inl ⟨zm ⟨e2,e4⟩,rfl,rfl,e2,e3,e4⟩
    ·exact .inr ⟨zp fun a=>e4 a.2,.inr (.inr (.inr ⟨rfl,e2,e3,e4⟩))⟩
   ·exact .inr ⟨zp fun a=>e2 a.1,.inr (.inl ⟨rfl,e2⟩)⟩
  ·have:ofI (i:Int) z=zSl:=zl e3;rw [this];by_cases e2:z.kd=kd
   ·exact .inr ⟨KZ,.inr (.inr (.inl ⟨rfl,e2,e3⟩))⟩
   ·exact .inr ⟨KZ,.inr (.inl ⟨rfl,e2⟩)⟩
theorem idp_s(w:R)(A:Nat->Option jg)(L C:Nat->Nat)(i s:Nat)(hs:s<2):(Instr.index 97 (jd #[Q (A (2*i)) (L (2*i)) (C (2*i)),Q (A (2*i+1)) (L (2*i+1)) (C (2*i+1))]) (J O (s:Int))).run G w=.ok (Q (A (2*i+s)) (L (2*i+s)) (C (2*i+s))) w:=by
 rcases (show s=0\/s=1 by omega) with rfl | rfl
 ·exact Af w _ _
 ·exact idp1 w _ _
def Au (w:R) (t:Sl) (e:Ending) (w':R):Prop:=∃ ao ca,e=.returned (.slice ao t.vn ca)/\Own w.heap.size w' ao t.vn ca t.V/\(ao=U ↔ t.ce=0)/\b7 w w'
theorem rE(a b:UInt8):(((a.toNat:Nat):Int) == ((b.toNat:Nat):Int))=decide (a=b):=by
 by_cases e:a=b
 ·subst e;simp
 ·rw [zp e];have:a.toNat ≠ b.toNat:=fun h=>e (UInt8.toNat_inj.1 h);simp;omega
theorem ti(a b:Int):(a == b)=decide (a=b):=by
 by_cases e:a=b
 ·subst e;simp
 ·rw [zp e];simpa using e
theorem gY{k r c q:Int}{N W:Nat}(h:Par k r c q N W 0)(w:R)(ro:Option jg)(rc:Nat)(A:Nat->Option jg)(L C:Nat->Nat)(F:Nat->Nat->UInt8)(hr:Rw w ro N A L C F)(hL:∀ j,j<2*N->L j=0\/L j=sz N c)(kd:UInt8)(hk:kd=1\/kd=2)(v:Int)(t:Sl)(ht:tS (yy N c L F) kd v (2*N)=t):
  jf G 68 #[stv k r c q ro N rc kd,J O v] w (Au w t):=by
 have qe:=h.le;obtain⟨w0,bi⟩:=fd (w.alloc (f #[J O k,J O r,J O c,J O q,Q ro N rc,J S ((kd.toNat:Nat):Int)] 99))
 have b0:=jt bi
 have B0:=am b0;have L0:=am fun v (hv:b7 w0 v)=>(ah (T _ _) bi).below hv;have HR:=am hr;have HP:X (∀ j,j<2*N->∀ u,b7 w u->∀ b z,isQ 0 N c (L j) (F j)=b->slQ b N c (F j)=z->jf G 133 #[Pz k r c q,Q (A j) (L j) (C j)] u (pE u 0 b z)):=fun j hj u hu b z hb hz=>by
  refine Parse_any h u _ _ _ _ ((hr.bec j hj).below hu) 0 ?_ b hb z hz;unfold erQ;rw [zk rfl,zk (hL j hj)]
 have HT:=am ht;have HK:=am hk;clear h hr hL ht hk;unfold pE slv at HP;unfold stv;go_enter Tryz.func68,Tryz.ntmps68
 go_wp2_with fail
 rw [<- bi];have q0:=L0.out w0 (T _ _);have p4:=q0.cz 4;clear bi b0 q0;go_wp2_with fail
 go_loopw [15] (fun y wr=>∃ i:Nat,i<=N/\y=J O (i:Int)/\X (b7 w0 wr)/\X (∀ j,j<2*i->tB (yy N c L F j) kd v=jc)) (fun y _=>N-(intOf y).toNat)
 case atStart=>exact⟨0,ja _,rfl,T _ _,fun j hj=>absurd hj za⟩
 case round =>
  obtain⟨i,hi,rfl,jB,Hf⟩:=hrel;by_cases hlt:i<N
  ·obtain⟨b,off,rfl,jI⟩:=HR.out.at_ za;have c0:wr.cell? ⟨b,off+i*2,U⟩=P (Q (A (2*i)) (L (2*i)) (C (2*i))):=held (jI i hlt).1 (ap B0.out jB.out);have c1:wr.cell? ⟨b,off+i*2+1,U⟩=P (Q (A (2*i+1)) (L (2*i+1)) (C (2*i+1))):=held (jI i hlt).2 (ap B0.out jB.out);clear jI;have i1:(0:Int)<=(i:Int):=za;have i2:(i:Int)<(N:Int):=za;obtain⟨wd,jN⟩:=fd (wr.alloc (f #[Q (A (2*i)) (L (2*i)) (C (2*i)),Q (A (2*i+1)) (L (2*i+1)) (C (2*i+1))] 97))
   have HD:X (b7 w0 wd):=by show Z _ _ _;rw [jN];exact ap jB.out (bal _ _)
   go_wp2_with fail
   rw [<- jN];clear jN c0 c1;obtain⟨wm,Hb⟩:∃ x,x=wr:=⟨wr,rfl⟩
   rw [<- Hb];clear Hb jB wr;go_loopw [21] (fun y wr=>∃ s:Nat,s<=2/\y=J O (s:Int)/\X (b7 w0 wr)/\X (∀ j,j<2*i+s->tB (yy N c L F j) kd v=jc)) (fun y _=>2-(intOf y).toNat)
   case atStart=>exact⟨0,ja _,rfl,HD.out,fun j hj=>Hf.out j za⟩
   case round =>
    obtain⟨s,hs,rfl,yF,Hg⟩:=hrel;by_cases hs2:s<2
    ·obtain⟨y,hy⟩:=km (isQ 0 N c (L (2*i+s)) (F (2*i+s)))
     obtain⟨z,hz⟩:=km (slQ y N c (F (2*i+s)))
     have hP:=HP.out (2*i+s) za wr (ap B0.out yF.out) y z hy hz;have hW:=tN HK.out i (L (2*i+s)) (F (2*i+s)) v y z hy hz;have SJ:he 0 N c (i:Int) (L (2*i+s)) (F (2*i+s))=yy N c L F (2*i+s):=by unfold yy;rw [show (2*i+s) / 2=i by omega]
     rw [SJ] at hW;have q0:=L0.out wr yF.out;have s0:=q0.cz 0;have s1:=q0.cz 1;have s2:=q0.cz 2;have s3:=q0.cz 3;have j1:(s:Int)<2:=za;clear q0 hy hz SJ;go_wp2_with fail
     rw [idp_s _ A L C i s hs2];go_wp2_with fail
     refine hP.mono ?_;clear hP;rintro e wa ⟨ao,ca,bo,cb,rfl,hg,ha⟩;have q0:=(L0.out wa (ap yF.out ha))
     have r5:=fun o=>(q0.alloc o).cz 5;have HG:=am hg;have HA:=am (ap yF.out ha);have HS:=am (yF.out.size);clear q0 hg ha s0 s1 s2 s3;have u1:=rE z.kd kd;have u2:=ti z.ix (i:Int);have u3:=ti z.st v;have u4:=rE kd kd;rcases hW with ⟨g0,g1,rfl,g2,g3,g4⟩ | ⟨g0,hW⟩
     ·rw [zm g2] at u1;rw [zm g3] at u2;rw [zm g4] at u3;have Ib:X (tB (yy N c L F (2*i+s)) kd v=je/\yy N c L F (2*i+s)=z):=⟨g0,g1⟩
      have P0:X (2*i+s<2*N):=by show _<_;omega
      clear g0 g1 g2 g3 g4;go_wp2_with fail
      go_ret;have hI:Is N c z i:=by
       have:=Dm HK.out (cL N c L F (2*i+s) P0.out) Ib.out.1;rw [Ib.out.2,show (2*i+s) / 2=i by omega] at this;exact this
      have P4:t=z:=by
       have h1:tS (yy N c L F) kd v (2*i+s)=zSl:=by
        rcases dB (v:=v) HK.out (cL N c L F) (2*i+s) (by have:=P0.out;omega) with ⟨a,_⟩ | ⟨j,a1,_,a3,_⟩
        ·exact a
        ·rw [Hg.out j a1] at a3;cases a3
       have h2:tS (yy N c L F) kd v (2*i+s+1)=z:=by
        rw [tS,h1,zk (show zSl.ce=0 from rfl),Ib.out.1,zk rfl];exact Ib.out.2
       rw [<- HT.out,<- h2];exact sj (by rw [h2];exact(bD hI.1).ne) P0.out
      subst P4;have D6:=(bD hI.1).vn;refine⟨ao,ca,rfl,((HG.out.vec.mono (Nat.le_trans B0.out.size HS.out)).below (bal _ _)),?_,ap (ap B0.out HA.out) (bal _ _)⟩;constructor
      ·intro e;have:=HG.out.vec.at_ za;obtain⟨g,e2,_⟩:=this;rw [e] at e2;cases e2
      ·intro e;exact absurd e (bD hI.1).ne
     ·have Ib:=am g0;clear g0;rcases hW with rfl | ⟨rfl,g2⟩ | ⟨rfl,g2,g3⟩ | ⟨rfl,g2,g3,g4⟩
      ·go_wp2_with fail
       go_roundw
       case rel=>exact⟨s+1,za,by go_num,ap HA.out (bal _ _),fun j hj=>by
        by_cases e:j=2*i+s
        ·rw [e];exact Ib.out
        ·exact Hg.out j za⟩
       case measure=>simp [intOf];omega
      ·rw [zp g2] at u1;go_wp2_with fail
       go_roundw
       case rel=>exact⟨s+1,za,by go_num,ap HA.out (bal _ _),fun j hj=>by
        by_cases e:j=2*i+s
        ·rw [e];exact Ib.out
        ·exact Hg.out j za⟩
       case measure=>simp [intOf];omega
      ·rw [zm g2] at u1;rw [zp g3] at u2;go_wp2_with fail
       go_roundw
       case rel=>exact⟨s+1,za,by go_num,ap HA.out (bal _ _),fun j hj=>by
        by_cases e:j=2*i+s
        ·rw [e];exact Ib.out
        ·exact Hg.out j za⟩
       case measure=>simp [intOf];omega
      ·rw [zm g2] at u1;rw [zm g3] at u2;rw [zp g4] at u3;go_wp2_with fail
       go_roundw
       case rel=>exact⟨s+1,za,by go_num,ap HA.out (bal _ _),fun j hj=>by
        by_cases e:j=2*i+s
        ·rw [e];exact Ib.out
        ·exact Hg.out j za⟩
       case measure=>simp [intOf];omega
    ·obtain rfl:s=2:=za;go_wp2_with fail
     go_roundw
     case rel=>exact⟨i+1,za,by go_num,yF.out,fun j hj=>Hg.out j za⟩
     case measure=>simp [intOf];omega
  ·obtain rfl:i=N:=za;go_wp2_with fail
   go_ret;have P4:t=zSl:=by
    rcases dB (v:=v) HK.out (cL i c L F) (2*i) (H _) with ⟨a,_⟩ | ⟨j,a1,_,a3,_⟩
    ·rw [<- HT.out];exact a
    ·rw [Hf.out j a1] at a3;cases a3
   subst P4;exact⟨U,0,rfl,eM _ _ _,⟨fun _=>rfl,fun _=>rfl⟩,ap B0.out jB.out⟩
theorem wT(w:R)(a:jg)(l c:Nat):(binOp .neq 27 (Q (P a) l c) (Q U 0 0)).run G w=.ok (.bool je) w:=run_neq_slice_nil w 27 3 (P a) l c Tryz.underlying27
theorem BO(w:R):(binOp .neq 27 (Q U 0 0) (Q U 0 0)).run G w=.ok (.bool jc) w:=run_neq_slice_nil w 27 3 U 0 0 Tryz.underlying27
theorem vl{N:Nat}{c:Int}{n0 n1:Nat}{kd:UInt8}{i:Nat}(hk:kd=1\/kd=2)(h0:n0=0\/n0=sz N c)(h1:n1=0\/n1=sz N c)(hi:i<N):erC 0 N c n0 n1 ((kd.toNat:Nat):Int) (i:Int)=0:=by
 have e0:erQ 0 N c n0=0:=by unfold erQ;rw [zk rfl,zk h0]
 have e1:erQ 0 N c n1=0:=by unfold erQ;rw [zk rfl,zk h1]
 have eT:erT 0 N c n0 n1=0:=by unfold erT;rw [zk e0,e1]
 unfold erC;rw [zk eT,zk];refine⟨?_,za,za⟩;rcases hk with rfl | rfl
 ·exact .inl rfl
 ·exact .inr rfl
theorem ik{a v:R}{g:Nat}{t:TypeId}{x0 x1 x2 x3 x4 x5:Value}(h:At a v g #[x0,x1,x2,x3,x4,x5] t)(u0 u1 u2 u3 u4 u5:Value):At a ((((((v.setCell ⟨g,0,U⟩ u0).setCell ⟨g,1,U⟩ u1).setCell ⟨g,2,U⟩ u2).setCell ⟨g,3,U⟩ u3).setCell ⟨g,4,U⟩ u4).setCell ⟨g,5,U⟩ u5) g #[u0,u1,u2,u3,u4,u5] t:=(((((h.set 0 u0).set 1 u1).set 2 u2).set 3 u3).set 4 u4).set 5 u5
structure Each (wz:World) (N:Nat) (A:Nat->Option Addr) (L C:Nat->Nat) (z:Nat->Sl) (fn:Nat) (b8:Array Value) (I:Nat->World->(Nat->Prop)->Prop):Prop where
  fnc:∀ xs w,(callFunc fn xs).run Tryz.prog w=.ok (.enter fn xs) w
  stab:∀ d v v' Y,I d v Y->Below v.heap.size v v'->I d v' Y
  at_:∀ d v Y,I d v Y->∀ g,Y g->wz.heap.size<=g/\g<v.heap.size
  step:∀ d,d<N->∀ v Y B,I d v Y->Below wz.heap.size wz v->(∀ g,Y g->g<B)->∀ ao ca bo cb,Got B v (z d) ao ca bo cb ->
    Calls Tryz.prog fn (#[.int .i64 (d:Int),.agg #[.slice (A (2*d)) (L (2*d)) (C (2*d)),.slice (A (2*d+1)) (L (2*d+1)) (C (2*d+1))],slv (z d) ao ca bo cb] ++ b8) v fun e v'=>e=.returned (.tuple #[])/\∃ Y',I (d+1) v' Y'/\Only Y v v'/\∀ g,Y' g->Y g\/v.heap.size<=g
theorem iD{k r c q:Int}{N W:Nat}(h:Par k r c q N W 0)(wz w:World)(Gv:Below wz.heap.size wz w)(ro:Option Addr)(rc:Nat)(A:Nat->Option Addr)(L C:Nat->Nat)(F:Nat->Nat->UInt8)(hr:Rw wz ro N A L C F)(hL:∀ j,j<2*N->L j=0\/L j=sz N c)(kd:UInt8)(hk:kd=1\/kd=2)(v:Int)(t:Sl)(ht:tS (yy N c L F) kd v (2*N)=t)
  (fn:Nat) (b8:Array Value) (I:Nat->World->(Nat->Prop)->Prop) (hE:Each wz N A L C (zz (yy N c L F) kd t) fn b8 I) (Y0:Nat->Prop) (h0:I 0 w Y0) :
  Calls Tryz.prog 71 #[stv k r c q ro N rc kd,.int .i64 v,.func (.func fn) #[] b8] w fun e w'=>e=.returned (.tuple #[])/\∃ Y,I N w' Y/\Only Y0 w w'/\∀ g,Y g->Y0 g\/w.heap.size<=g:=by
 have qe:=h.le;have HV:Hid (∀ u,Below wz.heap.size wz u->Calls Tryz.prog 68 #[stv k r c q ro N rc kd,.int .i64 v] u (Au u t)):=fun u hu=>gY h u ro rc A L C F (hr.below hu) hL kd hk v t ht;obtain⟨w0,bi⟩:∃ w0,w0=w.alloc (.cells #[.int .i64 k,.int .i64 r,.int .i64 c,.int .i64 q,.slice ro N rc,.int .u8 ((kd.toNat:Nat):Int)] 99):=⟨_,rfl⟩
 have B0:Hid (Below w.heap.size w w0):=by show Below _ _ _;rw [bi];exact bal _ _
 have Z0:Hid (w0.heap.size=w.heap.size+1):=by show _=_;rw [bi];simp
 have L0:Hid (∀ v,Below w0.heap.size w0 v->At w v w.heap.size #[.int .i64 k,.int .i64 r,.int .i64 c,.int .i64 q,.slice ro N rc,.int .u8 ((kd.toNat:Nat):Int)] 99):=fun v hv=>(ah (Below.refl _ _) bi).below hv;have HR:Hid (Rw wz ro N A L C F):=hr;have Ic:Hid (Each wz N A L C (zz (yy N c L F) kd t) fn b8 I):=hE;have yO:=hE.fnc;have HI:Hid (I 0 w Y0):=h0;have zr:Hid (Below wz.heap.size wz w):=Gv;have HF:Hid (∀ u i,Below wz.heap.size wz u->i<N->t.ce ≠ 0->Calls Tryz.prog 136 #[.agg #[.int .i64 k,.int .i64 r,.int .i64 c,.int .i64 q],.agg #[.slice (A (2*i)) (L (2*i)) (C (2*i)),.slice (A (2*i+1)) (L (2*i+1)) (C (2*i+1))],.int .u8 ((kd.toNat:Nat):Int),.int .i64 (i:Int),.int .i64 (t.V i)] u fun e w'=>∃ n y ao ca bo cb,e=.returned (.tuple #[.int .i64 (n:Int),slv (zz (yy N c L F) kd t i) ao ca bo cb,.bool y,.int .i64 0])/\Got u.heap.size w' (zz (yy N c L F) kd t i) ao ca bo cb/\Below u.heap.size u w'):=fun u i hu hi f9=>by
  have xT:1<=t.V i/\t.V i<=1073741824:=by
   rcases dB (v:=v) hk (cL N c L F) (2*N) (Nat.le_refl _) with ⟨a,_⟩ | ⟨j,_,a2,_,a4,_⟩
   ·rw [ht] at a;rw [a] at f9;exact absurd rfl f9
   ·rw [ht] at a2;rw [a2];exact(bD a4.1).V i hi
  have kT:erF (erC 0 N c (L (2*i)) (L (2*i+1)) ((kd.toNat:Nat):Int) (i:Int)) (t.V i)=0:=by
   unfold erF;rw [zk (vl hk (hL _ za) (hL _ za) hi),zk xT]
  have qK:he 0 N c (i:Int) (L (2*i)) (F (2*i))=yy N c L F (2*i):=by unfold yy;rw [show 2*i / 2=i by omega]
  have kL:he 0 N c (i:Int) (L (2*i+1)) (F (2*i+1))=yy N c L F (2*i+1):=by unfold yy;rw [show (2*i+1) / 2=i by omega]
  have hF:=vy h u _ _ _ _ _ _ _ _ ((hr.below hu).bec (2*i) za) ((hr.below hu).bec (2*i+1) za) kd (i:Int) (t.V i) 0 kT _ _ qK kL;refine hF.mono ?_;rintro e w' ⟨ao,ca,bo,cb,rfl,hg,hb⟩;have hz:zz (yy N c L F) kd t i=fZ (yy N c L F (2*i)) (yy N c L F (2*i+1)) kd (t.V i):=zl f9;rw [hz];exact⟨_,_,ao,ca,bo,cb,rfl,hg,hb⟩
 have Wj:Hid (t.ce=0->∀ i,zz (yy N c L F) kd t i=zSl):=fun e i=>zk e;have P5:Hid (t.ce ≠ 0->t.vn=N):=fun f9=>by
  rcases dB (v:=v) hk (cL N c L F) (2*N) (Nat.le_refl _) with ⟨a,_⟩ | ⟨j,_,a2,_,a4,_⟩
  ·rw [ht] at a;rw [a] at f9;exact absurd rfl f9
  ·rw [ht] at a2;rw [a2];exact(bD a4.1).vn
 have Wk:Hid (t.ce=0->t.vn=0):=fun he=>by
  rcases dB (v:=v) hk (cL N c L F) (2*N) (Nat.le_refl _) with ⟨a,_⟩ | ⟨j,_,a2,_,a4,_⟩
  ·rw [ht] at a;rw [a];rfl
  ·rw [ht] at a2;rw [a2] at he;exact absurd he (bD a4.1).ne
 generalize zz (yy N c L F) kd t=z at *
 clear h hr hE h0 Gv ht hk hL;unfold Au at HV;unfold stv at HV ⊢;unfold slv at HF;go_enter Tryz.func71,Tryz.ntmps71
 go_wp2_with fail
 rw [<- bi];refine(HV.out _ (zr.out.trans (B0.out.mono zr.out.size))).mono ?_;rintro e wb ⟨ao,ca,rfl,em,xE,xv⟩;have HB:Hid (Below w0.heap.size w0 wb):=xv;have HO:Hid (Own w0.heap.size wb ao t.vn ca t.V):=em;have q0:=L0.out wb xv;have p4:=q0.cell (i:=4) rfl;have Oc:Hid (I 0 wb Y0):=Ic.out.stab _ _ _ _ HI.out (ap B0.out xv);have Fx:Hid (∀ g,Y0 g->wz.heap.size<=g/\g<w.heap.size):=Ic.out.at_ _ _ _ HI.out;clear bi em xv q0;by_cases f9:t.ce=0
 ·have D6:=Wk.out f9;obtain rfl:ao=none:=xE.2 f9;obtain rfl:ca=0:=(HO.out.vec.nil rfl).2;have hZ:=Wj.out f9;rw [D6];have nn:=BO;clear xE D6 HF;go_wp2_with fail
  go_loopw [16] (fun y wr=>∃ i:Nat,i<=N/\y=.int .i64 (i:Int)/\(∃ Y,Hid (I i wr Y)/\Hid (∀ g,Y g->Y0 g\/wb.heap.size<=g))/\Hid (Only Y0 w wr)/\Hid (∀ g,w.heap.size<=g->g<wb.heap.size->wr.heap[g]? = wb.heap[g]?)/\Hid (wb.heap.size<=wr.heap.size)) (fun y _=>N-(intOf y).toNat)
  case atStart=>exact⟨0,Nat.zero_le _,rfl,⟨Y0,Oc.out,fun g hg=>.inl hg⟩,.of_below (ap B0.out HB.out),fun _ _ _=>rfl,Nat.le_refl _⟩
  case round =>
   obtain⟨i,hi,rfl,⟨Y,hI,hY⟩,hO,hK,hS⟩:=hrel;have B4:Hid (Below wz.heap.size wz wr):=zr.out.trans (hO.out.below (fun g hg=>(Fx.out g hg).1) zr.out.size);by_cases hlt:i<N
   ·obtain⟨b,off,rfl,jI⟩:=HR.out.at_ za;have c0:wr.cell? ⟨b,off+i*2,none⟩=some (.slice (A (2*i)) (L (2*i)) (C (2*i))):=held (jI i hlt).1 B4.out;have c1:wr.cell? ⟨b,off+i*2+1,none⟩=some (.slice (A (2*i+1)) (L (2*i+1)) (C (2*i+1))):=held (jI i hlt).2 B4.out;have q4:wr.cell? ⟨w.heap.size,4,none⟩=some (.slice (some ⟨b,off,none⟩) N rc):=by
     rw [World.cell?_of_block (hK.out w.heap.size (Nat.le_refl _) (by have:=HB.out.size;have:=Z0.out;omega))];exact p4
    have hst:=Ic.out.step i hlt;rw [hZ] at hst;unfold slv at hst;have i1:(0:Int)<=(i:Int):=za;have i2:(i:Int)<(N:Int):=za;obtain⟨wx,yu⟩:∃ wx,wx=wr.alloc (.cells #[.slice (A (2*i)) (L (2*i)) (C (2*i)),.slice (A (2*i+1)) (L (2*i+1)) (C (2*i+1))] 97):=⟨_,rfl⟩
    obtain⟨wy,yf⟩:∃ wy,wy=wx.alloc (.cells #[.int .u8 0,.int .i64 0,.int .i64 0,.int .i64 0,.slice none 0 0,.slice none 0 0] 107):=⟨_,rfl⟩
    have Fy:Hid (Below wr.heap.size wr wy):=by show Below _ _ _;rw [yf,yu];exact ap (bal _ _) (bal _ _)
    have GF:=hst wy Y wr.heap.size (Ic.out.stab _ _ _ _ hI.out Fy.out) (B4.out.trans (Fy.out.mono B4.out.size)) (fun g hg=>(Ic.out.at_ _ _ _ hI.out g hg).2) none 0 none 0 (aR _ _);clear hst jI;go_wp2_with fail
    rw [<- yu,<- yf];clear yu yf c0 c1 q4;refine GF.mono ?_;clear GF;rintro e v' ⟨rfl,Y',P6,JT,P7⟩;go_wp2_with fail
    go_roundw
    case rel =>
     have xW:=Fy.out.size;have jx:=Ic.out.at_ _ _ _ hI.out;refine⟨i+1,za,by go_num,⟨Y',P6,fun g hg=>?_⟩,?_,fun g g1 g2=>?_,?_⟩
     ·rcases P7 g hg with a | a
      ·exact hY.out g a
      ·have:=hS.out;exact .inr za
     ·refine(hO.out.then Fy.out).step JT fun g hg hy=>?_;rcases hY.out g hy with a | a
      ·exact a
      ·have:=HB.out.size;have:=Z0.out;omega
     ·rw [JT.block g (by have:=hS.out;omega) (fun hy=>by
       rcases hY.out g hy with a | a
       ·have:=(Fx.out g a).2;omega
       ·omega),Fy.out.block g (by have:=hS.out;omega)]
      exact hK.out g g1 g2
     ·have:=JT.size;have:=hS.out;show _<=_;omega
    case measure=>simp [intOf];omega
   ·obtain rfl:i=N:=za;go_wp2_with fail
    refine bodyPost_end (results_none rfl _ _ _) rfl ?_;refine⟨rfl,Y,hI.out,hO.out,fun g hg=>?_⟩;rcases hY.out g hg with a | a
    ·exact .inl a
    ·have:=HB.out.size;have:=Z0.out;exact .inr za
 ·have D6:=P5.out f9;have GI:Hid (t.ce ≠ 0):=f9;rw [D6] at HO ⊢;obtain⟨ad,rfl⟩:∃ ad,ao=some ad:=by
   cases ao with
   | none=>exact absurd (xE.1 rfl) f9
   | some ad=>exact⟨ad,rfl⟩
  have nn:=wT;clear xE D6 f9;go_wp2_with fail
  go_loopw [16] (fun y wr=>∃ i:Nat,i<=N/\y=.int .i64 (i:Int)/\(∃ Y,Hid (I i wr Y)/\Hid (∀ g,Y g->Y0 g\/wb.heap.size<=g))/\Hid (Only Y0 w wr)/\Hid (∀ g,w.heap.size<=g->g<wb.heap.size->wr.heap[g]? = wb.heap[g]?)/\Hid (wb.heap.size<=wr.heap.size)) (fun y _=>N-(intOf y).toNat)
  case atStart=>exact⟨0,Nat.zero_le _,rfl,⟨Y0,Oc.out,fun g hg=>.inl hg⟩,.of_below (ap B0.out HB.out),fun _ _ _=>rfl,Nat.le_refl _⟩
  case round =>
   obtain⟨i,hi,rfl,⟨Y,hI,hY⟩,hO,hK,hS⟩:=hrel;have B4:Hid (Below wz.heap.size wz wr):=zr.out.trans (hO.out.below (fun g hg=>(Fx.out g hg).1) zr.out.size);by_cases hlt:i<N
   ·obtain⟨b,off,rfl,jI⟩:=HR.out.at_ za;have c0:wr.cell? ⟨b,off+i*2,none⟩=some (.slice (A (2*i)) (L (2*i)) (C (2*i))):=held (jI i hlt).1 B4.out;have c1:wr.cell? ⟨b,off+i*2+1,none⟩=some (.slice (A (2*i+1)) (L (2*i+1)) (C (2*i+1))):=held (jI i hlt).2 B4.out;have ED:At w wr w.heap.size #[.int .i64 k,.int .i64 r,.int .i64 c,.int .i64 q,.slice (some ⟨b,off,none⟩) N rc,.int .u8 ((kd.toNat:Nat):Int)] 99:=⟨Nat.le_refl _,(hK.out w.heap.size (Nat.le_refl _) (by have:=HB.out.size;have:=Z0.out;omega)).trans (L0.out wb HB.out).2⟩
    obtain⟨gv,Wl,kU,kx⟩:=HO.out.at_ za;cases Wl
    have yz:wr.cell? ⟨gv,i,none⟩=some (.int .i64 (t.V i)):=by
     rw [World.cell?_of_block (hK.out gv (by have:=Z0.out;omega) kx)];exact HO.out.cell hlt
    have hst:=Ic.out.step i hlt;have hF:=fun u hu=>HF.out u i hu hlt GI.out;unfold slv at hst;have i1:(0:Int)<=(i:Int):=za
    have i2:(i:Int)<(N:Int):=za;obtain⟨wx,yu⟩:∃ wx,wx=wr.alloc (.cells #[.slice (A (2*i)) (L (2*i)) (C (2*i)),.slice (A (2*i+1)) (L (2*i+1)) (C (2*i+1))] 97):=⟨_,rfl⟩
    obtain⟨wy,yf⟩:∃ wy,wy=wx.alloc (.cells #[.int .u8 0,.int .i64 0,.int .i64 0,.int .i64 0,.slice none 0 0,.slice none 0 0] 107):=⟨_,rfl⟩
    have bx:Below wr.heap.size wr wx:=by rw [yu];exact bal _ _
    have by_:Below wx.heap.size wx wy:=by rw [yf];exact bal _ _
    have zx:wx.heap.size=wr.heap.size+1:=by rw [yu];simp
    have zy:wy.heap.size=wr.heap.size+1+1:=by rw [yf];simp [zx]
    have Fy:Hid (Below wr.heap.size wr wy):=ap bx by_;have Od:Hid (wy.heap.size=wr.heap.size+1+1):=zy;have CH:Hid (∀ v,Below wy.heap.size wy v->(v.cell? ⟨w.heap.size,0,none⟩=some (.int .i64 k)/\v.cell? ⟨w.heap.size,1,none⟩=some (.int .i64 r)/\v.cell? ⟨w.heap.size,2,none⟩=some (.int .i64 c)/\v.cell? ⟨w.heap.size,3,none⟩=some (.int .i64 q)/\v.cell? ⟨w.heap.size,5,none⟩=some (.int .u8 ((kd.toNat:Nat):Int))/\v.cell? ⟨gv,i,none⟩=some (.int .i64 (t.V i))/\v.cell? ⟨wr.heap.size,0,none⟩=some (.slice (A (2*i)) (L (2*i)) (C (2*i)))/\v.cell? ⟨wr.heap.size,1,none⟩=some (.slice (A (2*i+1)) (L (2*i+1)) (C (2*i+1))))):=fun v hv=>by
     have q:=ED.below (ap Fy.out hv);exact⟨q.cell (i:=0) rfl,q.cell (i:=1) rfl,q.cell (i:=2) rfl,q.cell (i:=3) rfl,q.cell (i:=5) rfl,held yz (ap Fy.out hv),ae yu (ap by_ hv) 0 rfl,ae yu (ap by_ hv) 1 rfl⟩
    have GH:Hid (∀ v,Below wy.heap.size wy v->At wr v (wr.heap.size+1) #[.int .u8 0,.int .i64 0,.int .i64 0,.int .i64 0,.slice none 0 0,.slice none 0 0] 107):=fun v hv=>by rw [<- zx];exact(ah bx yf).below hv
    have q4:=ED.cell (i:=4) rfl;have V5:w.heap.size<wr.heap.size:=ED.lt;have Yp:gv<wr.heap.size:=World.block_lt_of_cell? wr _ yz;obtain⟨a0,a1,a2,a3,a5,av,x0,x1⟩:=CH.out wy (Below.refl _ _);have n1:¬ wr.heap.size+1=w.heap.size:=za;have n2:¬ w.heap.size=wr.heap.size+1:=za;have n3:¬ wr.heap.size+1=gv:=za;have n4:¬ gv=wr.heap.size+1:=za;have D1:Hid _:=hst;have SK:Hid (Below wz.heap.size wz wy):=B4.out.trans (Fy.out.mono B4.out.size);clear hst jI yz ED bx by_ zx zy;go_wp2_with fail
    rw [<- yu,<- yf];clear yu yf c0 c1 q4;go_region_held3 (fun v=>v.cell? ⟨w.heap.size,0,none⟩=some (.int .i64 k)/\v.cell? ⟨w.heap.size,1,none⟩=some (.int .i64 r)/\v.cell? ⟨w.heap.size,2,none⟩=some (.int .i64 c)/\v.cell? ⟨w.heap.size,3,none⟩=some (.int .i64 q)/\v.cell? ⟨w.heap.size,5,none⟩=some (.int .u8 ((kd.toNat:Nat):Int))/\v.cell? ⟨gv,i,none⟩=some (.int .i64 (t.V i))/\v.cell? ⟨wr.heap.size,0,none⟩=some (.slice (A (2*i)) (L (2*i)) (C (2*i)))/\v.cell? ⟨wr.heap.size,1,none⟩=some (.slice (A (2*i+1)) (L (2*i+1)) (C (2*i+1)))) (go_keep) ((go_at_call 136;refine(hF _ (SK.out.trans ((bdw _ _).mono SK.out.size))).mono ?_;rintro e wf ⟨Yq,fy,fo,fa,fb,fc,rfl,SM,Mo⟩;have Fb:Hid (Below wy.heap.size wy wf):=az Mo;have Wm:Hid (Got wy.heap.size wf (z i) fo fa fb fc):=SM;obtain⟨e0,e1,e2,e3,e5,ev,f0,f1⟩:=CH.out wf Fb.out;have qh:=GH.out wf Fb.out;have m0:=qh.cell (i:=0) rfl;have m1:=qh.cell (i:=1) rfl;have m2:=qh.cell (i:=2) rfl;have m3:=qh.cell (i:=3) rfl;have m4:=qh.cell (i:=4) rfl;have m5:=qh.cell (i:=5) rfl;have mf:=qh.free;clear Mo SM qh))
    obtain⟨wg,KR⟩:∃ wg,wg=(((((wf.setCell ⟨wr.heap.size+1,0,none⟩ (.int .u8 (((z i).kd.toNat:Nat):Int))).setCell ⟨wr.heap.size+1,1,none⟩ (.int .i64 (z i).ix)).setCell ⟨wr.heap.size+1,2,none⟩ (.int .i64 (z i).ce)).setCell ⟨wr.heap.size+1,3,none⟩ (.int .i64 (z i).st)).setCell ⟨wr.heap.size+1,4,none⟩ (.slice fo (z i).vn fa)).setCell ⟨wr.heap.size+1,5,none⟩ (.slice fb (z i).dn fc):=⟨_,rfl⟩
    rw [<- KR];have JU:At wr wg (wr.heap.size+1) #[.int .u8 (((z i).kd.toNat:Nat):Int),.int .i64 (z i).ix,.int .i64 (z i).ce,.int .i64 (z i).st,.slice fo (z i).vn fa,.slice fb (z i).dn fc] 107:=by
     rw [KR];exact ik (GH.out wf Fb.out) (.int .u8 (((z i).kd.toNat:Nat):Int)) (.int .i64 (z i).ix) (.int .i64 (z i).ce) (.int .i64 (z i).st) (.slice fo (z i).vn fa) (.slice fb (z i).dn fc)
    have Mp:Only (fun x=>x=wr.heap.size+1) wf wg:=by
     rw [KR];exact eA wf (wr.heap.size+1) (.int .u8 (((z i).kd.toNat:Nat):Int)) (.int .i64 (z i).ix) (.int .i64 (z i).ce) (.int .i64 (z i).st) (.slice fo (z i).vn fa) (.slice fb (z i).dn fc)
    have KE:Below wr.heap.size wr wf:=ap Fy.out Fb.out;have Oe:Below wr.heap.size wr wg:=KE.trans (Mp.below (fun x hx=>by omega) KE.size);have SN:Got wr.heap.size wg (z i) fo fa fb fc:=(Wm.out.stay Mp (by have:=Od.out;omega)).mono (by have:=Od.out;omega);have y0:wg.cell? ⟨wr.heap.size,0,none⟩=some (.slice (A (2*i)) (L (2*i)) (C (2*i))):=Mp.cell f0 zi;have y1:wg.cell? ⟨wr.heap.size,1,none⟩=some (.slice (A (2*i+1)) (L (2*i+1)) (C (2*i+1))):=Mp.cell f1 zi;have o0:=JU.cell (i:=0) rfl;have o1:=JU.cell (i:=1) rfl;have o2:=JU.cell (i:=2) rfl;have o3:=JU.cell (i:=3) rfl;have o4:=JU.cell (i:=4) rfl;have o5:=JU.cell (i:=5) rfl;have GF:=D1.out wg Y wr.heap.size (Ic.out.stab _ _ _ _ hI.out Oe) (B4.out.trans (Oe.mono B4.out.size)) (fun g hg=>(Ic.out.at_ _ _ _ hI.out g hg).2) fo fa fb fc SN;have P8:Hid (Below wr.heap.size wr wg):=Oe;clear KR e0 e1 e2 e3 e5 ev f0 f1 m0 m1 m2 m3 m4 m5 mf a0 a1 a2 a3 a5 av x0 x1 JU Mp KE Oe SN;go_wp2_with fail
    refine GF.mono ?_;clear GF;rintro e v' ⟨rfl,Y',P6,JT,P7⟩;go_wp2_with fail
    go_roundw
    case rel =>
     have xW:=P8.out.size;refine⟨i+1,za,by go_num,⟨Y',P6,fun g hg=>?_⟩,?_,fun g g1 g2=>?_,?_⟩
     ·rcases P7 g hg with a | a
      ·exact hY.out g a
      ·have:=hS.out;exact .inr za
     ·refine(hO.out.then P8.out).step JT fun g hg hy=>?_;rcases hY.out g hy with a | a
      ·exact a
      ·have:=HB.out.size;have:=Z0.out;omega
     ·rw [JT.block g (by have:=hS.out;omega) (fun hy=>by
       rcases hY.out g hy with a | a
       ·have:=(Fx.out g a).2;omega
       ·omega),P8.out.block g (by have:=hS.out;omega)]
      exact hK.out g g1 g2
     ·have:=JT.size;have:=hS.out;show _<=_;omega
    case measure=>simp [intOf];omega
   ·obtain rfl:i=N:=za;go_wp2_with fail
    refine bodyPost_end (results_none rfl _ _ _) rfl ?_;refine⟨rfl,Y,hI.out,hO.out,fun g hg=>?_⟩;rcases hY.out g hg with a | a
    ·exact .inl a
    ·have:=HB.out.size;have:=Z0.out;exact .inr za
end Go.Proofs.YtemlojjkokooeaaGreat
