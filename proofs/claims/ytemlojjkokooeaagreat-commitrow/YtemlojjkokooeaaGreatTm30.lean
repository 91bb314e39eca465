import Derived.Test.YtemlojjkokooeaaGreatTm29
open Go.Value renaming slice->J,int->I
open Option renaming none->O,some->Y
open Go.IntKind renaming i64->Q
open Go.RowKit renaming Below->X,Hid->S
open Go.Proofs.Tryz renaming prog->l
open Nat renaming le_refl->ja
open Go renaming Addr->jb,World->jc
open Go.Ending renaming returned->jd
open Go.RowKit.Below renaming refl->je
set_option maxHeartbeats 16000000
set_option maxRecDepth 100000
namespace Go.Proofs.YtemlojjkokooeaaGreat
open Go.RowKit
def thZ (z:Nat->Sl) (i j:Nat):Sl:=if j<i then z j else zSl
theorem Bj(z:Nat->Sl)(i:Nat):thZ z (i+1)=Cod.put i (z i) (thZ z i):=funext fun j=>by
 unfold thZ;by_cases b:j=i
 ·rw [b,Cod.put_at,zk za]
 ·rw [Cod.put_ne _ _ b];by_cases a:j<i
  ·rw [zk a,zk za]
  ·rw [zl a,zl za]
theorem AS{z:Nat->Sl}{i:Nat}(h:z i=zSl):thZ z (i+1)=thZ z i:=funext fun j=>by
 unfold thZ;by_cases b:j=i
 ·rw [b,zk za,zl (Nat.lt_irrefl i)];exact h
 ·by_cases a:j<i
  ·rw [zk a,zk za]
  ·rw [zl a,zl za]
theorem uZ(z:Nat->Sl):thZ z 0=fun _=>zSl:=funext fun j=>zl (Nat.not_lt_zero j)
theorem rM(n:Nat):madeCells #[Value.slice O 0 0] n=(Cod.rowsOf n (fun _=>O) (fun _=>0) (fun _=>0)).toArray:=by
 apply Array.ext'
 unfold Cod.rowsOf madeCells;apply List.ext_getElem?
 intro i;by_cases h:i<n
 ·simp [h,Nat.mod_one]
 ·simp [h]
theorem CE(i:Nat)(y:Sl)(Z:Nat->Sl):(fun j=>(Cod.put i y Z j).dn)=Cod.put i y.dn (fun j=>(Z j).dn):=funext fun j=>by
 unfold Cod.put;split <;> rfl
theorem mc{k r c q:Int}{N W:Nat}(h:Par k r c q N W 0)(w:jc)(ro:Option jb)(rc:Nat)(A:Nat->Option jb)(L C:Nat->Nat)(F:Nat->Nat->UInt8)(hr:Rw w ro N A L C F)(hL:∀ j,j<2*N->L j=0\/L j=sz N c)(kd:UInt8)(hk:kd=1\/kd=2)(v:Int):
  Calls l 73 #[Pz k r c q,J ro N rc,I .u8 ((kd.toNat:Nat):Int),I Q v] w fun e w'=>∃ T U,e=jd (.tuple #[J (Y ⟨w.heap.size+1,0,O⟩) N N,I Q ((ct (zv N c L F kd v) N:Nat):Int)])/\w'.ownsRow (w.heap.size+1) 36 1 (J (Y ⟨w.heap.size+1,0,O⟩) N N) N (Cod.rowsOf N T (fun j=>(zv N c L F kd v j).dn) U)/\(∀ j,j<N->OwU (w.heap.size+1) w' (T j) (zv N c L F kd v j).dn (U j) (zv N c L F kd v j).D)/\b7 w w':=by
 have qe:=h.le;have xJ:sz N c<=1000:=by
  have:=h.cell rfl;unfold sz;omega
 obtain⟨w0,bi⟩:=jM w k r c q
 obtain⟨t,ht⟩:=km (tS (yy N c L F) kd v (2*N))
 obtain⟨z,hz⟩:=fd (zv N c L F kd v)
 have Qq:∀ i,z i=zz (yy N c L F) kd t i:=fun i=>by rw [hz,<- ht];rfl
 have yn:(t.vn=0/\∀ i,i<N->z i=zSl)\/(t.vn=N/\t.ce ≠ 0):=by
  rcases dB (v:=v) hk (cL N c L F) (2*N) (ja _) with ⟨a,_⟩ | ⟨j,_,a2,_,a4,_⟩
  ·rw [ht] at a;refine .inl ⟨by rw [a];rfl,fun i _=>?_⟩;rw [Qq,a];unfold zz;rw [zk (show zSl.ce=0 from rfl)]
  ·rw [ht] at a2;exact .inr ⟨by rw [a2];exact(bD a4.1).vn,by rw [a2];exact(bD a4.1).ne⟩
 have B0:S (b7 w w0):=by show X _ _ _;rw [bi];exact bal _ _
 have L0:=am fun u (hu:b7 w0 u)=>(ah (je _ _) bi).below hu;have HR:=am hr;have EB:S (∀ j,j<2*N->L j<=1000):=fun j hj=>by rcases hL j hj with e | e <;> omega
 have GL:=am fun u (hu:b7 w u)=>iR h u ro rc A L C F (hr.below hu) hL kd hk v t ht;have Qr:S (∀ i,i<N->∀ u,b7 w u->Calls l 137 #[Pz k r c q,.agg #[J (A (2*i)) (L (2*i)) (C (2*i)),J (A (2*i+1)) (L (2*i+1)) (C (2*i+1))],I .u8 ((kd.toNat:Nat):Int),I Q (i:Int),I Q (t.V i)] u fun e w'=>e=jd (I Q (hN (yy N c L F (2*i)) (yy N c L F (2*i+1)) kd (t.V i)))/\b7 u w'):=fun i hi u hu=>by
  have g0:=EB.out (2*i) za;have g1:=EB.out (2*i+1) za;exact lX h u _ _ _ _ _ _ _ _ ((hr.bec _ za).below hu) ((hr.bec _ za).below hu) za za kd (i:Int) (t.V i) _ _ (by unfold yy;rw [show 2*i / 2=i by omega]) (by unfold yy;rw [show (2*i+1) / 2=i by omega])
 have A6:S (∀ i s,i<N->s<2->∀ u,b7 w u->Calls l 135 #[Pz k r c q,J (A (2*i+s)) (L (2*i+s)) (C (2*i+s)),I Q (i:Int)] u fun e w'=>∃ ao ca bo cb,e=jd (.tuple #[.agg #[I .u8 (((yy N c L F (2*i+s)).kd.toNat:Nat):Int),I Q (yy N c L F (2*i+s)).ix,I Q (yy N c L F (2*i+s)).ce,I Q (yy N c L F (2*i+s)).st,J ao (yy N c L F (2*i+s)).vn ca,J bo (yy N c L F (2*i+s)).dn cb],.bool (decide (¬ (yy N c L F (2*i+s)).ce=0))])/\Got u.heap.size w' (yy N c L F (2*i+s)) ao ca bo cb/\b7 u w'):=fun i s hi hs u hu=>by
  have g0:=EB.out (2*i+s) za;exact fg h u _ _ _ _ ((hr.bec _ za).below hu) za (i:Int) _ (by unfold yy;rw [show (2*i+s) / 2=i by omega])
 have WM:S (∀ i,i<N->t.ce ≠ 0->((hN (yy N c L F (2*i)) (yy N c L F (2*i+1)) kd (t.V i)=-1/\z i=zSl)\/∃ s:Nat,s<2/\hN (yy N c L F (2*i)) (yy N c L F (2*i+1)) kd (t.V i)=(s:Int)/\z i=yy N c L F (2*i+s)/\(z i).ce ≠ 0)):=fun i hi h0=>by
  have FA:=Qq i;unfold zz fZ at FA;rw [zl h0] at FA;unfold hN;obtain⟨p0,p1⟩:=sW (cL N c L F) hi;cases e0:hB (yy N c L F (2*i)) kd (t.V i)
  ·rw [e0,zl Bool.false_ne_true] at FA;rw [zl Bool.false_ne_true];cases e1:hB (yy N c L F (2*i+1)) kd (t.V i)
   ·rw [e1,zl Bool.false_ne_true] at FA;exact .inl ⟨zl Bool.false_ne_true,FA⟩
   ·rw [e1,zk rfl] at FA;exact .inr ⟨1,za,zk rfl,FA,by rw [FA,(da e1).2.2];exact(da e1).1⟩
  ·rw [e0,zk rfl] at FA;exact .inr ⟨0,za,zk rfl,FA,by rw [FA,(da e0).2.2];exact(da e0).1⟩
 have hmk:=run_make_row' (P:=l) 33 36 (J O 0 0) 24 Tryz.underlying33 Cod.info34 rfl Q Q N za za;rw [rM] at hmk;rw [<- hz];obtain⟨w1,ci⟩:=fd (w0.alloc (.cells (Cod.rowsOf N (fun _=>O) (fun _=>0) (fun _=>0)).toArray 36))
 have z0:=ks bi
 have B1:S (b7 w0 w1):=by show X _ _ _;rw [ci];exact bal _ _
 have HG:S (w1.heap.size=w.heap.size+2/\w0.heap.size=w.heap.size+1):=by refine⟨?_,z0⟩;rw [ci];simp [z0]
 have qi:S (w1.ownsRow w0.heap.size 36 1 (J (Y ⟨w.heap.size+1,0,O⟩) N N) N (Cod.rowsOf N (fun _=>O) (fun _=>0) (fun _=>0))):=by
  show World.ownsRow _ _ _ _ _ _ _;have:=World.ownsRow_lit w0 (Cod.rowsOf N (fun _=>O) (fun _=>0) (fun _=>0)).toArray (e:=36) (size:=1) N (ja _) (by unfold maxLen;omega) (by simp [Cod.rowsOf_length]);rw [ci,<- z0]
  simpa using this
 have Qs:S (∀ i wr,(i=t.vn)->b7 w0 wr->(∃ T U,wr.ownsRow w0.heap.size 36 1 (J (Y ⟨w.heap.size+1,0,O⟩) N N) N (Cod.rowsOf N T (fun j=>(thZ z i j).dn) U)/\∀ j,j<N->OwU w1.heap.size wr (T j) (thZ z i j).dn (U j) (thZ z i j).D)->∃ T U,wr.ownsRow (w.heap.size+1) 36 1 (J (Y ⟨w.heap.size+1,0,O⟩) N N) N (Cod.rowsOf N T (fun j=>(z j).dn) U)/\(∀ j,j<N->OwU (w.heap.size+1) wr (T j) (z j).dn (U j) (z j).D)/\ct z i=ct z N):=fun i wr hi hb ⟨T,U,h1,h2⟩=>by
  obtain⟨g1,g2⟩:=HG.out;have hZ:∀ j,j<N->thZ z i j=z j:=fun j hj=>by
   unfold thZ;rcases yn with ⟨a,b⟩ | ⟨a,_⟩
   ·rw [zl za];exact(b j hj).symm
   ·rw [zk za]
  refine⟨T,U,?_,fun j hj=>?_,?_⟩
  ·rw [g2] at h1;have:Cod.rowsOf N T (fun j=>(thZ z i j).dn) U=Cod.rowsOf N T (fun j=>(z j).dn) U:=by
    unfold Cod.rowsOf;exact List.map_congr_left fun j hj=>by show Value.slice _ (thZ z i j).dn _=Value.slice _ (z j).dn _;rw [hZ j (List.mem_range.1 hj)]
   rw [<- this];exact h1
  ·have:=h2 j hj;rw [hZ j hj] at this;exact this.mono za
  ·rcases yn with ⟨a,b⟩ | ⟨a,_⟩
   ·rw [hi,a];have:∀ n,n<=N->ct z n=0:=fun n=>by
     induction n with
     | zero=>intro _;rfl
     | succ n ih=>intro hn;rw [(nb (z:=z) (d:=n) (by rw [b n za];rfl)).1];exact ih za
    rw [this N (ja _)];rfl
   ·rw [hi,a]
 have Jb:t.vn<=N:=by rcases yn with ⟨a,_⟩ | ⟨a,_⟩ <;> omega
 have WN:S (0<t.vn->t.ce ≠ 0/\t.vn=N):=fun a=>by
  rcases yn with ⟨b,_⟩ | ⟨b,c⟩
  ·omega
  ·exact⟨c,b⟩
 clear h hr hL hz ht Qq yn;go_enter Tryz.func73,Tryz.ntmps73
 go_wp2_with fail
 rw [<- bi,<- ci];clear hmk z0;have s0:=ae bi B1.out 0 rfl;have s1:=ae bi B1.out 1 rfl;have s2:=ae bi B1.out 2 rfl;have s3:=ae bi B1.out 3 rfl;clear bi ci;refine(GL.out w1 (ap B0.out B1.out)).mono ?_;rintro e wt ⟨vo,vc,rfl,em,EJ⟩;have FU:=am em;have BT:=am (ap B1.out EJ);have Oc:S (∃ T U,wt.ownsRow w0.heap.size 36 1 (J (Y ⟨w.heap.size+1,0,O⟩) N N) N (Cod.rowsOf N T (fun j=>(thZ z 0 j).dn) U)/\∀ j,j<N->OwU w1.heap.size wt (T j) (thZ z 0 j).dn (U j) (thZ z 0 j).D):=by
  rw [uZ];exact⟨fun _=>O,fun _=>0,ar qi.out EJ,fun j _=>cE _ _ _⟩
 have Ix:=am (EJ.size);clear em EJ s0 s1 s2 s3;go_wp2_with fail
 go_loopw [12,13] (fun n y wr=>∃ i:Nat,i<=t.vn/\y=I Q (i:Int)/\n=I Q ((ct z i:Nat):Int)/\S (b7 wt wr\/True)/\S (b7 w0 wr)/\S (w1.heap.size<=wr.heap.size)/\S (Own w1.heap.size wr vo t.vn vc t.V)/\S (∃ T U,wr.ownsRow w0.heap.size 36 1 (J (Y ⟨w.heap.size+1,0,O⟩) N N) N (Cod.rowsOf N T (fun j=>(thZ z i j).dn) U)/\∀ j,j<N->OwU w1.heap.size wr (T j) (thZ z i j).dn (U j) (thZ z i j).D)) (fun _ y _=>t.vn-(intOf y).toNat)
 case atStart=>exact⟨0,Nat.zero_le _,rfl,rfl,.inr trivial,BT.out,Ix.out,FU.out,Oc.out⟩
 case round =>
  obtain⟨i,hi,rfl,rfl,_,jB,I1,Td,kY⟩:=hrel;have Qt:=ct_le z i;obtain⟨cn,qD⟩:=fd (ct z i)
  rw [<- qD] at Qt ⊢;have Hd:=am qD;clear qD;by_cases hlt:i<t.vn
  ·obtain⟨hce,D6⟩:=WN.out za;have K3:i<N:=za;clear D6;obtain⟨b,off,rfl,jI⟩:=HR.out.at_ za;have i1:(0:Int)<=(i:Int):=za;have i2:(i:Int)<(N:Int):=za;have i3:(i:Int)<(t.vn:Int):=za;obtain⟨vb,vf,rfl,GJ⟩:=Td.out.vec.rd za;have cv:=GJ i hlt;have yI:=am (jI i K3);have Te:=am fun u (hu:b7 wr u)=>Td.out.below hu;clear GJ jI;have zq:S (∀ u,b7 wr u->(u.cell? ⟨w.heap.size,0,O⟩=Y (I Q k)/\u.cell? ⟨w.heap.size,1,O⟩=Y (I Q r)/\u.cell? ⟨w.heap.size,2,O⟩=Y (I Q c)/\u.cell? ⟨w.heap.size,3,O⟩=Y (I Q q))/\u.cell? ⟨b,off+i*2,O⟩=Y (J (A (2*i)) (L (2*i)) (C (2*i)))/\u.cell? ⟨b,off+i*2+1,O⟩=Y (J (A (2*i+1)) (L (2*i+1)) (C (2*i+1)))):=fun u hu=>by
    have p:=L0.out u (ap jB.out hu);exact⟨⟨p.cz 0,p.cz 1,p.cz 2,p.cz 3⟩,held yI.out.1 (ap (ap B0.out jB.out) hu),held yI.out.2 (ap (ap B0.out jB.out) hu)⟩
   have Tf:=fun u (hu:b7 wr u)=>Qr.out i K3 u (ap (ap B0.out jB.out) hu);have Tg:=WM.out i K3 hce;obtain⟨hn,Th⟩:=fd (hN (yy N c L F (2*i)) (yy N c L F (2*i+1)) kd (t.V i))
   rw [<- Th] at Tf Tg;clear Th;obtain⟨⟨s0,s1,s2,s3⟩,p0,p1⟩:=zq.out wr (je _ _);go_wp2_with fail
   go_region_held3 (fun u=>u.cell? ⟨w.heap.size,0,O⟩=Y (I Q k)/\u.cell? ⟨w.heap.size,1,O⟩=Y (I Q r)/\u.cell? ⟨w.heap.size,2,O⟩=Y (I Q c)/\u.cell? ⟨w.heap.size,3,O⟩=Y (I Q q)/\u.cell? ⟨b,off+i*2,O⟩=Y (J (A (2*i)) (L (2*i)) (C (2*i)))/\u.cell? ⟨b,off+i*2+1,O⟩=Y (J (A (2*i+1)) (L (2*i+1)) (C (2*i+1)))/\u.cell? ⟨vb,vf+i,O⟩=Y (I Q (t.V i))) (go_keep) ((go_at_call 137;refine(Tf _ (bdw _ _)).mono ?_;rintro e wa ⟨rfl,ha⟩;have BA:=am (az ha);obtain⟨⟨a0,a1,a2,a3⟩,a4,a5⟩:=zq.out wa BA.out;have a6:=held cv BA.out;clear ha))
   clear a0 a1 a2 a3 a4 a5 a6 s0 s1 s2 s3 p0 p1 cv;rcases Tg with ⟨Ms,J2⟩ | ⟨s,hs2,Fw,J2,Qu⟩
   ·subst Ms;have C6:S ((∃ T U,wa.ownsRow w0.heap.size 36 1 (J (Y ⟨w.heap.size+1,0,O⟩) N N) N (Cod.rowsOf N T (fun j=>(thZ z (i+1) j).dn) U)/\∀ j,j<N->OwU w1.heap.size wa (T j) (thZ z (i+1) j).dn (U j) (thZ z (i+1) j).D)/\cn=ct z (i+1)):=by
     obtain⟨T,U,h1,h2⟩:=kY.out;rw [AS J2];exact⟨⟨T,U,ar h1 BA.out,fun j hj=>(h2 j hj).below BA.out⟩,by rw [(nb (z:=z) (d:=i) (by rw [J2];rfl)).1];exact Hd.out⟩
    go_wp2_with fail
    go_roundw
    case rel=>exact⟨i+1,za,by go_num,by rw [<- C6.out.2],.inr trivial,ap jB.out BA.out,Nat.le_trans I1.out BA.out.size,Te.out wa BA.out,C6.out.1⟩
    case measure=>simp [intOf];omega
   ·subst Fw;have k1:¬ (s:Int)<0:=za;have k2:(0:Int)<=(s:Int):=za;have JW:S (∀ u,b7 wa u->(u.cell? ⟨w.heap.size,0,O⟩=Y (I Q k)/\u.cell? ⟨w.heap.size,1,O⟩=Y (I Q r)/\u.cell? ⟨w.heap.size,2,O⟩=Y (I Q c)/\u.cell? ⟨w.heap.size,3,O⟩=Y (I Q q)/\u.cell? ⟨b,off+i*2+s,O⟩=Y (J (A (2*i+s)) (L (2*i+s)) (C (2*i+s))))):=fun u hu=>by
     obtain⟨⟨a0,a1,a2,a3⟩,a4,a5⟩:=zq.out u (ap BA.out hu);refine⟨a0,a1,a2,a3,?_⟩;rcases (show s=0\/s=1 by omega) with rfl | rfl
     ·exact a4
     ·exact a5
    have Qv:=fun u (hu:b7 wa u)=>A6.out i s K3 hs2 u (ap (ap (ap B0.out jB.out) BA.out) hu);rw [<- J2] at Qv;clear J2;go_wp2_with fail
    refine uj wa k r c q w.heap.size b off N rc i s hs2 i1 i2 (A (2*i+s)) (L (2*i+s)) (C (2*i+s)) (z i) (decide (¬ (z i).ce=0)) _ _ _ _ _ _ _ _ _ _ _ _ _ _ _ _ _ _ _ _ _ _ _ _ _ _ _ _ _ _ _ _ _ _ _ _ _ _ _ _ _ _ _ _ _ _ _ _ _ _ _ _ _ _ _ _ _ _ _ _ _ _ JW Qv _ (fun v' g ao ca bo cb ku jx zH=>?_);have qj:=am (ap BA.out ku);have c5:=jx.cz 5;have Qw:=am (zH.bec);clear jx ku zH Qv;obtain⟨T,U,h1,h2⟩:=kY.out;have Jc:=ar h1 qj.out;have hst:=World.ownsRow.stored Jc i (J bo (z i).dn cb);rw [oH] at hst;have ck:v'.cell? ⟨w.heap.size+1,i,O⟩=Y (J (T i) (thZ z i i).dn (U i)):=by
     have:=Jc.cells (g:=w.heap.size+1) rfl i _ (Cod.rowsOf_get N T _ U i K3);rw [Addr.add_lit,Nat.zero_add] at this;exact this
    have kf:v'.frozen? ⟨w.heap.size+1,i,O⟩=false:=World.ownsRow.frozenAt Jc _;have f9:∀ x,w1.heap.size<=x->x<v'.heap.size->(v'.setCell ⟨w.heap.size+1,i,O⟩ (J bo (z i).dn cb)).heap[x]? = v'.heap[x]?:=fun x h3 _=>heap_setCell_other _ _ _ _ (by have:=HG.out.1;show x ≠ w.heap.size+1;omega);have C6:S ((∃ T U,(v'.setCell ⟨w.heap.size+1,i,O⟩ (J bo (z i).dn cb)).ownsRow w0.heap.size 36 1 (J (Y ⟨w.heap.size+1,0,O⟩) N N) N (Cod.rowsOf N T (fun j=>(thZ z (i+1) j).dn) U)/\∀ j,j<N->OwU w1.heap.size (v'.setCell ⟨w.heap.size+1,i,O⟩ (J bo (z i).dn cb)) (T j) (thZ z (i+1) j).dn (U j) (thZ z (i+1) j).D)/\cn+1=ct z (i+1)):=by
     rw [Bj];refine⟨⟨Cod.put i bo T,Cod.put i cb U,by rw [CE];exact hst.1,fun j hj=>?_⟩,by rw [Hd.out];unfold ct;rw [Cod.cnt_take (show lz z i ≠ 0 by unfold lz;rw [zl Qu];decide)]⟩;by_cases e:j=i
     ·rw [e,Cod.put_at,Cod.put_at,Cod.put_at];exact(Qw.out.mono (Nat.le_trans I1.out BA.out.size)).stay f9
     ·rw [Cod.put_ne _ _ e,Cod.put_ne _ _ e,Cod.put_ne _ _ e];exact((h2 j hj).below qj.out).stay f9
    have hz0:wr.heap.size<=wr.heap.size:=ja _;have yT:S (b7 w0 (v'.setCell ⟨w.heap.size+1,i,O⟩ (J bo (z i).dn cb))/\w1.heap.size<=(v'.setCell ⟨w.heap.size+1,i,O⟩ (J bo (z i).dn cb)).heap.size):=by
     have g2:=HG.out.2;refine⟨(ap jB.out qj.out).setCell (by show w0.heap.size<=w.heap.size+1;omega) _,?_⟩;have h7:=Nat.le_trans I1.out qj.out.size
     simpa [World.setCell] using h7
    have Pk:S (Own w1.heap.size (v'.setCell ⟨w.heap.size+1,i,O⟩ (J bo (z i).dn cb)) (Y ⟨vb,vf,O⟩) t.vn vc t.V):=(Te.out v' qj.out).stay f9;clear h1 h2 Jc hst;go_wp2_with fail
    go_roundw
    case rel=>exact⟨i+1,za,by go_num,by rw [<- C6.out.2];go_num,.inr trivial,yT.out.1,yT.out.2,Pk.out,C6.out.1⟩
    case measure=>simp [intOf];omega
  ·obtain rfl:i=t.vn:=za;obtain⟨T,U,h1,h2,h3⟩:=Qs.out t.vn wr rfl jB.out kY.out;have Qx:S (cn=ct z N):=by show _=_;rw [Hd.out];exact h3
   go_wp2_with fail
   go_ret2;exact⟨T,U,by rw [Qx.out];rfl,h1,h2,ap B0.out jB.out⟩
end Go.Proofs.YtemlojjkokooeaaGreat
namespace Go.Proofs.YtemlojjkokooeaaGreat.Cod
open Go.RowKit
open Go.Maps (Keyed)
structure Picked (w:World) (B k m t:Nat) (v u:Value) (G U:Nat->Nat) (A:Nat->Option Addr) (C R:Nat->Nat):Prop where
  rows:w.ownsRow B 36 1 v t (rowsOf t (fun s=>some ⟨G s,0,none⟩) (fun _=>k) U)
  cells:w.ownsRow B 36 1 u t (rowsOf t (fun s=>A (R s)) (fun _=>m) (fun s=>C (R s)))
  row:∀ s,s<t->Own w (G s) k (U s) (gen k (R s))
  apart:∀ g,v.ownBlock=some g->u.ownBlock ≠ some g
theorem Picked.stay{w w':jc}{B k m t:Nat}{v u:Value}{G U:Nat->Nat}{A:Nat->Option jb}{C R:Nat->Nat}(h:Picked w B k m t v u G U A C R)(hs:Stay w w'):Picked w' B k m t v u G U A C R :=
 ⟨dK h.rows hs,dK h.cells hs,fun s PQ=>(h.row s PQ).stay hs,h.apart⟩
theorem Picked.start(w:jc)(B k m:Nat)(A:Nat->Option jb)(C R:Nat->Nat):Picked w B k m 0 (J O 0 0) (J O 0 0) (fun _=>0) (fun _=>0) A C R :=
 ⟨World.ownsRow_nil _ _ _ _,World.ownsRow_nil _ _ _ _,fun s hs=>absurd hs (Nat.not_lt_zero s),fun g h=>by cases h⟩
theorem Picked.step{w1 w2 w3:jc}{B k m t g1 g2 c1 c2 gr ur:Nat}{v u:Value}{G U:Nat->Nat}{A:Nat->Option jb}{C R:Nat->Nat}{o o':Obj}(h:Picked w1 B k m t v u G U A C R)(hr:Own w1 gr k ur (gen k (R t)))
  (kU:(w1.alloc o).grownBy w2 v.ownBlock) (h1:w2.ownsRow B 36 1 (J (Y ⟨g1,0,O⟩) (t+1) c1) (t+1) (rowsOf t (fun s=>Y ⟨G s,0,O⟩) (fun _=>k) U ++ [J (Y ⟨gr,0,O⟩) k ur])) (ci:v.ownBlock=Y g1\/g1=w1.heap.size+1)
  (kx:(w2.alloc o').grownBy w3 u.ownBlock) (h2:w3.ownsRow B 36 1 (J (Y ⟨g2,0,O⟩) (t+1) c2) (t+1) (rowsOf t (fun s=>A (R s)) (fun _=>m) (fun s=>C (R s)) ++ [J (A (R t)) m (C (R t))])) (jz:u.ownBlock=Y g2\/g2=w2.heap.size+1) :
  Picked w3 B k m (t+1) (J (Y ⟨g1,0,O⟩) (t+1) c1) (J (Y ⟨g2,0,O⟩) (t+1) c2) (put t gr G) (put t ur U) A C R:=by
 have hu:∀ x,u.ownBlock=Y x->x<w1.heap.size:=fun x hx=>(h.cells.lt x hx).2;have WO:=(h1.lt g1 rfl).2;have f9:∀ x,u.ownBlock=Y x->g1 ≠ x:=fun x hx e=>by
  rcases ci with e1 | e1
  ·exact h.apart g1 e1 (by rw [hx,e])
  ·have:=hu x hx;omega
 have cu:w2.ownsRow B 36 1 u t (rowsOf t (fun s=>A (R s)) (fun _=>m) (fun s=>C (R s))):=(h.cells.alloc o).kept kU (nH h.apart);refine⟨?_,?_,fun s hs=>?_,fun g hg=>?_⟩
 ·have:=(h1.alloc o').kept kx (.inr (fun e=>f9 g1 e.symm rfl));refine(congrArg (w3.ownsRow B 36 1 (J (Y ⟨g1,0,O⟩) (t+1) c1) (t+1)) ?_).mp this;have:=dN t (fun s=>Y ⟨G s,0,O⟩) (fun _=>k) U (Y ⟨gr,0,O⟩) k ur;rw [<- this];refine List.map_congr_left fun i _=>?_;by_cases e:i=t
  ·subst e;simp only [put_at]
  ·simp only [put_ne _ _ e]
 ·refine(congrArg (w3.ownsRow B 36 1 (J (Y ⟨g2,0,O⟩) (t+1) c2) (t+1)) ?_).mp h2;simp [rowsOf,List.range_succ]
 ·have old:∀ g u' f,Own w1 g k u' f->Own w3 g k u' f:=fun g u' f ho=>(((ho.alloc o).grown (h.rows.alloc o) kU).alloc o').grown (cu.alloc o') kx;by_cases e:s=t
  ·subst e;rw [put_at,put_at];exact old _ _ _ hr
  ·rw [put_ne _ _ e,put_ne _ _ e];exact old _ _ _ (h.row s za)
 ·cases hg
  intro e;have e2:g2=g1:=Option.some.inj e;rcases jz with e3 | e3
  ·exact f9 g2 e3 e2.symm
  ·omega
theorem Picked.lst1{w:jc}{B k m t c1:Nat}{a1:Option jb}{u:Value}{G U:Nat->Nat}{A:Nat->Option jb}{C R:Nat->Nat}(h:Picked w B k m t (J a1 t c1) u G U A C R):Lst w a1 t (fun s=>Y ⟨G s,0,O⟩) U (fun _=>k) (bN k R) :=
 ⟨fun s hs=>(h.row s hs).rd,fun hp=>by
  rcases h.rows.2 with ⟨_,h1⟩ | ⟨g,jy,jw,h1,_⟩
  ·omega
  ·cases h1
   refine⟨g,0,rfl,fun i hi=>?_⟩;have:=h.rows.cells (g:=g) rfl i _ (rowsOf_get t _ _ _ i hi)
   rwa [Addr.add_lit] at this⟩
theorem Picked.lst2{w:jc}{B k m t c2:Nat}{a2:Option jb}{v:Value}{G U:Nat->Nat}{A:Nat->Option jb}{C R:Nat->Nat}{H:M}(h:Picked w B k m t v (J a2 t c2) G U A C R)(hr:∀ s,s<t->Rd w (A (R s)) m (H (R s))):Lst w a2 t (fun s=>A (R s)) (fun s=>C (R s)) (fun _=>m) (fun s=>H (R s)) :=
 ⟨hr,fun hp=>by
  rcases h.cells.2 with ⟨_,h1⟩ | ⟨g,jy,jw,h1,_⟩
  ·omega
  ·cases h1
   refine⟨g,0,rfl,fun i hi=>?_⟩;have:=h.cells.cells (g:=g) rfl i _ (rowsOf_get t _ _ _ i hi)
   rwa [Addr.add_lit] at this⟩
end Go.Proofs.YtemlojjkokooeaaGreat.Cod
