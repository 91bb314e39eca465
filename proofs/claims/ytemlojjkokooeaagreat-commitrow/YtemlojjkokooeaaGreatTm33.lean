import Derived.Test.YtemlojjkokooeaaGreatTm32
open Go.Value renaming int->J,slice->O,agg->z
open Go.IntKind renaming i64->I
open Option renaming none->Y,some->Z
open Go.RowKit renaming Below->X,Hid->G
open Go.Proofs.Tryz renaming prog->P
open Nat renaming le_refl->H
open Go.Ending renaming returned->S
open Go.RowKit.Below renaming refl->f
open Go renaming Addr->ja,Calls->jb
open Int renaming toNat_natCast->jc
set_option maxHeartbeats 16000000
set_option maxRecDepth 100000
namespace Go.Proofs.YtemlojjkokooeaaGreat
open Go.RowKit
theorem DY{N:Nat}{c:Int}{L:Nat->Nat}{F:Nat->Nat->UInt8}{kd:UInt8}(hk:kd=1\/kd=2){ke:Int}{d:Nat}(hd:d<N){t:Sl}(ht:tS (yy N c L F) kd ke (2*N)=t):oN (yy N c L F (2*d)) (yy N c L F (2*d+1)) kd (if t.vn=0 then 0 else t.V d)=osl N c L F kd ke d:=by
 unfold osl zv;rw [ht];unfold zz;rcases dB (v:=ke) hk (cL N c L F) (2*N) (H _) with ⟨a,_⟩ | ⟨j,_,a2,_,a4,_⟩
 ·rw [ht] at a;rw [a,zk (show zSl.vn=0 from rfl),zk (show zSl.ce=0 from rfl)];rfl
 ·rw [ht] at a2;have hv:t.vn=N:=by rw [a2];exact(bD a4.1).vn
  have hc:t.ce ≠ 0:=by rw [a2];exact(bD a4.1).ne
  rw [zl za,zl hc];generalize yy N c L F (2*d)=y0
  generalize yy N c L F (2*d+1)=y1
  generalize t.V d=v
  have z0:∀ y:Sl,hB y kd 0=false:=fun y=>zp fun e=>e.1 rfl;unfold fZ;cases e0:hB y0 kd v
  ·rw [zl Bool.false_ne_true];cases e1:hB y1 kd v
   ·rw [zl Bool.false_ne_true];unfold oN;rw [e0,e1,show zSl.ce=0 from rfl,z0,z0]
   ·rw [zk rfl,(da e1).2.2]
  ·rw [zk rfl,(da e0).2.2]
theorem ot{k r c q:Int}{N W:Nat}(h:Par k r c q N W 0)(w:World)(ro:Option ja)(rc:Nat)(A:Nat->Option ja)(L C:Nat->Nat)(F:Nat->Nat->UInt8)(hr:Rw w ro N A L C F)(hL:∀ j,j<2*N->L j=0\/L j=sz N c)(nu ke:Int)(s:Sl)(vo:Option ja)(vc:Nat)(bo:Option ja)(cb:Nat)(hs:Has w s vo vc bo cb)(hok:okS N c s=true)(d:Nat)(hd:d<N)(QL:s.ix=(d:Int))(t:Sl)(ht:tS (yy N c L F) s.kd ke (2*N)=t)(GP:ke<=0->t.vn=0):
  jb P 154 #[Pz k r c q,O ro N rc,J I nu,J I ke,z #[J .u8 ((s.kd.toNat:Nat):Int),J I (d:Int),J I s.ce,J I s.st,O vo s.vn vc,O bo s.dn cb]] w fun e w'=>∃ uo uc,e=S (z #[J I (d:Int),J I nu,J I ((osl N c L F s.kd ke d:Nat):Int),O uo (sz N c) uc])/\OwU w.heap.size w' uo (sz N c) uc (enc s)/\b7 w w':=by
 have qe:=h.le;obtain⟨k9,xX⟩:=h.cell rfl;have hk:s.kd=1\/s.kd=2:=(bD hok).kd;have xJ:sz N c<=1000:=by unfold sz;omega
 have yn:t.vn=0\/t.vn=N:=by
  rcases dB (v:=ke) hk (cL N c L F) (2*N) (H _) with ⟨a,_⟩ | ⟨j,_,a2,_,a4,_⟩
  ·rw [ht] at a;exact .inl (by rw [a];rfl)
  ·rw [ht] at a2;exact .inr (by rw [a2];exact(bD a4.1).vn)
 have HT:=am fun u (hu:b7 w u)=>iR h u ro rc A L C F (hr.below hu) hL s.kd hk ke t ht;have C6:G (∀ u,b7 w u->jb P 223 #[Pz k r c q,z #[O (A (2*d)) (L (2*d)) (C (2*d)),O (A (2*d+1)) (L (2*d+1)) (C (2*d+1))],J .u8 ((s.kd.toNat:Nat):Int),J I (d:Int),J I (if t.vn=0 then 0 else t.V d)] u fun e w'=>e=S (J I ((osl N c L F s.kd ke d:Nat):Int))/\b7 u w'):=fun u hu=>by
  have g0:=hL (2*d) za;have g1:=hL (2*d+1) za;rw [<- DY hk hd ht];exact wN h u _ _ _ _ _ _ _ _ ((hr.bec _ za).below hu) ((hr.bec _ za).below hu) za za s.kd (d:Int) _ _ _ (by unfold yy;rw [show 2*d / 2=d by omega]) (by unfold yy;rw [show (2*d+1) / 2=d by omega])
 have zN:G (∀ u,b7 w u->jb P 224 #[z #[J .u8 ((s.kd.toNat:Nat):Int),J I (d:Int),J I s.ce,J I s.st,O vo s.vn vc,O bo s.dn cb]] u fun e w'=>∃ uo uc,e=S (O uo (sz N c) uc)/\OwU u.heap.size w' uo (sz N c) uc (enc s)/\b7 u w'):=fun u hu=>by
  have:=AV u s vo vc bo cb qe k9 xX (hs.below hu) hok;unfold slv at this;rw [QL] at this;exact this
 obtain⟨b,off,rfl,jI⟩:=hr.at_ za;obtain⟨w0,bi⟩:=jM w k r c q
 obtain⟨w1,ci⟩:=fd (w0.alloc (.cells #[J .u8 ((s.kd.toNat:Nat):Int),J I (d:Int),J I s.ce,J I s.st,O vo s.vn vc,O bo s.dn cb] 107))
 obtain⟨w2,jz⟩:=fd (w1.alloc (.cells #[J I 0,J I 0,J I 0,O Y 0 0] 56))
 have b0:=jt bi
 have b1:=jt ci
 have b2:=jt jz
 have z0:=ks bi
 have z1:w1.heap.size=w.heap.size+2:=by rw [ci];simp [z0]
 have B1:=am (ap b0 b1);have zq:G (∀ u,b7 w1 u->(u.cell? ⟨w.heap.size,0,Y⟩=Z (J I k)/\u.cell? ⟨w.heap.size,1,Y⟩=Z (J I r)/\u.cell? ⟨w.heap.size,2,Y⟩=Z (J I c)/\u.cell? ⟨w.heap.size,3,Y⟩=Z (J I q))/\(u.cell? ⟨w.heap.size+1,0,Y⟩=Z (J .u8 ((s.kd.toNat:Nat):Int))/\u.cell? ⟨w.heap.size+1,1,Y⟩=Z (J I (d:Int))/\u.cell? ⟨w.heap.size+1,2,Y⟩=Z (J I s.ce)/\u.cell? ⟨w.heap.size+1,3,Y⟩=Z (J I s.st)/\u.cell? ⟨w.heap.size+1,4,Y⟩=Z (O vo s.vn vc)/\u.cell? ⟨w.heap.size+1,5,Y⟩=Z (O bo s.dn cb))/\(u.cell? ⟨b,off+d*2,Y⟩=Z (O (A (2*d)) (L (2*d)) (C (2*d)))/\u.cell? ⟨b,off+d*2+1,Y⟩=Z (O (A (2*d+1)) (L (2*d+1)) (C (2*d+1))))):=fun u hu=>by
  have p:=(ah (f _ _) bi).below (ap b1 hu);have q:=(ah b0 ci).below hu;rw [z0] at q;obtain⟨m0,m1⟩:=jI d hd;exact⟨⟨p.cz 0,p.cz 1,p.cz 2,p.cz 3⟩,⟨q.cz 0,q.cz 1,q.cz 2,q.cz 3,q.cz 4,q.cz 5⟩,held m0 (ap B1.out hu),held m1 (ap B1.out hu)⟩
 have J9:G (w2.heap.size<=w2.heap.size/\∀ u,b7 w2 u->At w u (w.heap.size+2) #[J I 0,J I 0,J I 0,O Y 0 0] 56):=⟨H _,fun u hu=>by rw [<- z1];exact(ah (ap b0 b1) jz).below hu⟩
 have jv:=am b2;have JA:G (w1.heap.size=w.heap.size+2/\w2.heap.size=w.heap.size+3):=⟨z1,by rw [jz];simp [z1]⟩
 have i1:(0:Int)<=(d:Int):=za;have i2:(d:Int)<(N:Int):=za;clear h hr hL hs hok QL ht jI b0 b1 b2 z0 z1;generalize osl N c L F s.kd ke d=sl at *
 by_cases hke:0<ke
 ·clear GP;go_enter Tryz.func154,Tryz.ntmps154
  go_wp2_with fail
  rw [<- bi,<- ci,<- jz];clear bi ci jz;refine(HT.out w2 (ap B1.out jv.out)).mono ?_;rintro e wt ⟨xo,xc,rfl,em,EJ⟩;have GO:=am (ap jv.out EJ);have Ij:G (w2.heap.size<=wt.heap.size/\∀ u,b7 wt u->At w u (w.heap.size+2) #[J I 0,J I 0,J I 0,O Y 0 0] 56):=⟨EJ.size,fun u hu=>J9.out.2 u (ap EJ hu)⟩
  have HV:=am (em.vec);clear em EJ HT;rcases yn with h0 | h0
  ·rw [zk h0] at C6;rw [h0];clear h0;go_wp2_with fail
   obtain⟨⟨a0,a1,a2,a3⟩,⟨s0,s1,s2,s3,s4,s5⟩,r0,r1⟩:=zq.out wt GO.out;go_region_held3 (fun u=>(u.cell? ⟨w.heap.size,0,Y⟩=Z (J I k)/\u.cell? ⟨w.heap.size,1,Y⟩=Z (J I r)/\u.cell? ⟨w.heap.size,2,Y⟩=Z (J I c)/\u.cell? ⟨w.heap.size,3,Y⟩=Z (J I q))/\(u.cell? ⟨w.heap.size+1,0,Y⟩=Z (J .u8 ((s.kd.toNat:Nat):Int))/\u.cell? ⟨w.heap.size+1,1,Y⟩=Z (J I (d:Int))/\u.cell? ⟨w.heap.size+1,2,Y⟩=Z (J I s.ce)/\u.cell? ⟨w.heap.size+1,3,Y⟩=Z (J I s.st)/\u.cell? ⟨w.heap.size+1,4,Y⟩=Z (O vo s.vn vc)/\u.cell? ⟨w.heap.size+1,5,Y⟩=Z (O bo s.dn cb))/\(u.cell? ⟨b,off+d*2,Y⟩=Z (O (A (2*d)) (L (2*d)) (C (2*d)))/\u.cell? ⟨b,off+d*2+1,Y⟩=Z (O (A (2*d+1)) (L (2*d+1)) (C (2*d+1))))) (go_keep) ((go_at_call 223;refine(C6.out _ (ap (ap B1.out GO.out) (bdw _ _))).mono ?_;rintro e wa ⟨rfl,ha⟩;have BA:=am (ap GO.out (az ha));obtain⟨⟨d0,d1,d2,d3⟩,⟨t0,t1,t2,t3,t4,t5⟩,x0,x1⟩:=zq.out wa BA.out;have SZ:G (w2.heap.size<=wa.heap.size/\∀ u,b7 wa u->At w u (w.heap.size+2) #[J I 0,J I 0,J I 0,O Y 0 0] 56):=⟨Nat.le_trans Ij.out.1 (az ha).size,fun u hu=>Ij.out.2 u (ap (az ha) hu)⟩;clear ha))
   clear a0 a1 a2 a3 s0 s1 s2 s3 s4 s5 r0 r1
   try clear d0 d1 d2 d3 x0 x1
   go_wp2_with fail
   go_region_held3 (fun u=>u.cell? ⟨w.heap.size+1,0,Y⟩=Z (J .u8 ((s.kd.toNat:Nat):Int))/\u.cell? ⟨w.heap.size+1,1,Y⟩=Z (J I (d:Int))/\u.cell? ⟨w.heap.size+1,2,Y⟩=Z (J I s.ce)/\u.cell? ⟨w.heap.size+1,3,Y⟩=Z (J I s.st)/\u.cell? ⟨w.heap.size+1,4,Y⟩=Z (O vo s.vn vc)/\u.cell? ⟨w.heap.size+1,5,Y⟩=Z (O bo s.dn cb)) (go_keep) ((go_at_call 224;refine(zN.out _ (ap (ap B1.out BA.out) (bdw _ _))).mono ?_;rintro e wb ⟨uo,uc,rfl,zY,hb⟩;have BB:=am (ap BA.out (az hb));obtain⟨_,⟨g0,g1,g2,g3,g4,g5⟩,_,_⟩:=zq.out wb BB.out;have pt:=SZ.out.2 wb (az hb);have h0:=pt.cz 0;have h1:=pt.cz 1;have h2:=pt.cz 2;have h3:=pt.cz 3;have hf:=pt.free;have zR:G (OwU wa.heap.size wb uo (sz N c) uc (enc s)):=zY.mono zi;clear zY hb pt))
   go_wp2_with fail
   refine bodyPost_ret (v:=z #[J I (d:Int),J I nu,J I ((sl:Nat):Int),O uo (sz N c) uc]) (by simp [results,Tryz.results154,go_sem,h0,h1,h2,h3]) rfl ?_;have MY:=SZ.out.1;have Tp:=JA.out;have yw:=(ap B1.out BA.out).size;refine⟨uo,uc,rfl,(zR.out.stay fun g hg _=>?_).mono yw,ap B1.out ((((BB.out.setCell (by show w1.heap.size<=w.heap.size+2;omega) _).setCell (by show w1.heap.size<=w.heap.size+2;omega) _).setCell (by show w1.heap.size<=w.heap.size+2;omega) _).setCell (by show w1.heap.size<=w.heap.size+2;omega) _)⟩;have f9:g ≠ w.heap.size+2:=za;rw [heap_setCell_other _ _ _ _ f9,heap_setCell_other _ _ _ _ f9,heap_setCell_other _ _ _ _ f9,heap_setCell_other _ _ _ _ f9]
  ·rw [zl za] at C6;rw [h0] at HV ⊢;obtain⟨vb,vf,rfl,GJ⟩:=HV.out.rd za;have cv:=GJ d hd;have sx:=(zq.out wt GO.out).2.1.2.1;have YC:(0:Int)<(N:Int):=za;clear h0 GJ;generalize t.V d=tv at *
   go_wp2_with fail
   clear cv sx;obtain⟨⟨a0,a1,a2,a3⟩,⟨s0,s1,s2,s3,s4,s5⟩,r0,r1⟩:=zq.out wt GO.out;go_region_held3 (fun u=>(u.cell? ⟨w.heap.size,0,Y⟩=Z (J I k)/\u.cell? ⟨w.heap.size,1,Y⟩=Z (J I r)/\u.cell? ⟨w.heap.size,2,Y⟩=Z (J I c)/\u.cell? ⟨w.heap.size,3,Y⟩=Z (J I q))/\(u.cell? ⟨w.heap.size+1,0,Y⟩=Z (J .u8 ((s.kd.toNat:Nat):Int))/\u.cell? ⟨w.heap.size+1,1,Y⟩=Z (J I (d:Int))/\u.cell? ⟨w.heap.size+1,2,Y⟩=Z (J I s.ce)/\u.cell? ⟨w.heap.size+1,3,Y⟩=Z (J I s.st)/\u.cell? ⟨w.heap.size+1,4,Y⟩=Z (O vo s.vn vc)/\u.cell? ⟨w.heap.size+1,5,Y⟩=Z (O bo s.dn cb))/\(u.cell? ⟨b,off+d*2,Y⟩=Z (O (A (2*d)) (L (2*d)) (C (2*d)))/\u.cell? ⟨b,off+d*2+1,Y⟩=Z (O (A (2*d+1)) (L (2*d+1)) (C (2*d+1))))) (go_keep) ((go_at_call 223;refine(C6.out _ (ap (ap B1.out GO.out) (bdw _ _))).mono ?_;rintro e wa ⟨rfl,ha⟩;have BA:=am (ap GO.out (az ha));obtain⟨⟨d0,d1,d2,d3⟩,⟨t0,t1,t2,t3,t4,t5⟩,x0,x1⟩:=zq.out wa BA.out;have SZ:G (w2.heap.size<=wa.heap.size/\∀ u,b7 wa u->At w u (w.heap.size+2) #[J I 0,J I 0,J I 0,O Y 0 0] 56):=⟨Nat.le_trans Ij.out.1 (az ha).size,fun u hu=>Ij.out.2 u (ap (az ha) hu)⟩;clear ha))
   clear a0 a1 a2 a3 s0 s1 s2 s3 s4 s5 r0 r1
   try clear d0 d1 d2 d3 x0 x1
   go_wp2_with fail
   go_region_held3 (fun u=>u.cell? ⟨w.heap.size+1,0,Y⟩=Z (J .u8 ((s.kd.toNat:Nat):Int))/\u.cell? ⟨w.heap.size+1,1,Y⟩=Z (J I (d:Int))/\u.cell? ⟨w.heap.size+1,2,Y⟩=Z (J I s.ce)/\u.cell? ⟨w.heap.size+1,3,Y⟩=Z (J I s.st)/\u.cell? ⟨w.heap.size+1,4,Y⟩=Z (O vo s.vn vc)/\u.cell? ⟨w.heap.size+1,5,Y⟩=Z (O bo s.dn cb)) (go_keep) ((go_at_call 224;refine(zN.out _ (ap (ap B1.out BA.out) (bdw _ _))).mono ?_;rintro e wb ⟨uo,uc,rfl,zY,hb⟩;have BB:=am (ap BA.out (az hb));obtain⟨_,⟨g0,g1,g2,g3,g4,g5⟩,_,_⟩:=zq.out wb BB.out;have pt:=SZ.out.2 wb (az hb);have h0:=pt.cz 0;have h1:=pt.cz 1;have h2:=pt.cz 2;have h3:=pt.cz 3;have hf:=pt.free;have zR:G (OwU wa.heap.size wb uo (sz N c) uc (enc s)):=zY.mono zi;clear zY hb pt))
   go_wp2_with fail
   refine bodyPost_ret (v:=z #[J I (d:Int),J I nu,J I ((sl:Nat):Int),O uo (sz N c) uc]) (by simp [results,Tryz.results154,go_sem,h0,h1,h2,h3]) rfl ?_;have MY:=SZ.out.1;have Tp:=JA.out;have yw:=(ap B1.out BA.out).size;refine⟨uo,uc,rfl,(zR.out.stay fun g hg _=>?_).mono yw,ap B1.out ((((BB.out.setCell (by show w1.heap.size<=w.heap.size+2;omega) _).setCell (by show w1.heap.size<=w.heap.size+2;omega) _).setCell (by show w1.heap.size<=w.heap.size+2;omega) _).setCell (by show w1.heap.size<=w.heap.size+2;omega) _)⟩;have f9:g ≠ w.heap.size+2:=za;rw [heap_setCell_other _ _ _ _ f9,heap_setCell_other _ _ _ _ f9,heap_setCell_other _ _ _ _ f9,heap_setCell_other _ _ _ _ f9]
 ·have hv0:=GP za;rw [zk hv0] at C6;clear GP yn hv0;go_enter Tryz.func154,Tryz.ntmps154
  go_wp2_with fail
  rw [<- bi,<- ci,<- jz];clear bi ci jz;go_wp2_with fail
  obtain⟨⟨a0,a1,a2,a3⟩,⟨s0,s1,s2,s3,s4,s5⟩,r0,r1⟩:=zq.out w2 jv.out;go_region_held3 (fun u=>(u.cell? ⟨w.heap.size,0,Y⟩=Z (J I k)/\u.cell? ⟨w.heap.size,1,Y⟩=Z (J I r)/\u.cell? ⟨w.heap.size,2,Y⟩=Z (J I c)/\u.cell? ⟨w.heap.size,3,Y⟩=Z (J I q))/\(u.cell? ⟨w.heap.size+1,0,Y⟩=Z (J .u8 ((s.kd.toNat:Nat):Int))/\u.cell? ⟨w.heap.size+1,1,Y⟩=Z (J I (d:Int))/\u.cell? ⟨w.heap.size+1,2,Y⟩=Z (J I s.ce)/\u.cell? ⟨w.heap.size+1,3,Y⟩=Z (J I s.st)/\u.cell? ⟨w.heap.size+1,4,Y⟩=Z (O vo s.vn vc)/\u.cell? ⟨w.heap.size+1,5,Y⟩=Z (O bo s.dn cb))/\(u.cell? ⟨b,off+d*2,Y⟩=Z (O (A (2*d)) (L (2*d)) (C (2*d)))/\u.cell? ⟨b,off+d*2+1,Y⟩=Z (O (A (2*d+1)) (L (2*d+1)) (C (2*d+1))))) (go_keep) ((go_at_call 223;refine(C6.out _ (ap (ap B1.out jv.out) (bdw _ _))).mono ?_;rintro e wa ⟨rfl,ha⟩;have BA:=am (ap jv.out (az ha));obtain⟨⟨d0,d1,d2,d3⟩,⟨t0,t1,t2,t3,t4,t5⟩,x0,x1⟩:=zq.out wa BA.out;have SZ:G (w2.heap.size<=wa.heap.size/\∀ u,b7 wa u->At w u (w.heap.size+2) #[J I 0,J I 0,J I 0,O Y 0 0] 56):=⟨Nat.le_trans J9.out.1 (az ha).size,fun u hu=>J9.out.2 u (ap (az ha) hu)⟩;clear ha))
  clear a0 a1 a2 a3 s0 s1 s2 s3 s4 s5 r0 r1
  try clear d0 d1 d2 d3 x0 x1
  go_wp2_with fail
  go_region_held3 (fun u=>u.cell? ⟨w.heap.size+1,0,Y⟩=Z (J .u8 ((s.kd.toNat:Nat):Int))/\u.cell? ⟨w.heap.size+1,1,Y⟩=Z (J I (d:Int))/\u.cell? ⟨w.heap.size+1,2,Y⟩=Z (J I s.ce)/\u.cell? ⟨w.heap.size+1,3,Y⟩=Z (J I s.st)/\u.cell? ⟨w.heap.size+1,4,Y⟩=Z (O vo s.vn vc)/\u.cell? ⟨w.heap.size+1,5,Y⟩=Z (O bo s.dn cb)) (go_keep) ((go_at_call 224;refine(zN.out _ (ap (ap B1.out BA.out) (bdw _ _))).mono ?_;rintro e wb ⟨uo,uc,rfl,zY,hb⟩;have BB:=am (ap BA.out (az hb));obtain⟨_,⟨g0,g1,g2,g3,g4,g5⟩,_,_⟩:=zq.out wb BB.out;have pt:=SZ.out.2 wb (az hb);have h0:=pt.cz 0;have h1:=pt.cz 1;have h2:=pt.cz 2;have h3:=pt.cz 3;have hf:=pt.free;have zR:G (OwU wa.heap.size wb uo (sz N c) uc (enc s)):=zY.mono zi;clear zY hb pt))
  go_wp2_with fail
  refine bodyPost_ret (v:=z #[J I (d:Int),J I nu,J I ((sl:Nat):Int),O uo (sz N c) uc]) (by simp [results,Tryz.results154,go_sem,h0,h1,h2,h3]) rfl ?_;have MY:=SZ.out.1;have Tp:=JA.out;have yw:=(ap B1.out BA.out).size;refine⟨uo,uc,rfl,(zR.out.stay fun g hg _=>?_).mono yw,ap B1.out ((((BB.out.setCell (by show w1.heap.size<=w.heap.size+2;omega) _).setCell (by show w1.heap.size<=w.heap.size+2;omega) _).setCell (by show w1.heap.size<=w.heap.size+2;omega) _).setCell (by show w1.heap.size<=w.heap.size+2;omega) _)⟩;have f9:g ≠ w.heap.size+2:=za;rw [heap_setCell_other _ _ _ _ f9,heap_setCell_other _ _ _ _ f9,heap_setCell_other _ _ _ _ f9,heap_setCell_other _ _ _ _ f9]
theorem vx{w:World}{b off n b8:Nat}{D:Nat->UInt8}(h:Bec w (Z ⟨b,off,Y⟩) n b8 D){p m u:Nat}(hp:p+m<=n)(hn:0<n)(hu:m<=u):Bec w (Z ⟨b,off+p,Y⟩) m u (fun j=>D (p+j)):=by
 refine⟨fun hm=>⟨b,off+p,rfl,fun j hj=>?_⟩,(fun e=>by cases e),hu⟩;obtain⟨b',qg,e,hc⟩:=h.rd hn;cases e
 have:=hc (p+j) za;rw [Nat.add_assoc];exact this
theorem fv{w:World}{pm:Array Oper}{kg:List Oper}{o:Oper}{a:Act}{Q:Exit->Act->World->Prop}(qN:o.guard=Y)(s x:Operand)
  (ho:o.op=.call { callee:=.builtin .append,args:=#[s,x],argTypes:=#[33,33]}) (base n r ca cx:Nat) (ao xo:Option ja) (xs:List Value) (T:Nat->Option ja) (L U:Nat->Nat)
  (hs:a.eval s=O ao n ca) (hx:a.eval x=O xo r cx) (hv:w.ownsRow base 36 1 (O ao n ca) n xs) (hl:∃ B,w.ownsRow B 36 1 (O xo r cx) r (Cod.rowsOf r T L U)) (hn:n<=1000) (hr:r<=1000) (hB:base<=w.heap.size)
  (kP:∀ g6 c' w',w'.ownsRow base 36 1 (O g6 (n+r) c') (n+r) (xs ++ Cod.rowsOf r T L U)->w.grownBy w' (Value.slice ao n ca).ownBlock->wpList P pm Q kg (a.put o.dst (O g6 (n+r) c')) w'):wpList P pm Q (o :: kg) a w:=by
 obtain⟨j0,hj,kE,kB,kt⟩:=info_parts Cod.info23c;obtain⟨B,hl⟩:=hl;rcases hl.2 with ⟨h1,h2⟩ | ⟨g,b8,jw,h1,_⟩
 ·cases h1
  exact wpList_append_own_none qN s x 33 ho base 36 j0 1 Tryz.underlying33 hj (O ao n ca) n xs hs hv hx (kP ao ca w (by rw [show Cod.rowsOf 0 T L U=[] from rfl,List.append_nil];exact hv) ⟨rfl,rfl,rfl,H _,fun _ _ _=>rfl⟩)
 ·cases h1
  refine wpList_append_own w qN s x 33 ho base 36 j0 (O Y 0 0) 1 24 Tryz.underlying33 hj kE kB kt rfl zb (O ao n ca) n xs hs hv ⟨g,0,Y⟩ r cx (Cod.rowsOf r T L U) hx (by rw [Cod.rowsOf_length,Nat.mul_one]) (hl.cells (g:=g) rfl) (Cod.rowsOf_one _ _ _ _) (by unfold maxLen;omega) za hB ?_;intro v' w' h1 h2 _;obtain⟨g6,c',rfl⟩:=Cod.owns_form h1;exact kP g6 c' w' h1 h2
theorem sb{K R m:Nat}(q:Int)(w:World)(b off dn dc:Nat)(D:Nat->UInt8)(hD:Bec w (Z ⟨b,off,Y⟩) dn dc D)(YD:1<=K)(hK:K<=12)(hR:R<=4)(yv:0<m)(hm:m<=64)(xG:dn=K*m)(OA:0<dn):
    jb P 152 #[z #[J I (K:Int),J I (R:Int),J I (m:Int),J I q],O (Z ⟨b,off,Y⟩) dn dc] w fun e w'=>∃ ao b8 T U,e=S (O ao (K+R) b8)/\RdC w' ao (K+R) T (fun _=>m) U/\(∀ i,i<K+R->Bec w' (T i) m (U i) (dH K m D i))/\b7 w w':=by
  have WC:dn<=dc:=hD.room
  have n8:G (∀ u,b7 w u->∀ i,i<K->Bec u (Z ⟨b,off+i*m,Y⟩) m (dc-i*m) (fun j=>D (i*m+j))):=fun u hu i hi=>by
    have h1:i*m+m<=dn:=by rw [xG,<- Nat.succ_mul];exact Nat.mul_le_mul_right m hi
    exact vx (hD.below hu) h1 OA za
  have K2:G (∀ u lo cl,b7 w u->(∃ B,u.ownsRow B 36 1 (O lo K cl) K (Cod.rowsOf K (fun i=>Z ⟨b,off+i*m,Y⟩) (fun _=>m) (fun i=>dc-i*m)))->jb P 222 #[J I (K:Int),J I (R:Int),O lo K cl] u fun e w'=>∃ ao b8 T U,e=S (.tuple #[O ao R b8,J I 0])/\Cod.Copied w' u.heap.size R (O ao R b8) T (fun _=>m) U (Cod.par K (dM m D))/\b7 u w'):=fun u lo cl hu ⟨B,hl⟩=>by
    have JZ:Cod.Lst u lo K (fun i=>Z ⟨b,off+i*m,Y⟩) (fun i=>dc-i*m) (fun _=>m) (dM m D):=Cod.owns_lst hl (fun i hi=>mD (n8.out u hu i hi).rd)
    have MD:=Cod.rEncode_any u (K:Int) (R:Int) lo K cl _ _ _ _ JZ
    have e1:Cod.mayB (K:Int) (R:Int)=true:=zm za
    have hc:=Cod.cnt_full (L:=fun _=>m) (n:=K) (fun i _=>by omega)
    obtain⟨g1,g2⟩:=Cod.okT_of (L:=fun _=>m) (n:=K) (show m ≠ 0 by omega) za (fun _ _=>.inr rfl)
    have e2:Cod.okEnc K (fun _=>m) (K:Int) (R:Int)=true:=by unfold Cod.okEnc Cod.okC;rw [e1,g1,hc];simp
    have e3:Cod.len0 (fun _=>m) K=m:=by
      rcases Cod.len0_sel (fun _=>m) K with ⟨e,_⟩ | ⟨_,e,_⟩
      · omega
      · exact e
    rw [e1,e2,e3,jc,jc] at MD
    exact MD
  obtain⟨j0,hj,kE,kB,kt⟩:=info_parts Cod.info23c
  obtain⟨w0,bi⟩:=fd (w.alloc (.cells #[J I (K:Int),J I (R:Int),J I (m:Int),J I q] 23))
  have B0:G (b7 w w0):=by show X _ _ _;rw [bi];exact bal _ _
  have L0:=am fun v (hv:b7 w0 v)=>(ah (f _ _) bi).below hv
  have My:=am xG
  have Ja:=am fun i (hi:i<=K)=>fC hi za hm
  clear xG hD
  go_enter Tryz.func152,Tryz.ntmps152
  go_wp2_with fail
  rw [<- bi]
  clear bi
  go_loopw [5,6] (fun s x wr=>∃ i:Nat,i<=K/\x=J I (i:Int)/\∃ ao c,s=O ao i c/\G (wr.ownsRow w0.heap.size 36 1 (O ao i c) i (Cod.rowsOf i (fun i=>Z ⟨b,off+i*m,Y⟩) (fun _=>m) (fun i=>dc-i*m)))/\G (b7 w0 wr)) (fun _ x _=>K-(intOf x).toNat)
  case atStart=>exact⟨0,Nat.zero_le _,rfl,Y,0,rfl,World.ownsRow_nil _ _ _ _,f _ _⟩
  case round =>
    obtain⟨i,hi,rfl,ao,cp,rfl,em,d8⟩:=hrel
    have pp:=L0.out wr d8.out
    have q0:=pp.cz 0
    have q1:=pp.cz 1
    have q2:=pp.cz 2
    clear pp
    by_cases hlt:i<K
    · obtain⟨p,hp⟩:=fd (i*m)
      have Ig:p+m=(i+1)*m:=by rw [hp,Nat.succ_mul]
      have WD:p+m<=dn:=by rw [My.out,Ig];exact Nat.mul_le_mul_right m hlt
      have WE:p+m<=1024:=by rw [Ig];exact Ja.out _ hlt
      obtain⟨v1,v3⟩:=val_mul hp za
      obtain⟨v2,v4⟩:=oQ Ig za
      have HP:=am hp
      clear hp Ig
      have kR:=am (em.out)
      obtain⟨xs,xV⟩:=fd (Cod.rowsOf i (fun i=>Z (⟨b,off+i*m,Y⟩:ja)) (fun _=>m) (fun i=>dc-i*m))
      rw [<- xV] at kR
      have HX:G (xs ++ [O (Z ⟨b,off+p,Y⟩) m (dc-p)]=Cod.rowsOf (i+1) (fun i=>Z ⟨b,off+i*m,Y⟩) (fun _=>m) (fun i=>dc-i*m)):=by
        show _=_
        unfold Cod.rowsOf at xV ⊢
        rw [List.range_succ,List.map_append,List.map_cons,List.map_nil,xV,HP.out]
      have i0:(i:Int)<(K:Int):=za;have i1:(0:Int)<=(p:Int):=za;have i2:(p:Int)<=(p:Int)+(m:Int):=za;have i3:(p:Int)+(m:Int)<=(dc:Int):=za;have i4:¬ (p:Int)+(m:Int)<0:=za;clear xV em
      go_wp2_with (at_builtin;refine wpList_append_lies _ zg (.tmp 15) (.tmp 27) 33 zg w0.heap.size 36 j0 (O Y 0 0) 1 24 Tryz.underlying33 hj kE kB kt zg zb (O ao i cp) i xs zg (ar kR.out (bal _ _)) ⟨wr.heap.size, 0, Y⟩ 1 1 [O (Z ⟨b, off + p, Y⟩) m (dc - p)] (by simp [Act.eval]) zg (World.news_of_block (heap_alloc_new wr _)) (by simp [Value.oneCell']) zb (by unfold maxLen;omega) za (by have := d8.out.size;simp;omega) (wr.heap.size + 1) zi ?_;intro g5 ky w5 jG i7 _ _
                   have yR:G (w5.ownsRow w0.heap.size 36 1 (O (Z ⟨g5,0,Y⟩) (i+1) ky) (i+1) (Cod.rowsOf (i+1) (fun i=>Z ⟨b,off+i*m,Y⟩) (fun _=>m) (fun i=>dc-i*m))):=by rw [<- HX.out];exact jG
                   have yT:G (b7 w0 w5):=(ap d8.out (bal _ _)).grown i7 (by have:=d8.out.size;simp;omega) (fun r hr=>(kR.out.lt r hr).1)
                   clear jG i7)
      go_roundw
      case rel=>exact⟨i+1,za,by go_num,_,ky,rfl,yR.out,yT.out⟩
      case measure=>simp [intOf];omega
    · obtain rfl:i=K:=za
      have ME:=K2.out wr ao cp (ap B0.out d8.out) ⟨_,em.out⟩
      have kR:=am (em.out)
      clear em
      go_wp2_with fail
      refine ME.mono ?_
      clear ME q0 q1 q2
      rintro e w5 ⟨po,pc,T,U,rfl,jY,h5⟩
      have yT:=am (ap d8.out h5)
      have JI:=am (ar kR.out h5)
      have Tq:=am jY
      have qA:=yT.out.size
      clear h5 jY
      go_wp2_with (at_builtin;refine fv rfl (.tmp 38) (.tmp 39) rfl w0.heap.size i R cp pc ao po _ T (fun _=>m) U rfl rfl JI.out ⟨_,Tq.out.out⟩ za za qA ?_;intro g6 c' w7 zX ym;have W0:=am zX;have Tr:=am ym;clear zX ym)
      go_ret
      have JK:b7 w0 w7:=yT.out.grown Tr.out qA (fun r hr=>(JI.out.lt r hr).1)
      have em:=W0.out
      rw [<- Cod.rowsOf_join] at em
      refine⟨g6,⟨c',rfl⟩,Cod.join i (fun i=>Z ⟨b,off+i*m,Y⟩) T,Cod.join i (fun i=>dc-i*m) U,fun hp=>?_,fun l hl=>?_,ap B0.out JK⟩
      · rcases em.2 with ⟨_,h1⟩ | ⟨g,jy,jw,h1,_⟩
        · omega
        · cases h1
          refine⟨g,0,rfl,fun l hl=>?_⟩
          have:=em.cells (g:=g) rfl l _ (Cod.rowsOf_get (i+R) _ _ _ l hl)
          rw [Addr.add_lit,Cod.join_const] at this
          exact this
      · unfold Cod.join
        by_cases e:l<i
        · rw [zk e,zk e]
          exact(n8.out w7 (ap B0.out JK) l e).congr fun j _=>(tb e).symm
        · rw [zl e,zl e]
          have jA:=Tq.out.row (l-i) za
          rw [ig] at jA
          have:=OwU.bec (B:=wr.heap.size) (ff jA JI.out zb Tr.out)
          refine this.congr fun j _=>?_
          unfold dH Cod.par
          rw [show i+(l-i)=l by omega]
theorem mI(Lc os:Nat->Nat)(nu:Int)(n:Nat)(T:Nat->Option ja)(U:Nat->Nat):∀ d,(ptl Lc os nu n T U d).length=4*Cod.cnt Lc d
 | 0=>rfl
 | d+1=>by
  rw [ptl];by_cases h:Lc d=0
  ·rw [zk h,Cod.cnt_skip h];exact mI Lc os nu n T U d
  ·rw [zl h,Cod.cnt_take h,List.length_append,mI Lc os nu n T U d];simp;omega
theorem nL{v:Int}(hv:1<=v):∀ {n:Nat},0<n->mx (fun _=>v) n=v
 | 0,h=>absurd h za
 | 1,_=>by rw [mx,mx,gr];split <;> omega
 | n+2,_=>by rw [mx,nL hv (n:=n+1) za,gr];split <;> omega
end Go.Proofs.YtemlojjkokooeaaGreat
