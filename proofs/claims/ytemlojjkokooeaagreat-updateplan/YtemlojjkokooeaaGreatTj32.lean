import Derived.Test.YtemlojjkokooeaaGreatTj29
import Derived.Test.YtemlojjkokooeaaGreatTj31
set_option maxHeartbeats 4000000
set_option maxRecDepth 100000
namespace Go.Proofs.YtemlojjkokooeaaGreat
open Go.RowKit
def thZ (z:Nat->Sl) (i j:Nat):Sl:=if j<i then z j else zSl
theorem thZ_take(z:Nat->Sl)(i:Nat):thZ z (i+1)=Cod.put i (z i) (thZ z i):=funext fun j=>by
 unfold thZ;by_cases b:j=i
 ·rw [b,Cod.put_at,if_pos (by omega)]
 ·rw [Cod.put_ne _ _ b];by_cases a:j<i
  ·rw [if_pos a,if_pos (by omega)]
  ·rw [if_neg a,if_neg (by omega)]
theorem thZ_skip{z:Nat->Sl}{i:Nat}(h:z i=zSl):thZ z (i+1)=thZ z i:=funext fun j=>by
 unfold thZ;by_cases b:j=i
 ·rw [b,if_pos (by omega),if_neg (Nat.lt_irrefl i)]; exact h
 ·by_cases a:j<i
  ·rw [if_pos a,if_pos (by omega)]
  ·rw [if_neg a,if_neg (by omega)]
theorem thZ_zero(z:Nat->Sl):thZ z 0=fun _=>zSl:=funext fun j=>if_neg (Nat.not_lt_zero j)
theorem made_rowsT(n:Nat):madeCells #[Value.slice none 0 0] n=(Cod.rowsOf n (fun _=>none) (fun _=>0) (fun _=>0)).toArray:=by
 apply Array.ext'
 unfold Cod.rowsOf madeCells;apply List.ext_getElem?
 intro i;by_cases h:i<n
 ·simp [h,Nat.mod_one]
 ·simp [h]
theorem put_dnT(i:Nat)(y:Sl)(Z:Nat->Sl):(fun j=>(Cod.put i y Z j).dn)=Cod.put i y.dn (fun j=>(Z j).dn):=funext fun j=>by
 unfold Cod.put; split <;> rfl
theorem There_any{k r c q:Int}{N W:Nat}(h:Par k r c q N W 0)(w:World)(ro:Option Addr)(rc:Nat)(A:Nat->Option Addr)(L C:Nat->Nat)(F:Nat->Nat->UInt8)(hr:Rw w ro N A L C F)(hL:∀ j,j<2*N->L j=0\/L j=sz N c)(kd:UInt8)(hk:kd=1\/kd=2)(v:Int):
  Calls Tryz.prog 73 #[.agg #[.int .i64 k,.int .i64 r,.int .i64 c,.int .i64 q],.slice ro N rc,.int .u8 ((kd.toNat:Nat):Int),.int .i64 v] w fun e w'=>∃ T U,e=.returned (.tuple #[.slice (some ⟨w.heap.size+1,0,none⟩) N N,.int .i64 ((ct (zv N c L F kd v) N:Nat):Int)])/\w'.ownsRow (w.heap.size+1) 36 1 (.slice (some ⟨w.heap.size+1,0,none⟩) N N) N (Cod.rowsOf N T (fun j=>(zv N c L F kd v j).dn) U)/\(∀ j,j<N->OwU (w.heap.size+1) w' (T j) (zv N c L F kd v j).dn (U j) (zv N c L F kd v j).D)/\Below w.heap.size w w':=by
 have hle:=h.le;have hsz:sz N c<=1000:=by
  have:=h.cell rfl;unfold sz; omega
 obtain⟨w0,hw0⟩:∃ w0,w0=w.alloc (.cells #[.int .i64 k,.int .i64 r,.int .i64 c,.int .i64 q] 23):=⟨_,rfl⟩
 obtain⟨t,ht⟩:∃ t,tS (yy N c L F) kd v (2*N)=t:=⟨_,rfl⟩
 obtain⟨z,hz⟩:∃ z,z=zv N c L F kd v:=⟨_,rfl⟩
 have hzt:∀ i,z i=zz (yy N c L F) kd t i:=fun i=>by rw [hz,<- ht]; rfl
 have htv:(t.vn=0/\∀ i,i<N->z i=zSl)\/(t.vn=N/\t.ce ≠ 0):=by
  rcases tS_is (v:=v) hk (yy_ok N c L F) (2*N) (Nat.le_refl _) with ⟨a,_⟩ | ⟨j,_,a2,_,a4,_⟩
  ·rw [ht] at a;refine .inl ⟨by rw [a]; rfl,fun i _=>?_⟩;rw [hzt,a]; unfold zz; rw [if_pos (show zSl.ce=0 from rfl)]
  ·rw [ht] at a2;exact .inr ⟨by rw [a2]; exact(ok_of a4.1).vn,by rw [a2]; exact(ok_of a4.1).ne⟩
 have B0:Hid (Below w.heap.size w w0):=by show Below _ _ _; rw [hw0]; exact bal _ _
 have L0:Hid (∀ u,Below w0.heap.size w0 u->At w u w.heap.size #[.int .i64 k,.int .i64 r,.int .i64 c,.int .i64 q] 23):=fun u hu=>(at_made (Below.refl _ _) hw0).below hu;have HR:Hid (Rw w ro N A L C F):=hr;have HLL:Hid (∀ j,j<2*N->L j<=1000):=fun j hj=>by rcases hL j hj with e | e <;> omega
 have HTO:Hid (∀ u,Below w.heap.size w u->Calls Tryz.prog 70 #[.agg #[.int .i64 k,.int .i64 r,.int .i64 c,.int .i64 q],.slice ro N rc,.int .u8 ((kd.toNat:Nat):Int),.int .i64 v] u (AnsW u t)):=fun u hu=>Told_any h u ro rc A L C F (hr.below hu) hL kd hk v t ht;have HHO:Hid (∀ i,i<N->∀ u,Below w.heap.size w u->Calls Tryz.prog 137 #[.agg #[.int .i64 k,.int .i64 r,.int .i64 c,.int .i64 q],.agg #[.slice (A (2*i)) (L (2*i)) (C (2*i)),.slice (A (2*i+1)) (L (2*i+1)) (C (2*i+1))],.int .u8 ((kd.toNat:Nat):Int),.int .i64 (i:Int),.int .i64 (t.V i)] u fun e w'=>e=.returned (.int .i64 (hN (yy N c L F (2*i)) (yy N c L F (2*i+1)) kd (t.V i)))/\Below u.heap.size u w'):=fun i hi u hu=>by
  have g0:=HLL.out (2*i) (by omega);have g1:=HLL.out (2*i+1) (by omega);exact Holds_any h u _ _ _ _ _ _ _ _ ((hr.bec _ (by omega)).below hu) ((hr.bec _ (by omega)).below hu) (by omega) (by omega) kd (i:Int) (t.V i) _ _ (by unfold yy; rw [show 2*i / 2=i by omega]) (by unfold yy; rw [show (2*i+1) / 2=i by omega])
 have HOF:Hid (∀ i s,i<N->s<2->∀ u,Below w.heap.size w u->Calls Tryz.prog 135 #[.agg #[.int .i64 k,.int .i64 r,.int .i64 c,.int .i64 q],.slice (A (2*i+s)) (L (2*i+s)) (C (2*i+s)),.int .i64 (i:Int)] u fun e w'=>∃ ao ca bo cb,e=.returned (.tuple #[.agg #[.int .u8 (((yy N c L F (2*i+s)).kd.toNat:Nat):Int),.int .i64 (yy N c L F (2*i+s)).ix,.int .i64 (yy N c L F (2*i+s)).ce,.int .i64 (yy N c L F (2*i+s)).st,.slice ao (yy N c L F (2*i+s)).vn ca,.slice bo (yy N c L F (2*i+s)).dn cb],.bool (decide (¬ (yy N c L F (2*i+s)).ce=0))])/\Got u.heap.size w' (yy N c L F (2*i+s)) ao ca bo cb/\Below u.heap.size u w'):=fun i s hi hs u hu=>by
  have g0:=HLL.out (2*i+s) (by omega);exact Of_any h u _ _ _ _ ((hr.bec _ (by omega)).below hu) (by omega) (i:Int) _ (by unfold yy; rw [show (2*i+s) / 2=i by omega])
 have HZH:Hid (∀ i,i<N->t.ce ≠ 0->((hN (yy N c L F (2*i)) (yy N c L F (2*i+1)) kd (t.V i)=-1/\z i=zSl)\/∃ s:Nat,s<2/\hN (yy N c L F (2*i)) (yy N c L F (2*i+1)) kd (t.V i)=(s:Int)/\z i=yy N c L F (2*i+s)/\(z i).ce ≠ 0)):=fun i hi h0=>by
  have hzi:=hzt i;unfold zz fZ at hzi;rw [if_neg h0] at hzi;unfold hN;obtain⟨p0,p1⟩:=pair_of (yy_ok N c L F) hi;cases e0:hB (yy N c L F (2*i)) kd (t.V i)
  ·rw [e0,if_neg Bool.false_ne_true] at hzi;rw [if_neg Bool.false_ne_true];cases e1:hB (yy N c L F (2*i+1)) kd (t.V i)
   ·rw [e1,if_neg Bool.false_ne_true] at hzi;exact .inl ⟨if_neg Bool.false_ne_true,hzi⟩
   ·rw [e1,if_pos rfl] at hzi;exact .inr ⟨1,by omega,if_pos rfl,hzi,by rw [hzi,(hB_true e1).2.2]; exact(hB_true e1).1⟩
  ·rw [e0,if_pos rfl] at hzi;exact .inr ⟨0,by omega,if_pos rfl,hzi,by rw [hzi,(hB_true e0).2.2]; exact(hB_true e0).1⟩
 have hmk:=run_make_row' (P:=Tryz.prog) 33 36 (.slice none 0 0) 24 Tryz.underlying33 Cod.info34 rfl .i64 .i64 N (by omega) (by omega);rw [made_rowsT] at hmk;rw [<- hz];obtain⟨w1,hw1⟩:∃ w1,w1=w0.alloc (.cells (Cod.rowsOf N (fun _=>none) (fun _=>0) (fun _=>0)).toArray 36):=⟨_,rfl⟩
 have z0:w0.heap.size=w.heap.size+1:=by rw [hw0]; simp
 have B1:Hid (Below w0.heap.size w0 w1):=by show Below _ _ _; rw [hw1]; exact bal _ _
 have HG:Hid (w1.heap.size=w.heap.size+2/\w0.heap.size=w.heap.size+1):=by refine⟨?_,z0⟩; rw [hw1]; simp [z0]
 have HO1:Hid (w1.ownsRow w0.heap.size 36 1 (.slice (some ⟨w.heap.size+1,0,none⟩) N N) N (Cod.rowsOf N (fun _=>none) (fun _=>0) (fun _=>0))):=by
  show World.ownsRow _ _ _ _ _ _ _;have:=World.ownsRow_lit w0 (Cod.rowsOf N (fun _=>none) (fun _=>0) (fun _=>0)).toArray (e:=36) (size:=1) N (Nat.le_refl _) (by unfold maxLen; omega) (by simp [Cod.rowsOf_length]);rw [hw1,<- z0]
  simpa using this
 have HFIN:Hid (∀ i wr,(i=t.vn)->Below w0.heap.size w0 wr->(∃ T U,wr.ownsRow w0.heap.size 36 1 (.slice (some ⟨w.heap.size+1,0,none⟩) N N) N (Cod.rowsOf N T (fun j=>(thZ z i j).dn) U)/\∀ j,j<N->OwU w1.heap.size wr (T j) (thZ z i j).dn (U j) (thZ z i j).D)->∃ T U,wr.ownsRow (w.heap.size+1) 36 1 (.slice (some ⟨w.heap.size+1,0,none⟩) N N) N (Cod.rowsOf N T (fun j=>(z j).dn) U)/\(∀ j,j<N->OwU (w.heap.size+1) wr (T j) (z j).dn (U j) (z j).D)/\ct z i=ct z N):=fun i wr hi hb ⟨T,U,h1,h2⟩=>by
  obtain⟨g1,g2⟩:=HG.out;have hZ:∀ j,j<N->thZ z i j=z j:=fun j hj=>by
   unfold thZ;rcases htv with ⟨a,b⟩ | ⟨a,_⟩
   ·rw [if_neg (by omega)]; exact(b j hj).symm
   ·rw [if_pos (by omega)]
  refine⟨T,U,?_,fun j hj=>?_,?_⟩
  ·rw [g2] at h1;have:Cod.rowsOf N T (fun j=>(thZ z i j).dn) U=Cod.rowsOf N T (fun j=>(z j).dn) U:=by
    unfold Cod.rowsOf;exact List.map_congr_left fun j hj=>by show Value.slice _ (thZ z i j).dn _=Value.slice _ (z j).dn _; rw [hZ j (List.mem_range.1 hj)]
   rw [<- this]; exact h1
  ·have:=h2 j hj;rw [hZ j hj] at this;exact this.mono (by omega)
  ·rcases htv with ⟨a,b⟩ | ⟨a,_⟩
   ·rw [hi,a];have:∀ n,n<=N->ct z n=0:=fun n=>by
     induction n with
     | zero=>intro _; rfl
     | succ n ih=>intro hn; rw [(se_skip (z:=z) (d:=n) (by rw [b n (by omega)]; rfl)).1]; exact ih (by omega)
    rw [this N (Nat.le_refl _)]; rfl
   ·rw [hi,a]
 have htn:t.vn<=N:=by rcases htv with ⟨a,_⟩ | ⟨a,_⟩ <;> omega
 have HTC:Hid (0<t.vn->t.ce ≠ 0/\t.vn=N):=fun a=>by
  rcases htv with ⟨b,_⟩ | ⟨b,c⟩
  ·omega
  ·exact⟨c,b⟩
 clear h hr hL hz ht hzt htv;go_enter Tryz.func73,Tryz.ntmps73
 go_wp2_with fail
 rw [<- hw0,<- hw1];clear hmk z0;have s0:=blk_held hw0 B1.out 0 rfl;have s1:=blk_held hw0 B1.out 1 rfl;have s2:=blk_held hw0 B1.out 2 rfl;have s3:=blk_held hw0 B1.out 3 rfl;clear hw0 hw1;refine(HTO.out w1 (bth B0.out B1.out)).mono ?_;rintro e wt ⟨vo,vc,rfl,hown,hwt⟩;have HVE:Hid (Own w1.heap.size wt vo t.vn vc t.V):=hown;have BT:Hid (Below w0.heap.size w0 wt):=bth B1.out hwt;have HI0:Hid (∃ T U,wt.ownsRow w0.heap.size 36 1 (.slice (some ⟨w.heap.size+1,0,none⟩) N N) N (Cod.rowsOf N T (fun j=>(thZ z 0 j).dn) U)/\∀ j,j<N->OwU w1.heap.size wt (T j) (thZ z 0 j).dn (U j) (thZ z 0 j).D):=by
  rw [thZ_zero];exact⟨fun _=>none,fun _=>0,owns_below HO1.out hwt,fun j _=>owu_nil _ _ _⟩
 have HS0:Hid (w1.heap.size<=wt.heap.size):=hwt.size;clear hown hwt s0 s1 s2 s3;go_wp2_with fail
 go_loopw [12,13] (fun n y wr=>∃ i:Nat,i<=t.vn/\y=.int .i64 (i:Int)/\n=.int .i64 ((ct z i:Nat):Int)/\Hid (Below wt.heap.size wt wr\/True)/\Hid (Below w0.heap.size w0 wr)/\Hid (w1.heap.size<=wr.heap.size)/\Hid (Own w1.heap.size wr vo t.vn vc t.V)/\Hid (∃ T U,wr.ownsRow w0.heap.size 36 1 (.slice (some ⟨w.heap.size+1,0,none⟩) N N) N (Cod.rowsOf N T (fun j=>(thZ z i j).dn) U)/\∀ j,j<N->OwU w1.heap.size wr (T j) (thZ z i j).dn (U j) (thZ z i j).D)) (fun _ y _=>t.vn-(intOf y).toNat)
 case atStart=>exact⟨0,Nat.zero_le _,rfl,rfl,.inr trivial,BT.out,HS0.out,HVE.out,HI0.out⟩
 case round =>
  obtain⟨i,hi,rfl,rfl,_,hbw,hsw,hve,hcs⟩:=hrel;have hctb:=ct_le z i;obtain⟨cn,hcn⟩:∃ cn,cn=ct z i:=⟨_,rfl⟩
  rw [<- hcn] at hctb ⊢;have HCN:Hid (cn=ct z i):=hcn;clear hcn;by_cases hlt:i<t.vn
  ·obtain⟨hce,hvn⟩:=HTC.out (by omega);have hiN:i<N:=by omega
   clear hvn;obtain⟨b,off,rfl,hcc⟩:=HR.out.at_ (by omega);have i1:(0:Int)<=(i:Int):=by omega
   have i2:(i:Int)<(N:Int):=by omega
   have i3:(i:Int)<(t.vn:Int):=by omega
   obtain⟨vb,vf,rfl,hvc⟩:=hve.out.vec.rd (by omega);have cv:=hvc i hlt;have HCC:Hid (w.cell? ⟨b,off+i*2,none⟩=some (.slice (A (2*i)) (L (2*i)) (C (2*i)))/\w.cell? ⟨b,off+i*2+1,none⟩=some (.slice (A (2*i+1)) (L (2*i+1)) (C (2*i+1)))):=hcc i hiN;have HVC:Hid (∀ u,Below wr.heap.size wr u->Own w1.heap.size u (some ⟨vb,vf,none⟩) t.vn vc t.V):=fun u hu=>hve.out.below hu;clear hvc hcc;have HKK:Hid (∀ u,Below wr.heap.size wr u->(u.cell? ⟨w.heap.size,0,none⟩=some (.int .i64 k)/\u.cell? ⟨w.heap.size,1,none⟩=some (.int .i64 r)/\u.cell? ⟨w.heap.size,2,none⟩=some (.int .i64 c)/\u.cell? ⟨w.heap.size,3,none⟩=some (.int .i64 q))/\u.cell? ⟨b,off+i*2,none⟩=some (.slice (A (2*i)) (L (2*i)) (C (2*i)))/\u.cell? ⟨b,off+i*2+1,none⟩=some (.slice (A (2*i+1)) (L (2*i+1)) (C (2*i+1)))):=fun u hu=>by
    have p:=L0.out u (bth hbw.out hu);exact⟨⟨p.cell (i:=0) rfl,p.cell (i:=1) rfl,p.cell (i:=2) rfl,p.cell (i:=3) rfl⟩,held HCC.out.1 (bth (bth B0.out hbw.out) hu),held HCC.out.2 (bth (bth B0.out hbw.out) hu)⟩
   have HHB:=fun u (hu:Below wr.heap.size wr u)=>HHO.out i hiN u (bth (bth B0.out hbw.out) hu);have hZ1:=HZH.out i hiN hce;obtain⟨hn,hhn⟩:∃ hn,hn=hN (yy N c L F (2*i)) (yy N c L F (2*i+1)) kd (t.V i):=⟨_,rfl⟩
   rw [<- hhn] at HHB hZ1;clear hhn;obtain⟨⟨s0,s1,s2,s3⟩,p0,p1⟩:=HKK.out wr (Below.refl _ _);go_wp2_with fail
   go_region_held3 (fun u=>u.cell? ⟨w.heap.size,0,none⟩=some (.int .i64 k)/\u.cell? ⟨w.heap.size,1,none⟩=some (.int .i64 r)/\u.cell? ⟨w.heap.size,2,none⟩=some (.int .i64 c)/\u.cell? ⟨w.heap.size,3,none⟩=some (.int .i64 q)/\u.cell? ⟨b,off+i*2,none⟩=some (.slice (A (2*i)) (L (2*i)) (C (2*i)))/\u.cell? ⟨b,off+i*2+1,none⟩=some (.slice (A (2*i+1)) (L (2*i+1)) (C (2*i+1)))/\u.cell? ⟨vb,vf+i,none⟩=some (.int .i64 (t.V i))) (go_keep) ((go_at_call 137; refine(HHB _ (bdw _ _)).mono ?_; rintro e wa ⟨rfl,ha⟩; have BA:Hid (Below wr.heap.size wr wa):=of_drew' ha; obtain⟨⟨a0,a1,a2,a3⟩,a4,a5⟩:=HKK.out wa BA.out; have a6:=held cv BA.out; clear ha))
   clear a0 a1 a2 a3 a4 a5 a6 s0 s1 s2 s3 p0 p1 cv;rcases hZ1 with ⟨hneg,hzs⟩ | ⟨s,hs2,hpos,hzs,hzne⟩
   ·subst hneg;have HNX:Hid ((∃ T U,wa.ownsRow w0.heap.size 36 1 (.slice (some ⟨w.heap.size+1,0,none⟩) N N) N (Cod.rowsOf N T (fun j=>(thZ z (i+1) j).dn) U)/\∀ j,j<N->OwU w1.heap.size wa (T j) (thZ z (i+1) j).dn (U j) (thZ z (i+1) j).D)/\cn=ct z (i+1)):=by
     obtain⟨T,U,h1,h2⟩:=hcs.out;rw [thZ_skip hzs];exact⟨⟨T,U,owns_below h1 BA.out,fun j hj=>(h2 j hj).below BA.out⟩,by rw [(se_skip (z:=z) (d:=i) (by rw [hzs]; rfl)).1]; exact HCN.out⟩
    go_wp2_with fail
    go_roundw
    case rel=>exact⟨i+1,by omega,by go_num,by rw [<- HNX.out.2],.inr trivial,bth hbw.out BA.out,Nat.le_trans hsw.out BA.out.size,HVC.out wa BA.out,HNX.out.1⟩
    case measure=>simp [intOf]; omega
   ·subst hpos;have k1:¬ (s:Int)<0:=by omega
    have k2:(0:Int)<=(s:Int):=by omega
    have CHH:Hid (∀ u,Below wa.heap.size wa u->(u.cell? ⟨w.heap.size,0,none⟩=some (.int .i64 k)/\u.cell? ⟨w.heap.size,1,none⟩=some (.int .i64 r)/\u.cell? ⟨w.heap.size,2,none⟩=some (.int .i64 c)/\u.cell? ⟨w.heap.size,3,none⟩=some (.int .i64 q)/\u.cell? ⟨b,off+i*2+s,none⟩=some (.slice (A (2*i+s)) (L (2*i+s)) (C (2*i+s))))):=fun u hu=>by
     obtain⟨⟨a0,a1,a2,a3⟩,a4,a5⟩:=HKK.out u (bth BA.out hu);refine⟨a0,a1,a2,a3,?_⟩;rcases (show s=0\/s=1 by omega) with rfl | rfl
     ·exact a4
     ·exact a5
    have hOF:=fun u (hu:Below wa.heap.size wa u)=>HOF.out i s hiN hs2 u (bth (bth (bth B0.out hbw.out) BA.out) hu);rw [<- hzs] at hOF;clear hzs;go_wp2_with fail
    refine there_reg wa k r c q w.heap.size b off N rc i s hs2 i1 i2 (A (2*i+s)) (L (2*i+s)) (C (2*i+s)) (z i) (decide (¬ (z i).ce=0)) _ _ _ _ _ _ _ _ _ _ _ _ _ _ _ _ _ _ _ _ _ _ _ _ _ _ _ _ _ _ _ _ _ _ _ _ _ _ _ _ _ _ _ _ _ _ _ _ _ _ _ _ _ _ _ _ _ _ _ _ _ _ CHH hOF _ (fun v' g ao ca bo cb hb3 hat hgot=>?_);have HB4:Hid (Below wr.heap.size wr v'):=bth BA.out hb3;have c5:=hat.cell (i:=5) rfl;have HGT:Hid (OwU wa.heap.size v' bo (z i).dn cb (z i).D):=hgot.bec;clear hat hb3 hgot hOF;obtain⟨T,U,h1,h2⟩:=hcs.out;have h1':=owns_below h1 HB4.out;have hst:=World.ownsRow.stored h1' i (.slice bo (z i).dn cb);rw [rows_set] at hst;have ck:v'.cell? ⟨w.heap.size+1,i,none⟩=some (.slice (T i) (thZ z i i).dn (U i)):=by
     have:=h1'.cells (g:=w.heap.size+1) rfl i _ (Cod.rowsOf_get N T _ U i hiN);rw [Addr.add_lit,Nat.zero_add] at this;exact this
    have kf:v'.frozen? ⟨w.heap.size+1,i,none⟩=false:=World.ownsRow.frozenAt h1' _;have hne:∀ x,w1.heap.size<=x->x<v'.heap.size->(v'.setCell ⟨w.heap.size+1,i,none⟩ (.slice bo (z i).dn cb)).heap[x]? = v'.heap[x]?:=fun x h3 _=>heap_setCell_other _ _ _ _ (by have:=HG.out.1; show x ≠ w.heap.size+1; omega);have HNX:Hid ((∃ T U,(v'.setCell ⟨w.heap.size+1,i,none⟩ (.slice bo (z i).dn cb)).ownsRow w0.heap.size 36 1 (.slice (some ⟨w.heap.size+1,0,none⟩) N N) N (Cod.rowsOf N T (fun j=>(thZ z (i+1) j).dn) U)/\∀ j,j<N->OwU w1.heap.size (v'.setCell ⟨w.heap.size+1,i,none⟩ (.slice bo (z i).dn cb)) (T j) (thZ z (i+1) j).dn (U j) (thZ z (i+1) j).D)/\cn+1=ct z (i+1)):=by
     rw [thZ_take];refine⟨⟨Cod.put i bo T,Cod.put i cb U,by rw [put_dnT]; exact hst.1,fun j hj=>?_⟩,by rw [HCN.out]; unfold ct; rw [Cod.cnt_take (show lz z i ≠ 0 by unfold lz; rw [if_neg hzne]; decide)]⟩;by_cases e:j=i
     ·rw [e,Cod.put_at,Cod.put_at,Cod.put_at];exact(HGT.out.mono (Nat.le_trans hsw.out BA.out.size)).stay hne
     ·rw [Cod.put_ne _ _ e,Cod.put_ne _ _ e,Cod.put_ne _ _ e];exact((h2 j hj).below HB4.out).stay hne
    have hz0:wr.heap.size<=wr.heap.size:=Nat.le_refl _;have HB5:Hid (Below w0.heap.size w0 (v'.setCell ⟨w.heap.size+1,i,none⟩ (.slice bo (z i).dn cb))/\w1.heap.size<=(v'.setCell ⟨w.heap.size+1,i,none⟩ (.slice bo (z i).dn cb)).heap.size):=by
     have g2:=HG.out.2;refine⟨(bth hbw.out HB4.out).setCell (by show w0.heap.size<=w.heap.size+1; omega) _,?_⟩;have h7:=Nat.le_trans hsw.out HB4.out.size
     simpa [World.setCell] using h7
    have HVN:Hid (Own w1.heap.size (v'.setCell ⟨w.heap.size+1,i,none⟩ (.slice bo (z i).dn cb)) (some ⟨vb,vf,none⟩) t.vn vc t.V):=(HVC.out v' HB4.out).stay hne;clear h1 h2 h1' hst;go_wp2_with fail
    go_roundw
    case rel=>exact⟨i+1,by omega,by go_num,by rw [<- HNX.out.2]; go_num,.inr trivial,HB5.out.1,HB5.out.2,HVN.out,HNX.out.1⟩
    case measure=>simp [intOf]; omega
  ·obtain rfl:i=t.vn:=by omega
   obtain⟨T,U,h1,h2,h3⟩:=HFIN.out t.vn wr rfl hbw.out hcs.out;have HCC2:Hid (cn=ct z N):=by show _=_; rw [HCN.out]; exact h3
   go_wp2_with fail
   go_ret2;exact⟨T,U,by rw [HCC2.out]; rfl,h1,h2,bth B0.out hbw.out⟩
end Go.Proofs.YtemlojjkokooeaaGreat
namespace Go.Proofs.YtemlojjkokooeaaGreat.Cod
open Go.RowKit
open Go.Maps (Keyed)
structure Picked (w:World) (B k m t:Nat) (v u:Value) (G U:Nat->Nat) (A:Nat->Option Addr) (C R:Nat->Nat):Prop where
  rows:w.ownsRow B 36 1 v t (rowsOf t (fun s=>some ⟨G s,0,none⟩) (fun _=>k) U)
  cells:w.ownsRow B 36 1 u t (rowsOf t (fun s=>A (R s)) (fun _=>m) (fun s=>C (R s)))
  row:∀ s,s<t->Own w (G s) k (U s) (gen k (R s))
  apart:∀ g,v.ownBlock=some g->u.ownBlock ≠ some g
theorem Picked.stay{w w':World}{B k m t:Nat}{v u:Value}{G U:Nat->Nat}{A:Nat->Option Addr}{C R:Nat->Nat}(h:Picked w B k m t v u G U A C R)(hs:Stay w w'):Picked w' B k m t v u G U A C R :=
 ⟨owns_stay h.rows hs,owns_stay h.cells hs,fun s hs'=>(h.row s hs').stay hs,h.apart⟩
theorem Picked.start(w:World)(B k m:Nat)(A:Nat->Option Addr)(C R:Nat->Nat):Picked w B k m 0 (.slice none 0 0) (.slice none 0 0) (fun _=>0) (fun _=>0) A C R :=
 ⟨World.ownsRow_nil _ _ _ _,World.ownsRow_nil _ _ _ _,fun s hs=>absurd hs (Nat.not_lt_zero s),fun g h=>by cases h⟩
theorem Picked.step{w1 w2 w3:World}{B k m t g1 g2 c1 c2 gr ur:Nat}{v u:Value}{G U:Nat->Nat}{A:Nat->Option Addr}{C R:Nat->Nat}{o o':Obj}(h:Picked w1 B k m t v u G U A C R)(hr:Own w1 gr k ur (gen k (R t)))
  (hg1:(w1.alloc o).grownBy w2 v.ownBlock) (h1:w2.ownsRow B 36 1 (.slice (some ⟨g1,0,none⟩) (t+1) c1) (t+1) (rowsOf t (fun s=>some ⟨G s,0,none⟩) (fun _=>k) U ++ [.slice (some ⟨gr,0,none⟩) k ur])) (hw1:v.ownBlock=some g1\/g1=w1.heap.size+1)
  (hg2:(w2.alloc o').grownBy w3 u.ownBlock) (h2:w3.ownsRow B 36 1 (.slice (some ⟨g2,0,none⟩) (t+1) c2) (t+1) (rowsOf t (fun s=>A (R s)) (fun _=>m) (fun s=>C (R s)) ++ [.slice (A (R t)) m (C (R t))])) (hw2:u.ownBlock=some g2\/g2=w2.heap.size+1) :
  Picked w3 B k m (t+1) (.slice (some ⟨g1,0,none⟩) (t+1) c1) (.slice (some ⟨g2,0,none⟩) (t+1) c2) (put t gr G) (put t ur U) A C R:=by
 have hu:∀ x,u.ownBlock=some x->x<w1.heap.size:=fun x hx=>(h.cells.lt x hx).2;have hg1w:=(h1.lt g1 rfl).2;have hne:∀ x,u.ownBlock=some x->g1 ≠ x:=fun x hx e=>by
  rcases hw1 with e1 | e1
  ·exact h.apart g1 e1 (by rw [hx,e])
  ·have:=hu x hx; omega
 have cu:w2.ownsRow B 36 1 u t (rowsOf t (fun s=>A (R s)) (fun _=>m) (fun s=>C (R s))):=(h.cells.alloc o).kept hg1 (apart_or h.apart);refine⟨?_,?_,fun s hs=>?_,fun g hg=>?_⟩
 ·have:=(h1.alloc o').kept hg2 (.inr (fun e=>hne g1 e.symm rfl));refine(congrArg (w3.ownsRow B 36 1 (.slice (some ⟨g1,0,none⟩) (t+1) c1) (t+1)) ?_).mp this;have:=rowsOf_put t (fun s=>some ⟨G s,0,none⟩) (fun _=>k) U (some ⟨gr,0,none⟩) k ur;rw [<- this];refine List.map_congr_left fun i _=>?_;by_cases e:i=t
  ·subst e; simp only [put_at]
  ·simp only [put_ne _ _ e]
 ·refine(congrArg (w3.ownsRow B 36 1 (.slice (some ⟨g2,0,none⟩) (t+1) c2) (t+1)) ?_).mp h2;simp [rowsOf,List.range_succ]
 ·have old:∀ g u' f,Own w1 g k u' f->Own w3 g k u' f:=fun g u' f ho=>(((ho.alloc o).grown (h.rows.alloc o) hg1).alloc o').grown (cu.alloc o') hg2;by_cases e:s=t
  ·subst e; rw [put_at,put_at]; exact old _ _ _ hr
  ·rw [put_ne _ _ e,put_ne _ _ e]; exact old _ _ _ (h.row s (by omega))
 ·cases hg
  intro e;have e2:g2=g1:=Option.some.inj e;rcases hw2 with e3 | e3
  ·exact hne g2 e3 e2.symm
  ·omega
theorem Picked.lst1{w:World}{B k m t c1:Nat}{a1:Option Addr}{u:Value}{G U:Nat->Nat}{A:Nat->Option Addr}{C R:Nat->Nat}(h:Picked w B k m t (.slice a1 t c1) u G U A C R):Lst w a1 t (fun s=>some ⟨G s,0,none⟩) U (fun _=>k) (rowsR k R) :=
 ⟨fun s hs=>(h.row s hs).rd,fun hp=>by
  rcases h.rows.2 with ⟨_,h1⟩ | ⟨g,cap',cur,h1,_⟩
  ·omega
  ·cases h1
   refine⟨g,0,rfl,fun i hi=>?_⟩;have:=h.rows.cells (g:=g) rfl i _ (rowsOf_get t _ _ _ i hi)
   rwa [Addr.add_lit] at this⟩
theorem Picked.lst2{w:World}{B k m t c2:Nat}{a2:Option Addr}{v:Value}{G U:Nat->Nat}{A:Nat->Option Addr}{C R:Nat->Nat}{H:M}(h:Picked w B k m t v (.slice a2 t c2) G U A C R)(hr:∀ s,s<t->Rd w (A (R s)) m (H (R s))):Lst w a2 t (fun s=>A (R s)) (fun s=>C (R s)) (fun _=>m) (fun s=>H (R s)) :=
 ⟨hr,fun hp=>by
  rcases h.cells.2 with ⟨_,h1⟩ | ⟨g,cap',cur,h1,_⟩
  ·omega
  ·cases h1
   refine⟨g,0,rfl,fun i hi=>?_⟩;have:=h.cells.cells (g:=g) rfl i _ (rowsOf_get t _ _ _ i hi)
   rwa [Addr.add_lit] at this⟩
end Go.Proofs.YtemlojjkokooeaaGreat.Cod
