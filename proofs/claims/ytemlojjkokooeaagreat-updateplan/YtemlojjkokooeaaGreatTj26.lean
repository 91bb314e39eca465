import Derived.Test.YtemlojjkokooeaaGreatTj25
set_option maxHeartbeats 8000000
set_option maxRecDepth 100000
namespace Go.Proofs.YtemlojjkokooeaaGreat
open Go.RowKit
theorem told_ways{N:Nat}{c:Int}{kd:UInt8}(hk:kd=1\/kd=2)(i:Nat)(n:Nat)(F:Nat->UInt8)(v:Int)(b:Bool)(z:Sl)(hb:isQ 0 N c n F=b)(hz:slQ b N c F=z):
  (tB (he 0 N c (i:Int) n F) kd v=true/\he 0 N c (i:Int) n F=z/\b=true/\z.kd=kd/\z.ix=(i:Int)/\z.st=v) \/
  (tB (he 0 N c (i:Int) n F) kd v=false/\(b=false\/(b=true/\z.kd ≠ kd)\/(b=true/\z.kd=kd/\z.ix ≠ (i:Int))\/(b=true/\z.kd=kd/\z.ix=(i:Int)/\z.st ≠ v))):=by
 have hi:isS N c n F=b:=by rw [<- hb]; unfold isQ; simp
 have hh:he 0 N c (i:Int) n F=ofI (i:Int) z:=by unfold he; rw [if_pos rfl,hi,hz]
 have hzz:tB zSl kd v=false:=by
  refine decide_eq_false fun a=>?_;rcases hk with rfl | rfl <;> exact absurd a.1 (by decide)
 rw [hh];cases b
 ·refine .inr ⟨?_,.inl rfl⟩;have:z=zSl:=by rw [<- hz]; rfl
  rw [this];unfold ofI;by_cases e:zSl.ix=(i:Int)
  ·rw [if_pos e]; exact hzz
  ·rw [if_neg e]; exact hzz
 ·by_cases e3:z.ix=(i:Int)
  ·have:ofI (i:Int) z=z:=if_pos e3;rw [this];by_cases e2:z.kd=kd
   ·by_cases e4:z.st=v
    ·exact .inl ⟨decide_eq_true ⟨e2,e4⟩,rfl,rfl,e2,e3,e4⟩
    ·exact .inr ⟨decide_eq_false fun a=>e4 a.2,.inr (.inr (.inr ⟨rfl,e2,e3,e4⟩))⟩
   ·exact .inr ⟨decide_eq_false fun a=>e2 a.1,.inr (.inl ⟨rfl,e2⟩)⟩
  ·have:ofI (i:Int) z=zSl:=if_neg e3;rw [this];by_cases e2:z.kd=kd
   ·exact .inr ⟨hzz,.inr (.inr (.inl ⟨rfl,e2,e3⟩))⟩
   ·exact .inr ⟨hzz,.inr (.inl ⟨rfl,e2⟩)⟩
theorem idp_s(w:World)(A:Nat->Option Addr)(L C:Nat->Nat)(i s:Nat)(hs:s<2):(Instr.index 97 (.agg #[.slice (A (2*i)) (L (2*i)) (C (2*i)),.slice (A (2*i+1)) (L (2*i+1)) (C (2*i+1))]) (.int .i64 (s:Int))).run Tryz.prog w=.ok (.slice (A (2*i+s)) (L (2*i+s)) (C (2*i+s))) w:=by
 rcases (show s=0\/s=1 by omega) with rfl | rfl
 ·exact idp0 w _ _
 ·exact idp1 w _ _
def AnsV (w:World) (t:Sl) (e:Ending) (w':World):Prop:=∃ ao ca,e=.returned (.slice ao t.vn ca)/\Own w.heap.size w' ao t.vn ca t.V/\(ao=none ↔ t.ce=0)/\Below w.heap.size w w'
theorem kd_beq(a b:UInt8):(((a.toNat:Nat):Int) == ((b.toNat:Nat):Int))=decide (a=b):=by
 by_cases e:a=b
 ·subst e; simp
 ·rw [decide_eq_false e];have:a.toNat ≠ b.toNat:=fun h=>e (UInt8.toNat_inj.1 h);simp; omega
theorem int_beq(a b:Int):(a == b)=decide (a=b):=by
 by_cases e:a=b
 ·subst e; simp
 ·rw [decide_eq_false e]; simpa using e
theorem vector_any{k r c q:Int}{N W:Nat}(h:Par k r c q N W 0)(w:World)(ro:Option Addr)(rc:Nat)(A:Nat->Option Addr)(L C:Nat->Nat)(F:Nat->Nat->UInt8)(hr:Rw w ro N A L C F)(hL:∀ j,j<2*N->L j=0\/L j=sz N c)(kd:UInt8)(hk:kd=1\/kd=2)(v:Int)(t:Sl)(ht:tS (yy N c L F) kd v (2*N)=t):
  Calls Tryz.prog 68 #[stv k r c q ro N rc kd,.int .i64 v] w (AnsV w t):=by
 have hle:=h.le;obtain⟨w0,hw0⟩:∃ w0,w0=w.alloc (.cells #[.int .i64 k,.int .i64 r,.int .i64 c,.int .i64 q,.slice ro N rc,.int .u8 ((kd.toNat:Nat):Int)] 99):=⟨_,rfl⟩
 have b0:Below w.heap.size w w0:=by rw [hw0]; exact bal _ _
 have B0:Hid (Below w.heap.size w w0):=b0;have L0:Hid (∀ v,Below w0.heap.size w0 v->At w v w.heap.size #[.int .i64 k,.int .i64 r,.int .i64 c,.int .i64 q,.slice ro N rc,.int .u8 ((kd.toNat:Nat):Int)] 99):=fun v hv=>(at_made (Below.refl _ _) hw0).below hv;have HR:Hid (Rw w ro N A L C F):=hr;have HP:Hid (∀ j,j<2*N->∀ u,Below w.heap.size w u->∀ b z,isQ 0 N c (L j) (F j)=b->slQ b N c (F j)=z->Calls Tryz.prog 133 #[.agg #[.int .i64 k,.int .i64 r,.int .i64 c,.int .i64 q],.slice (A j) (L j) (C j)] u (AnsP u 0 b z)):=fun j hj u hu b z hb hz=>by
  refine Parse_any h u _ _ _ _ ((hr.bec j hj).below hu) 0 ?_ b hb z hz;unfold erQ; rw [if_pos rfl,if_pos (hL j hj)]
 have HT:Hid (tS (yy N c L F) kd v (2*N)=t):=ht;have HK:Hid (kd=1\/kd=2):=hk;clear h hr hL ht hk;unfold AnsP slv at HP;unfold stv;go_enter Tryz.func68,Tryz.ntmps68
 go_wp2_with fail
 rw [<- hw0];have q0:=L0.out w0 (Below.refl _ _);have p4:=q0.cell (i:=4) rfl;clear hw0 b0 q0;go_wp2_with fail
 go_loopw [15] (fun y wr=>∃ i:Nat,i<=N/\y=.int .i64 (i:Int)/\Hid (Below w0.heap.size w0 wr)/\Hid (∀ j,j<2*i->tB (yy N c L F j) kd v=false)) (fun y _=>N-(intOf y).toNat)
 case atStart=>exact⟨0,Nat.zero_le _,rfl,Below.refl _ _,fun j hj=>absurd hj (by omega)⟩
 case round =>
  obtain⟨i,hi,rfl,hbw,hno⟩:=hrel;by_cases hlt:i<N
  ·obtain⟨b,off,rfl,hcc⟩:=HR.out.at_ (by omega);have c0:wr.cell? ⟨b,off+i*2,none⟩=some (.slice (A (2*i)) (L (2*i)) (C (2*i))):=held (hcc i hlt).1 (bth B0.out hbw.out);have c1:wr.cell? ⟨b,off+i*2+1,none⟩=some (.slice (A (2*i+1)) (L (2*i+1)) (C (2*i+1))):=held (hcc i hlt).2 (bth B0.out hbw.out);clear hcc;have i1:(0:Int)<=(i:Int):=by omega
   have i2:(i:Int)<(N:Int):=by omega
   obtain⟨wd,hwd⟩:∃ wd,wd=wr.alloc (.cells #[.slice (A (2*i)) (L (2*i)) (C (2*i)),.slice (A (2*i+1)) (L (2*i+1)) (C (2*i+1))] 97):=⟨_,rfl⟩
   have HD:Hid (Below w0.heap.size w0 wd):=by show Below _ _ _; rw [hwd]; exact bth hbw.out (bal _ _)
   go_wp2_with fail
   rw [<- hwd];clear hwd c0 c1;obtain⟨wm,hwm⟩:∃ x,x=wr:=⟨wr,rfl⟩
   rw [<- hwm];clear hwm hbw wr;go_loopw [21] (fun y wr=>∃ s:Nat,s<=2/\y=.int .i64 (s:Int)/\Hid (Below w0.heap.size w0 wr)/\Hid (∀ j,j<2*i+s->tB (yy N c L F j) kd v=false)) (fun y _=>2-(intOf y).toNat)
   case atStart=>exact⟨0,Nat.zero_le _,rfl,HD.out,fun j hj=>hno.out j (by omega)⟩
   case round =>
    obtain⟨s,hs,rfl,hbs,hns⟩:=hrel;by_cases hs2:s<2
    ·obtain⟨y,hy⟩:∃ y,isQ 0 N c (L (2*i+s)) (F (2*i+s))=y:=⟨_,rfl⟩
     obtain⟨z,hz⟩:∃ z,slQ y N c (F (2*i+s))=z:=⟨_,rfl⟩
     have hP:=HP.out (2*i+s) (by omega) wr (bth B0.out hbs.out) y z hy hz;have hW:=told_ways HK.out i (L (2*i+s)) (F (2*i+s)) v y z hy hz;have hyj:he 0 N c (i:Int) (L (2*i+s)) (F (2*i+s))=yy N c L F (2*i+s):=by unfold yy; rw [show (2*i+s) / 2=i by omega]
     rw [hyj] at hW;have q0:=L0.out wr hbs.out;have s0:=q0.cell (i:=0) rfl;have s1:=q0.cell (i:=1) rfl;have s2:=q0.cell (i:=2) rfl;have s3:=q0.cell (i:=3) rfl;have j1:(s:Int)<2:=by omega
     clear q0 hy hz hyj;go_wp2_with fail
     rw [idp_s _ A L C i s hs2];go_wp2_with fail
     refine hP.mono ?_;clear hP;rintro e wa ⟨ao,ca,bo,cb,rfl,hg,ha⟩;have q0:=(L0.out wa (bth hbs.out ha))
     have r5:=fun o=>(q0.alloc o).cell (i:=5) rfl;have HG:Hid (Got wr.heap.size wa z ao ca bo cb):=hg;have HA:Hid (Below w0.heap.size w0 wa):=bth hbs.out ha;have HS:Hid (w0.heap.size<=wr.heap.size):=hbs.out.size;clear q0 hg ha s0 s1 s2 s3;have u1:=kd_beq z.kd kd;have u2:=int_beq z.ix (i:Int);have u3:=int_beq z.st v;have u4:=kd_beq kd kd;rcases hW with ⟨g0,g1,rfl,g2,g3,g4⟩ | ⟨g0,hW⟩
     ·rw [decide_eq_true g2] at u1;rw [decide_eq_true g3] at u2;rw [decide_eq_true g4] at u3;have HT1:Hid (tB (yy N c L F (2*i+s)) kd v=true/\yy N c L F (2*i+s)=z):=⟨g0,g1⟩
      have HLT:Hid (2*i+s<2*N):=by show _<_; omega
      clear g0 g1 g2 g3 g4;go_wp2_with fail
      go_ret;have hI:Is N c z i:=by
       have:=tB_ne HK.out (yy_ok N c L F (2*i+s) HLT.out) HT1.out.1;rw [HT1.out.2,show (2*i+s) / 2=i by omega] at this;exact this
      have htz:t=z:=by
       have h1:tS (yy N c L F) kd v (2*i+s)=zSl:=by
        rcases tS_is (v:=v) HK.out (yy_ok N c L F) (2*i+s) (by have:=HLT.out; omega) with ⟨a,_⟩ | ⟨j,a1,_,a3,_⟩
        ·exact a
        ·rw [hns.out j a1] at a3; cases a3
       have h2:tS (yy N c L F) kd v (2*i+s+1)=z:=by
        rw [tS,h1,if_pos (show zSl.ce=0 from rfl),HT1.out.1,if_pos rfl]; exact HT1.out.2
       rw [<- HT.out,<- h2];exact tS_stay (by rw [h2]; exact(ok_of hI.1).ne) HLT.out
      subst htz;have hvn:=(ok_of hI.1).vn;refine⟨ao,ca,rfl,((HG.out.vec.mono (Nat.le_trans B0.out.size HS.out)).below (bal _ _)),?_,bth (bth B0.out HA.out) (bal _ _)⟩;constructor
      ·intro e;have:=HG.out.vec.at_ (by omega);obtain⟨g,e2,_⟩:=this;rw [e] at e2; cases e2
      ·intro e; exact absurd e (ok_of hI.1).ne
     ·have HT1:Hid (tB (yy N c L F (2*i+s)) kd v=false):=g0;clear g0;rcases hW with rfl | ⟨rfl,g2⟩ | ⟨rfl,g2,g3⟩ | ⟨rfl,g2,g3,g4⟩
      ·go_wp2_with fail
       go_roundw
       case rel=>exact⟨s+1,by omega,by go_num,bth HA.out (bal _ _),fun j hj=>by
        by_cases e:j=2*i+s
        ·rw [e]; exact HT1.out
        ·exact hns.out j (by omega)⟩
       case measure=>simp [intOf]; omega
      ·rw [decide_eq_false g2] at u1;go_wp2_with fail
       go_roundw
       case rel=>exact⟨s+1,by omega,by go_num,bth HA.out (bal _ _),fun j hj=>by
        by_cases e:j=2*i+s
        ·rw [e]; exact HT1.out
        ·exact hns.out j (by omega)⟩
       case measure=>simp [intOf]; omega
      ·rw [decide_eq_true g2] at u1;rw [decide_eq_false g3] at u2;go_wp2_with fail
       go_roundw
       case rel=>exact⟨s+1,by omega,by go_num,bth HA.out (bal _ _),fun j hj=>by
        by_cases e:j=2*i+s
        ·rw [e]; exact HT1.out
        ·exact hns.out j (by omega)⟩
       case measure=>simp [intOf]; omega
      ·rw [decide_eq_true g2] at u1;rw [decide_eq_true g3] at u2;rw [decide_eq_false g4] at u3;go_wp2_with fail
       go_roundw
       case rel=>exact⟨s+1,by omega,by go_num,bth HA.out (bal _ _),fun j hj=>by
        by_cases e:j=2*i+s
        ·rw [e]; exact HT1.out
        ·exact hns.out j (by omega)⟩
       case measure=>simp [intOf]; omega
    ·obtain rfl:s=2:=by omega
     go_wp2_with fail
     go_roundw
     case rel=>exact⟨i+1,by omega,by go_num,hbs.out,fun j hj=>hns.out j (by omega)⟩
     case measure=>simp [intOf]; omega
  ·obtain rfl:i=N:=by omega
   go_wp2_with fail
   go_ret;have htz:t=zSl:=by
    rcases tS_is (v:=v) HK.out (yy_ok i c L F) (2*i) (Nat.le_refl _) with ⟨a,_⟩ | ⟨j,a1,_,a3,_⟩
    ·rw [<- HT.out]; exact a
    ·rw [hno.out j a1] at a3; cases a3
   subst htz;exact⟨none,0,rfl,own_nil _ _ _,⟨fun _=>rfl,fun _=>rfl⟩,bth B0.out hbw.out⟩
end Go.Proofs.YtemlojjkokooeaaGreat
