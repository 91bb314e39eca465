import Derived.Test.YtemlojjkokooeaaGreatTj11
import Derived.Test.YtemlojjkokooeaaGreatTj17
set_option maxHeartbeats 8000000
set_option maxRecDepth 100000
namespace Go.Proofs.YtemlojjkokooeaaGreat
open Go.RowKit
theorem RPair_any{k r c q:Int}{N W:Nat}(h:Par k r c q N W 0)(w:World)(a0:Option Addr)(n0 c0:Nat)(a1:Option Addr)(n1 c1:Nat):
  Calls Tryz.prog 205 #[.agg #[.int .i64 k,.int .i64 r,.int .i64 c,.int .i64 q],.agg #[.slice a0 n0 c0,.slice a1 n1 c1]] w fun e w'=>e=.returned (.bool (decide ((n0=0\/n0=sz N c)/\(n1=0\/n1=sz N c))))/\Below w.heap.size w w':=by
 obtain⟨w0,hw0⟩:∃ w0,w0=w.alloc (.cells #[.int .i64 k,.int .i64 r,.int .i64 c,.int .i64 q] 23):=⟨_,rfl⟩
 have bw0:Below w.heap.size w w0:=by rw [hw0]; exact bal _ _
 have zw0:w0.heap.size=w.heap.size+1:=by rw [hw0]; simp
 obtain⟨w1,hw1⟩:∃ w1,w1=w0.alloc (.cells #[.slice a0 n0 c0,.slice a1 n1 c1] 97):=⟨_,rfl⟩
 have bw1:Below w0.heap.size w0 w1:=by rw [hw1]; exact bal _ _
 have zw1:w1.heap.size=w.heap.size+1+1:=by rw [hw1]; simp [zw0]
 have Bw:Hid (Below w.heap.size w w1):=(bth bw0 bw1)
 have Lw0:Hid (∀ v,Below w1.heap.size w1 v->At w v (w.heap.size) #[.int .i64 k,.int .i64 r,.int .i64 c,.int .i64 q] 23):=fun v hv=>by exact(at_made (Below.refl _ _) hw0).below (bth bw1 hv)
 have Lw1:Hid (∀ v,Below w1.heap.size w1 v->At w v (w.heap.size+1) #[.slice a0 n0 c0,.slice a1 n1 c1] 97):=fun v hv=>by rw [<- zw0]; exact(at_made bw0 hw1).below (bth (Below.refl _ _) hv)
 obtain⟨m,hm⟩:∃ m,m=sz N c:=⟨_,rfl⟩
 have HZ:Hid (∀ w,Calls Tryz.prog 263 #[.agg #[.int .i64 k,.int .i64 r,.int .i64 c,.int .i64 q]] w fun e w'=>e=.returned (.int .i64 (m:Int))/\Below w.heap.size w w'):=fun w=>by rw [hm]; exact Size6_any h w
 have hm1:0<m:=by rw [hm]; unfold sz; omega
 rw [<- hm];clear hm h;have zz:∀ n:Nat,n=0->((n:Int) != 0)=false:=fun n h=>by subst h; rfl
 have zn:∀ n:Nat,¬ n=0->((n:Int) != 0)=true:=fun n h=>by simp only [bne_iff_ne,ne_eq]; omega
 have ze:∀ n:Nat,n=m->((n:Int) != (m:Int))=false:=fun n h=>by subst h; simp
 have zf:∀ n:Nat,¬ n=m->((n:Int) != (m:Int))=true:=fun n h=>by simp only [bne_iff_ne,ne_eq]; omega
 by_cases e0:n0=0
 ·by_cases e1:n1=0
  ·skip
   rw [decide_eq_true (p:=(n0=0\/n0=m)/\(n1=0\/n1=m)) ⟨.inl e0,.inl e1⟩];have f00:=zz n0 e0;have f10:=zz n1 e1;clear zz zn ze zf e0 e1;go_enter Tryz.func205,Tryz.ntmps205
   go_wp2_with fail
   refine wp_loop_rounds 3 ?_;rw [<- hw0,<- hw1];clear hw0 bw0 zw0 hw1 bw1 zw1;obtain⟨wx,HX⟩:∃ wx,Hid (wx=w1/\Below w1.heap.size w1 wx):=⟨w1,rfl,Below.refl _ _⟩
   obtain⟨hx1,hx2⟩:=HX.out;rw [<- hx1];have HB:Hid (Below w1.heap.size w1 wx):=hx2;clear hx1 hx2 HX;have q0:=Lw0.out wx HB.out;have q1:=Lw1.out wx HB.out;have p0:=q0.cell (i:=0) rfl;have p1:=q0.cell (i:=1) rfl;have p2:=q0.cell (i:=2) rfl;have p3:=q0.cell (i:=3) rfl;have r0:=q1.cell (i:=0) rfl;have r1:=q1.cell (i:=1) rfl;clear q0 q1;rw [rounds_succ];go_wp2_with fail
   go_quiet (fail)
   obtain⟨wy,hnx⟩:∃ wy,wy=wx.drewN nq:=⟨_,rfl⟩
   have HB2:Hid (Below w1.heap.size w1 wy):=by show Below _ _ _; rw [hnx]; exact HB.out.trans (below_drewN _ _ _)
   rw [<- hnx];clear hnx HB p0 p1 p2 p3 r0 r1;have HB:Hid (Below w1.heap.size w1 wy):=HB2.out;clear HB2;go_wp2_with fail
   have q0:=Lw0.out wy HB.out;have q1:=Lw1.out wy HB.out;have p0:=q0.cell (i:=0) rfl;have p1:=q0.cell (i:=1) rfl;have p2:=q0.cell (i:=2) rfl;have p3:=q0.cell (i:=3) rfl;have r0:=q1.cell (i:=0) rfl;have r1:=q1.cell (i:=1) rfl;clear q0 q1;rw [rounds_succ];go_wp2_with fail
   go_quiet (fail)
   obtain⟨wz,hnx⟩:∃ wz,wz=wy.drewN nq:=⟨_,rfl⟩
   have HB2:Hid (Below w1.heap.size w1 wz):=by show Below _ _ _; rw [hnx]; exact HB.out.trans (below_drewN _ _ _)
   rw [<- hnx];clear hnx HB p0 p1 p2 p3 r0 r1;have HB:Hid (Below w1.heap.size w1 wz):=HB2.out;clear HB2;go_wp2_with fail
   rw [rounds_succ];go_wp2_with fail
   go_ret;exact⟨rfl,bth Bw.out HB.out⟩
  ·have e1b:=e1;clear e1;by_cases e1:n1=m
   ·clear e1b;rw [decide_eq_true (p:=(n0=0\/n0=m)/\(n1=0\/n1=m)) ⟨.inl e0,.inr e1⟩];have f00:=zz n0 e0;have f10:=zn n1 (by omega);have f11:=ze n1 e1;clear zz zn ze zf e0 e1;go_enter Tryz.func205,Tryz.ntmps205
    go_wp2_with fail
    refine wp_loop_rounds 3 ?_;rw [<- hw0,<- hw1];clear hw0 bw0 zw0 hw1 bw1 zw1;obtain⟨wx,HX⟩:∃ wx,Hid (wx=w1/\Below w1.heap.size w1 wx):=⟨w1,rfl,Below.refl _ _⟩
    obtain⟨hx1,hx2⟩:=HX.out;rw [<- hx1];have HB:Hid (Below w1.heap.size w1 wx):=hx2;clear hx1 hx2 HX;have q0:=Lw0.out wx HB.out;have q1:=Lw1.out wx HB.out;have p0:=q0.cell (i:=0) rfl;have p1:=q0.cell (i:=1) rfl;have p2:=q0.cell (i:=2) rfl;have p3:=q0.cell (i:=3) rfl;have r0:=q1.cell (i:=0) rfl;have r1:=q1.cell (i:=1) rfl;clear q0 q1;rw [rounds_succ];go_wp2_with fail
    go_quiet (fail)
    obtain⟨wy,hnx⟩:∃ wy,wy=wx.drewN nq:=⟨_,rfl⟩
    have HB2:Hid (Below w1.heap.size w1 wy):=by show Below _ _ _; rw [hnx]; exact HB.out.trans (below_drewN _ _ _)
    rw [<- hnx];clear hnx HB p0 p1 p2 p3 r0 r1;have HB:Hid (Below w1.heap.size w1 wy):=HB2.out;clear HB2;go_wp2_with fail
    have q0:=Lw0.out wy HB.out;have q1:=Lw1.out wy HB.out;have p0:=q0.cell (i:=0) rfl;have p1:=q0.cell (i:=1) rfl;have p2:=q0.cell (i:=2) rfl;have p3:=q0.cell (i:=3) rfl;have r0:=q1.cell (i:=0) rfl;have r1:=q1.cell (i:=1) rfl;clear q0 q1;rw [rounds_succ];go_wp2_with fail
    have KS:Hid (∀ v,Below wy.heap.size wy v->v.cell? ⟨w.heap.size,0,none⟩=some (.int .i64 k)/\v.cell? ⟨w.heap.size,1,none⟩=some (.int .i64 r)/\v.cell? ⟨w.heap.size,2,none⟩=some (.int .i64 c)/\v.cell? ⟨w.heap.size,3,none⟩=some (.int .i64 q)/\v.cell? ⟨w.heap.size+1,1,none⟩=some (.slice a1 n1 c1)):=fun v hv=>by
     have q0:=(Lw0.out wy HB.out).below hv;have q1:=(Lw1.out wy HB.out).below hv;exact⟨q0.cell (i:=0) rfl,q0.cell (i:=1) rfl,q0.cell (i:=2) rfl,q0.cell (i:=3) rfl,q1.cell (i:=1) rfl⟩
    clear p0 p1 p2 p3 r0 r1;go_region_held3 (fun v=>v.cell? ⟨w.heap.size,0,none⟩=some (.int .i64 k)/\v.cell? ⟨w.heap.size,1,none⟩=some (.int .i64 r)/\v.cell? ⟨w.heap.size,2,none⟩=some (.int .i64 c)/\v.cell? ⟨w.heap.size,3,none⟩=some (.int .i64 q)/\v.cell? ⟨w.heap.size+1,1,none⟩=some (.slice a1 n1 c1)) ((first | (exact KS.out _ (bdw _ _)) | (exact KS.out _ HM1.out)))
     ((go_at_call 263; refine(HZ.out _).mono ?_; rintro e wz ⟨rfl,hm⟩; have HM1:Hid (Below wy.heap.size wy wz):=of_drew hm; clear hm))
    go_wp2_with fail
    have HB2:Hid (Below w1.heap.size w1 wz):=bth HB.out HM1.out;clear HB KS HM1;have HB:Hid (Below w1.heap.size w1 wz):=HB2.out;clear HB2;rw [rounds_succ];go_wp2_with fail
    go_ret;exact⟨rfl,bth Bw.out HB.out⟩
   ·skip
    rw [decide_eq_false (p:=(n0=0\/n0=m)/\(n1=0\/n1=m)) (by omega)];have f00:=zz n0 e0;have f10:=zn n1 (by omega);have f11:=zf n1 (by omega);clear zz zn ze zf e0 e1 e1b;go_enter Tryz.func205,Tryz.ntmps205
    go_wp2_with fail
    refine wp_loop_rounds 3 ?_;rw [<- hw0,<- hw1];clear hw0 bw0 zw0 hw1 bw1 zw1;obtain⟨wx,HX⟩:∃ wx,Hid (wx=w1/\Below w1.heap.size w1 wx):=⟨w1,rfl,Below.refl _ _⟩
    obtain⟨hx1,hx2⟩:=HX.out;rw [<- hx1];have HB:Hid (Below w1.heap.size w1 wx):=hx2;clear hx1 hx2 HX;have q0:=Lw0.out wx HB.out;have q1:=Lw1.out wx HB.out;have p0:=q0.cell (i:=0) rfl;have p1:=q0.cell (i:=1) rfl;have p2:=q0.cell (i:=2) rfl;have p3:=q0.cell (i:=3) rfl;have r0:=q1.cell (i:=0) rfl;have r1:=q1.cell (i:=1) rfl;clear q0 q1;rw [rounds_succ];go_wp2_with fail
    go_quiet (fail)
    obtain⟨wy,hnx⟩:∃ wy,wy=wx.drewN nq:=⟨_,rfl⟩
    have HB2:Hid (Below w1.heap.size w1 wy):=by show Below _ _ _; rw [hnx]; exact HB.out.trans (below_drewN _ _ _)
    rw [<- hnx];clear hnx HB p0 p1 p2 p3 r0 r1;have HB:Hid (Below w1.heap.size w1 wy):=HB2.out;clear HB2;go_wp2_with fail
    have q0:=Lw0.out wy HB.out;have q1:=Lw1.out wy HB.out;have p0:=q0.cell (i:=0) rfl;have p1:=q0.cell (i:=1) rfl;have p2:=q0.cell (i:=2) rfl;have p3:=q0.cell (i:=3) rfl;have r0:=q1.cell (i:=0) rfl;have r1:=q1.cell (i:=1) rfl;clear q0 q1;rw [rounds_succ];go_wp2_with fail
    have KS:Hid (∀ v,Below wy.heap.size wy v->v.cell? ⟨w.heap.size,0,none⟩=some (.int .i64 k)/\v.cell? ⟨w.heap.size,1,none⟩=some (.int .i64 r)/\v.cell? ⟨w.heap.size,2,none⟩=some (.int .i64 c)/\v.cell? ⟨w.heap.size,3,none⟩=some (.int .i64 q)/\v.cell? ⟨w.heap.size+1,1,none⟩=some (.slice a1 n1 c1)):=fun v hv=>by
     have q0:=(Lw0.out wy HB.out).below hv;have q1:=(Lw1.out wy HB.out).below hv;exact⟨q0.cell (i:=0) rfl,q0.cell (i:=1) rfl,q0.cell (i:=2) rfl,q0.cell (i:=3) rfl,q1.cell (i:=1) rfl⟩
    clear p0 p1 p2 p3 r0 r1;go_region_held3 (fun v=>v.cell? ⟨w.heap.size,0,none⟩=some (.int .i64 k)/\v.cell? ⟨w.heap.size,1,none⟩=some (.int .i64 r)/\v.cell? ⟨w.heap.size,2,none⟩=some (.int .i64 c)/\v.cell? ⟨w.heap.size,3,none⟩=some (.int .i64 q)/\v.cell? ⟨w.heap.size+1,1,none⟩=some (.slice a1 n1 c1)) ((first | (exact KS.out _ (bdw _ _)) | (exact KS.out _ HM1.out)))
     ((go_at_call 263; refine(HZ.out _).mono ?_; rintro e wz ⟨rfl,hm⟩; have HM1:Hid (Below wy.heap.size wy wz):=of_drew hm; clear hm))
    go_wp2_with fail
    go_ret;exact⟨rfl,bth Bw.out (bth HB.out HM1.out)⟩
 ·have e0b:=e0;clear e0;by_cases e0:n0=m
  ·clear e0b;by_cases e1:n1=0
   ·skip
    rw [decide_eq_true (p:=(n0=0\/n0=m)/\(n1=0\/n1=m)) ⟨.inr e0,.inl e1⟩];have f00:=zn n0 (by omega);have f01:=ze n0 e0;have f10:=zz n1 e1;clear zz zn ze zf e0 e1;go_enter Tryz.func205,Tryz.ntmps205
    go_wp2_with fail
    refine wp_loop_rounds 3 ?_;rw [<- hw0,<- hw1];clear hw0 bw0 zw0 hw1 bw1 zw1;obtain⟨wx,HX⟩:∃ wx,Hid (wx=w1/\Below w1.heap.size w1 wx):=⟨w1,rfl,Below.refl _ _⟩
    obtain⟨hx1,hx2⟩:=HX.out;rw [<- hx1];have HB:Hid (Below w1.heap.size w1 wx):=hx2;clear hx1 hx2 HX;have q0:=Lw0.out wx HB.out;have q1:=Lw1.out wx HB.out;have p0:=q0.cell (i:=0) rfl;have p1:=q0.cell (i:=1) rfl;have p2:=q0.cell (i:=2) rfl;have p3:=q0.cell (i:=3) rfl;have r0:=q1.cell (i:=0) rfl;have r1:=q1.cell (i:=1) rfl;clear q0 q1;rw [rounds_succ];go_wp2_with fail
    have KS:Hid (∀ v,Below wx.heap.size wx v->v.cell? ⟨w.heap.size,0,none⟩=some (.int .i64 k)/\v.cell? ⟨w.heap.size,1,none⟩=some (.int .i64 r)/\v.cell? ⟨w.heap.size,2,none⟩=some (.int .i64 c)/\v.cell? ⟨w.heap.size,3,none⟩=some (.int .i64 q)/\v.cell? ⟨w.heap.size+1,0,none⟩=some (.slice a0 n0 c0)):=fun v hv=>by
     have q0:=(Lw0.out wx HB.out).below hv;have q1:=(Lw1.out wx HB.out).below hv;exact⟨q0.cell (i:=0) rfl,q0.cell (i:=1) rfl,q0.cell (i:=2) rfl,q0.cell (i:=3) rfl,q1.cell (i:=0) rfl⟩
    clear p0 p1 p2 p3 r0 r1;go_region_held3 (fun v=>v.cell? ⟨w.heap.size,0,none⟩=some (.int .i64 k)/\v.cell? ⟨w.heap.size,1,none⟩=some (.int .i64 r)/\v.cell? ⟨w.heap.size,2,none⟩=some (.int .i64 c)/\v.cell? ⟨w.heap.size,3,none⟩=some (.int .i64 q)/\v.cell? ⟨w.heap.size+1,0,none⟩=some (.slice a0 n0 c0)) ((first | (exact KS.out _ (bdw _ _)) | (exact KS.out _ HM0.out)))
     ((go_at_call 263; refine(HZ.out _).mono ?_; rintro e wy ⟨rfl,hm⟩; have HM0:Hid (Below wx.heap.size wx wy):=of_drew hm; clear hm))
    go_wp2_with fail
    have HB2:Hid (Below w1.heap.size w1 wy):=bth HB.out HM0.out;clear HB KS HM0;have HB:Hid (Below w1.heap.size w1 wy):=HB2.out;clear HB2;have q0:=Lw0.out wy HB.out;have q1:=Lw1.out wy HB.out;have p0:=q0.cell (i:=0) rfl;have p1:=q0.cell (i:=1) rfl;have p2:=q0.cell (i:=2) rfl;have p3:=q0.cell (i:=3) rfl;have r0:=q1.cell (i:=0) rfl;have r1:=q1.cell (i:=1) rfl;clear q0 q1;rw [rounds_succ];go_wp2_with fail
    go_quiet (fail)
    obtain⟨wz,hnx⟩:∃ wz,wz=wy.drewN nq:=⟨_,rfl⟩
    have HB2:Hid (Below w1.heap.size w1 wz):=by show Below _ _ _; rw [hnx]; exact HB.out.trans (below_drewN _ _ _)
    rw [<- hnx];clear hnx HB p0 p1 p2 p3 r0 r1;have HB:Hid (Below w1.heap.size w1 wz):=HB2.out;clear HB2;go_wp2_with fail
    rw [rounds_succ];go_wp2_with fail
    go_ret;exact⟨rfl,bth Bw.out HB.out⟩
   ·have e1b:=e1;clear e1;by_cases e1:n1=m
    ·clear e1b;rw [decide_eq_true (p:=(n0=0\/n0=m)/\(n1=0\/n1=m)) ⟨.inr e0,.inr e1⟩];have f00:=zn n0 (by omega);have f01:=ze n0 e0;have f10:=zn n1 (by omega);have f11:=ze n1 e1;clear zz zn ze zf e0 e1;go_enter Tryz.func205,Tryz.ntmps205
     go_wp2_with fail
     refine wp_loop_rounds 3 ?_;rw [<- hw0,<- hw1];clear hw0 bw0 zw0 hw1 bw1 zw1;obtain⟨wx,HX⟩:∃ wx,Hid (wx=w1/\Below w1.heap.size w1 wx):=⟨w1,rfl,Below.refl _ _⟩
     obtain⟨hx1,hx2⟩:=HX.out;rw [<- hx1];have HB:Hid (Below w1.heap.size w1 wx):=hx2;clear hx1 hx2 HX;have q0:=Lw0.out wx HB.out;have q1:=Lw1.out wx HB.out;have p0:=q0.cell (i:=0) rfl;have p1:=q0.cell (i:=1) rfl;have p2:=q0.cell (i:=2) rfl;have p3:=q0.cell (i:=3) rfl;have r0:=q1.cell (i:=0) rfl;have r1:=q1.cell (i:=1) rfl;clear q0 q1;rw [rounds_succ];go_wp2_with fail
     have KS:Hid (∀ v,Below wx.heap.size wx v->v.cell? ⟨w.heap.size,0,none⟩=some (.int .i64 k)/\v.cell? ⟨w.heap.size,1,none⟩=some (.int .i64 r)/\v.cell? ⟨w.heap.size,2,none⟩=some (.int .i64 c)/\v.cell? ⟨w.heap.size,3,none⟩=some (.int .i64 q)/\v.cell? ⟨w.heap.size+1,0,none⟩=some (.slice a0 n0 c0)):=fun v hv=>by
      have q0:=(Lw0.out wx HB.out).below hv;have q1:=(Lw1.out wx HB.out).below hv;exact⟨q0.cell (i:=0) rfl,q0.cell (i:=1) rfl,q0.cell (i:=2) rfl,q0.cell (i:=3) rfl,q1.cell (i:=0) rfl⟩
     clear p0 p1 p2 p3 r0 r1;go_region_held3 (fun v=>v.cell? ⟨w.heap.size,0,none⟩=some (.int .i64 k)/\v.cell? ⟨w.heap.size,1,none⟩=some (.int .i64 r)/\v.cell? ⟨w.heap.size,2,none⟩=some (.int .i64 c)/\v.cell? ⟨w.heap.size,3,none⟩=some (.int .i64 q)/\v.cell? ⟨w.heap.size+1,0,none⟩=some (.slice a0 n0 c0)) ((first | (exact KS.out _ (bdw _ _)) | (exact KS.out _ HM0.out)))
      ((go_at_call 263; refine(HZ.out _).mono ?_; rintro e wy ⟨rfl,hm⟩; have HM0:Hid (Below wx.heap.size wx wy):=of_drew hm; clear hm))
     go_wp2_with fail
     have HB2:Hid (Below w1.heap.size w1 wy):=bth HB.out HM0.out;clear HB KS HM0;have HB:Hid (Below w1.heap.size w1 wy):=HB2.out;clear HB2;have q0:=Lw0.out wy HB.out;have q1:=Lw1.out wy HB.out;have p0:=q0.cell (i:=0) rfl;have p1:=q0.cell (i:=1) rfl;have p2:=q0.cell (i:=2) rfl;have p3:=q0.cell (i:=3) rfl;have r0:=q1.cell (i:=0) rfl;have r1:=q1.cell (i:=1) rfl;clear q0 q1;rw [rounds_succ];go_wp2_with fail
     have KS:Hid (∀ v,Below wy.heap.size wy v->v.cell? ⟨w.heap.size,0,none⟩=some (.int .i64 k)/\v.cell? ⟨w.heap.size,1,none⟩=some (.int .i64 r)/\v.cell? ⟨w.heap.size,2,none⟩=some (.int .i64 c)/\v.cell? ⟨w.heap.size,3,none⟩=some (.int .i64 q)/\v.cell? ⟨w.heap.size+1,1,none⟩=some (.slice a1 n1 c1)):=fun v hv=>by
      have q0:=(Lw0.out wy HB.out).below hv;have q1:=(Lw1.out wy HB.out).below hv;exact⟨q0.cell (i:=0) rfl,q0.cell (i:=1) rfl,q0.cell (i:=2) rfl,q0.cell (i:=3) rfl,q1.cell (i:=1) rfl⟩
     clear p0 p1 p2 p3 r0 r1;go_region_held3 (fun v=>v.cell? ⟨w.heap.size,0,none⟩=some (.int .i64 k)/\v.cell? ⟨w.heap.size,1,none⟩=some (.int .i64 r)/\v.cell? ⟨w.heap.size,2,none⟩=some (.int .i64 c)/\v.cell? ⟨w.heap.size,3,none⟩=some (.int .i64 q)/\v.cell? ⟨w.heap.size+1,1,none⟩=some (.slice a1 n1 c1)) ((first | (exact KS.out _ (bdw _ _)) | (exact KS.out _ HM1.out)))
      ((go_at_call 263; refine(HZ.out _).mono ?_; rintro e wz ⟨rfl,hm⟩; have HM1:Hid (Below wy.heap.size wy wz):=of_drew hm; clear hm))
     go_wp2_with fail
     have HB2:Hid (Below w1.heap.size w1 wz):=bth HB.out HM1.out;clear HB KS HM1;have HB:Hid (Below w1.heap.size w1 wz):=HB2.out;clear HB2;rw [rounds_succ];go_wp2_with fail
     go_ret;exact⟨rfl,bth Bw.out HB.out⟩
    ·skip
     rw [decide_eq_false (p:=(n0=0\/n0=m)/\(n1=0\/n1=m)) (by omega)];have f00:=zn n0 (by omega);have f01:=ze n0 e0;have f10:=zn n1 (by omega);have f11:=zf n1 (by omega);clear zz zn ze zf e0 e1 e1b;go_enter Tryz.func205,Tryz.ntmps205
     go_wp2_with fail
     refine wp_loop_rounds 3 ?_;rw [<- hw0,<- hw1];clear hw0 bw0 zw0 hw1 bw1 zw1;obtain⟨wx,HX⟩:∃ wx,Hid (wx=w1/\Below w1.heap.size w1 wx):=⟨w1,rfl,Below.refl _ _⟩
     obtain⟨hx1,hx2⟩:=HX.out;rw [<- hx1];have HB:Hid (Below w1.heap.size w1 wx):=hx2;clear hx1 hx2 HX;have q0:=Lw0.out wx HB.out;have q1:=Lw1.out wx HB.out;have p0:=q0.cell (i:=0) rfl;have p1:=q0.cell (i:=1) rfl;have p2:=q0.cell (i:=2) rfl;have p3:=q0.cell (i:=3) rfl;have r0:=q1.cell (i:=0) rfl;have r1:=q1.cell (i:=1) rfl;clear q0 q1;rw [rounds_succ];go_wp2_with fail
     have KS:Hid (∀ v,Below wx.heap.size wx v->v.cell? ⟨w.heap.size,0,none⟩=some (.int .i64 k)/\v.cell? ⟨w.heap.size,1,none⟩=some (.int .i64 r)/\v.cell? ⟨w.heap.size,2,none⟩=some (.int .i64 c)/\v.cell? ⟨w.heap.size,3,none⟩=some (.int .i64 q)/\v.cell? ⟨w.heap.size+1,0,none⟩=some (.slice a0 n0 c0)):=fun v hv=>by
      have q0:=(Lw0.out wx HB.out).below hv;have q1:=(Lw1.out wx HB.out).below hv;exact⟨q0.cell (i:=0) rfl,q0.cell (i:=1) rfl,q0.cell (i:=2) rfl,q0.cell (i:=3) rfl,q1.cell (i:=0) rfl⟩
     clear p0 p1 p2 p3 r0 r1;go_region_held3 (fun v=>v.cell? ⟨w.heap.size,0,none⟩=some (.int .i64 k)/\v.cell? ⟨w.heap.size,1,none⟩=some (.int .i64 r)/\v.cell? ⟨w.heap.size,2,none⟩=some (.int .i64 c)/\v.cell? ⟨w.heap.size,3,none⟩=some (.int .i64 q)/\v.cell? ⟨w.heap.size+1,0,none⟩=some (.slice a0 n0 c0)) ((first | (exact KS.out _ (bdw _ _)) | (exact KS.out _ HM0.out)))
      ((go_at_call 263; refine(HZ.out _).mono ?_; rintro e wy ⟨rfl,hm⟩; have HM0:Hid (Below wx.heap.size wx wy):=of_drew hm; clear hm))
     go_wp2_with fail
     have HB2:Hid (Below w1.heap.size w1 wy):=bth HB.out HM0.out;clear HB KS HM0;have HB:Hid (Below w1.heap.size w1 wy):=HB2.out;clear HB2;have q0:=Lw0.out wy HB.out;have q1:=Lw1.out wy HB.out;have p0:=q0.cell (i:=0) rfl;have p1:=q0.cell (i:=1) rfl;have p2:=q0.cell (i:=2) rfl;have p3:=q0.cell (i:=3) rfl;have r0:=q1.cell (i:=0) rfl;have r1:=q1.cell (i:=1) rfl;clear q0 q1;rw [rounds_succ];go_wp2_with fail
     have KS:Hid (∀ v,Below wy.heap.size wy v->v.cell? ⟨w.heap.size,0,none⟩=some (.int .i64 k)/\v.cell? ⟨w.heap.size,1,none⟩=some (.int .i64 r)/\v.cell? ⟨w.heap.size,2,none⟩=some (.int .i64 c)/\v.cell? ⟨w.heap.size,3,none⟩=some (.int .i64 q)/\v.cell? ⟨w.heap.size+1,1,none⟩=some (.slice a1 n1 c1)):=fun v hv=>by
      have q0:=(Lw0.out wy HB.out).below hv;have q1:=(Lw1.out wy HB.out).below hv;exact⟨q0.cell (i:=0) rfl,q0.cell (i:=1) rfl,q0.cell (i:=2) rfl,q0.cell (i:=3) rfl,q1.cell (i:=1) rfl⟩
     clear p0 p1 p2 p3 r0 r1;go_region_held3 (fun v=>v.cell? ⟨w.heap.size,0,none⟩=some (.int .i64 k)/\v.cell? ⟨w.heap.size,1,none⟩=some (.int .i64 r)/\v.cell? ⟨w.heap.size,2,none⟩=some (.int .i64 c)/\v.cell? ⟨w.heap.size,3,none⟩=some (.int .i64 q)/\v.cell? ⟨w.heap.size+1,1,none⟩=some (.slice a1 n1 c1)) ((first | (exact KS.out _ (bdw _ _)) | (exact KS.out _ HM1.out)))
      ((go_at_call 263; refine(HZ.out _).mono ?_; rintro e wz ⟨rfl,hm⟩; have HM1:Hid (Below wy.heap.size wy wz):=of_drew hm; clear hm))
     go_wp2_with fail
     go_ret;exact⟨rfl,bth Bw.out (bth HB.out HM1.out)⟩
  ·skip
   rw [decide_eq_false (p:=(n0=0\/n0=m)/\(n1=0\/n1=m)) (by omega)];have f00:=zn n0 (by omega);have f01:=zf n0 (by omega);clear zz zn ze zf e0 e0b ;go_enter Tryz.func205,Tryz.ntmps205
   go_wp2_with fail
   refine wp_loop_rounds 3 ?_;rw [<- hw0,<- hw1];clear hw0 bw0 zw0 hw1 bw1 zw1;obtain⟨wx,HX⟩:∃ wx,Hid (wx=w1/\Below w1.heap.size w1 wx):=⟨w1,rfl,Below.refl _ _⟩
   obtain⟨hx1,hx2⟩:=HX.out;rw [<- hx1];have HB:Hid (Below w1.heap.size w1 wx):=hx2;clear hx1 hx2 HX;have q0:=Lw0.out wx HB.out;have q1:=Lw1.out wx HB.out;have p0:=q0.cell (i:=0) rfl;have p1:=q0.cell (i:=1) rfl;have p2:=q0.cell (i:=2) rfl;have p3:=q0.cell (i:=3) rfl;have r0:=q1.cell (i:=0) rfl;have r1:=q1.cell (i:=1) rfl;clear q0 q1;rw [rounds_succ];go_wp2_with fail
   have KS:Hid (∀ v,Below wx.heap.size wx v->v.cell? ⟨w.heap.size,0,none⟩=some (.int .i64 k)/\v.cell? ⟨w.heap.size,1,none⟩=some (.int .i64 r)/\v.cell? ⟨w.heap.size,2,none⟩=some (.int .i64 c)/\v.cell? ⟨w.heap.size,3,none⟩=some (.int .i64 q)/\v.cell? ⟨w.heap.size+1,0,none⟩=some (.slice a0 n0 c0)):=fun v hv=>by
    have q0:=(Lw0.out wx HB.out).below hv;have q1:=(Lw1.out wx HB.out).below hv;exact⟨q0.cell (i:=0) rfl,q0.cell (i:=1) rfl,q0.cell (i:=2) rfl,q0.cell (i:=3) rfl,q1.cell (i:=0) rfl⟩
   clear p0 p1 p2 p3 r0 r1;go_region_held3 (fun v=>v.cell? ⟨w.heap.size,0,none⟩=some (.int .i64 k)/\v.cell? ⟨w.heap.size,1,none⟩=some (.int .i64 r)/\v.cell? ⟨w.heap.size,2,none⟩=some (.int .i64 c)/\v.cell? ⟨w.heap.size,3,none⟩=some (.int .i64 q)/\v.cell? ⟨w.heap.size+1,0,none⟩=some (.slice a0 n0 c0)) ((first | (exact KS.out _ (bdw _ _)) | (exact KS.out _ HM0.out)))
    ((go_at_call 263; refine(HZ.out _).mono ?_; rintro e wy ⟨rfl,hm⟩; have HM0:Hid (Below wx.heap.size wx wy):=of_drew hm; clear hm))
   go_wp2_with fail
   go_ret;exact⟨rfl,bth Bw.out (bth HB.out HM0.out)⟩
theorem Of_any{k r c q:Int}{N W:Nat}(h:Par k r c q N W 0)(w:World)(b0:Option Addr)(n m:Nat)(F:Nat->UInt8)(hb:Bec w b0 n m F)(hn:n<=9223372036854775807)(ix:Int)(y:Sl)(hy:he 0 N c ix n F=y):
  Calls Tryz.prog 135 #[.agg #[.int .i64 k,.int .i64 r,.int .i64 c,.int .i64 q],.slice b0 n m,.int .i64 ix] w fun e w'=>∃ ao ca bo cb,e=.returned (.tuple #[slv y ao ca bo cb,.bool (decide (¬ y.ce=0))])/\Got w.heap.size w' y ao ca bo cb/\Below w.heap.size w w':=by
 obtain⟨w0,hw0⟩:∃ w0,w0=w.alloc (.cells #[.int .i64 k,.int .i64 r,.int .i64 c,.int .i64 q] 23):=⟨_,rfl⟩
 have bw0:Below w.heap.size w w0:=by rw [hw0]; exact bal _ _
 have zw0:w0.heap.size=w.heap.size+1:=by rw [hw0]; simp
 obtain⟨w1,hw1⟩:∃ w1,w1=w0.alloc (.cells #[.int .u8 0,.int .i64 0,.int .i64 0,.int .i64 0,.slice none 0 0,.slice none 0 0] 107):=⟨_,rfl⟩
 have bw1:Below w0.heap.size w0 w1:=by rw [hw1]; exact bal _ _
 have zw1:w1.heap.size=w.heap.size+1+1:=by rw [hw1]; simp [zw0]
 have Bw:Hid (Below w.heap.size w w1):=(bth bw0 bw1)
 have Lw0:Hid (∀ v,Below w1.heap.size w1 v->At w v (w.heap.size) #[.int .i64 k,.int .i64 r,.int .i64 c,.int .i64 q] 23):=fun v hv=>by exact(at_made (Below.refl _ _) hw0).below (bth bw1 hv)
 have Lw1:Hid (∀ v,Below w1.heap.size w1 v->At w v (w.heap.size+1) #[.int .u8 0,.int .i64 0,.int .i64 0,.int .i64 0,.slice none 0 0,.slice none 0 0] 107):=fun v hv=>by rw [<- zw0]; exact(at_made bw0 hw1).below (bth (Below.refl _ _) hv)
 obtain⟨i,hi⟩:∃ i,isS N c n F=i:=⟨_,rfl⟩
 obtain⟨s,hs⟩:∃ s,slQ i N c F=s:=⟨_,rfl⟩
 have HR:Hid (∀ v,Below w.heap.size w v->Calls Tryz.prog 206 #[.agg #[.int .i64 k,.int .i64 r,.int .i64 c,.int .i64 q],.slice b0 n m] v fun e w'=>∃ ao ca bo cb,e=.returned (.tuple #[slv s ao ca bo cb,.bool i])/\Got v.heap.size w' s ao ca bo cb/\Below v.heap.size v w'):=fun v hv=>RSlot_any h v b0 n m F (hb.below hv) hn i hi s hs;have HS1:Hid (w1.heap.size=w.heap.size+1+1):=zw1;have HY:y=ofI ix s:=by rw [<- hy,<- hs,<- hi]; unfold he; rw [if_pos rfl]
 have HI:i=true->¬ s.ce=0:=fun e=>by
  have h1:=(is_true (hi.trans e)).2.2.2;have h2:s=dec N c F:=by rw [<- hs]; unfold slQ; rw [if_pos e]
  rw [h2];have:=(okS_nums h1).1;omega
 have HZ:i=false->s=zSl:=fun e=>by rw [<- hs]; unfold slQ; rw [e]; rfl
 clear hs hi hb h hn hy;unfold slv at HR;by_cases hx:s.ix=ix
 ·have hy2:y=s:=by rw [HY]; unfold ofI; rw [if_pos hx]
  have hq:(s.ix != ix)=false:=by simpa using hx
  cases i
  ·have hy3:=HZ rfl;rw [hy2,hy3,show decide (¬ zSl.ce=0)=false from rfl];unfold slv zSl;clear HY HI hx hy2 hy3 HZ;go_enter Tryz.func135,Tryz.ntmps135
   go_wp2_with fail
   rw [<- hw0,<- hw1];clear hw0 bw0 zw0 hw1 bw1 zw1;refine(HR.out _ Bw.out).mono ?_;rintro e wa ⟨ao,ca,bo,cb,rfl,hg,ha⟩;have HA:Hid (Below w1.heap.size w1 wa):=ha;have HG:Hid (Got w1.heap.size wa s ao ca bo cb):=hg;clear ha hg HR;have q1:=Lw1.out wa HA.out;have r0:=fun o=>(q1.alloc o).cell (i:=0) rfl;have r1:=fun o=>(q1.alloc o).cell (i:=1) rfl;have r2:=fun o=>(q1.alloc o).cell (i:=2) rfl;have r3:=fun o=>(q1.alloc o).cell (i:=3) rfl;have r4:=fun o=>(q1.alloc o).cell (i:=4) rfl;have r5:=fun o=>(q1.alloc o).cell (i:=5) rfl;have rf:=fun o=>(q1.alloc o).free;clear q1;go_wp2_with fail
   refine bodyPost_ret (v:=.tuple #[.agg #[.int .u8 0,.int .i64 0,.int .i64 0,.int .i64 0,.slice none 0 0,.slice none 0 0],.bool false]) (by simp [results,Tryz.results135,go_sem,r0,r1,r2,r3,r4,r5]) rfl ?_;have hal:=b_alloc (bth Bw.out HA.out) (.cells #[.int .u8 ((s.kd.toNat:Nat):Int),.int .i64 s.ix,.int .i64 s.ce,.int .i64 s.st,.slice ao s.vn ca,.slice bo s.dn cb] 107);have ho:=only_lo (wa.alloc (.cells #[.int .u8 ((s.kd.toNat:Nat):Int),.int .i64 s.ix,.int .i64 s.ce,.int .i64 s.st,.slice ao s.vn ca,.slice bo s.dn cb] 107)) (w.heap.size+1) (.int .u8 0) (.int .i64 0) (.int .i64 0) (.int .i64 0) (.slice none 0 0) (.slice none 0 0);exact⟨none,0,none,0,rfl,got_z _ _,hal.trans (ho.below (fun i hi=>by omega) hal.size)⟩
  ·rw [hy2,decide_eq_true (p:=¬ s.ce=0) (HI rfl)];unfold slv;clear HY HI hx hy2 HZ;go_enter Tryz.func135,Tryz.ntmps135
   go_wp2_with fail
   rw [<- hw0,<- hw1];clear hw0 bw0 zw0 hw1 bw1 zw1;refine(HR.out _ Bw.out).mono ?_;rintro e wa ⟨ao,ca,bo,cb,rfl,hg,ha⟩;have HA:Hid (Below w1.heap.size w1 wa):=ha;have HG:Hid (Got w1.heap.size wa s ao ca bo cb):=hg;clear ha hg HR;have q1:=Lw1.out wa HA.out;have r0:=fun o=>(q1.alloc o).cell (i:=0) rfl;have r1:=fun o=>(q1.alloc o).cell (i:=1) rfl;have r2:=fun o=>(q1.alloc o).cell (i:=2) rfl;have r3:=fun o=>(q1.alloc o).cell (i:=3) rfl;have r4:=fun o=>(q1.alloc o).cell (i:=4) rfl;have r5:=fun o=>(q1.alloc o).cell (i:=5) rfl;have rf:=fun o=>(q1.alloc o).free;clear q1;go_wp2_with fail
   refine bodyPost_ret (v:=.tuple #[.agg #[.int .u8 ((s.kd.toNat:Nat):Int),.int .i64 s.ix,.int .i64 s.ce,.int .i64 s.st,.slice ao s.vn ca,.slice bo s.dn cb],.bool true]) (by simp [results,Tryz.results135,go_sem,r0,r1,r2,r3,r4,r5]) rfl ?_;have hal:=b_alloc (bth Bw.out HA.out) (.cells #[.int .u8 ((s.kd.toNat:Nat):Int),.int .i64 s.ix,.int .i64 s.ce,.int .i64 s.st,.slice ao s.vn ca,.slice bo s.dn cb] 107);have ho:=only_lo (wa.alloc (.cells #[.int .u8 ((s.kd.toNat:Nat):Int),.int .i64 s.ix,.int .i64 s.ce,.int .i64 s.st,.slice ao s.vn ca,.slice bo s.dn cb] 107)) (w.heap.size+1) (.int .u8 ((s.kd.toNat:Nat):Int)) (.int .i64 s.ix) (.int .i64 s.ce) (.int .i64 s.st) (.slice ao s.vn ca) (.slice bo s.dn cb);exact⟨ao,ca,bo,cb,rfl,((HG.out.below (bal _ _)).stay ho (by have:=HS1.out; omega)).mono (by have:=HS1.out; omega),hal.trans (ho.below (fun i hi=>by omega) hal.size)⟩
 ·have hy2:y=zSl:=by rw [HY]; unfold ofI; rw [if_neg hx]
  have hq:(s.ix != ix)=true:=by simpa using hx
  rw [hy2,show decide (¬ zSl.ce=0)=false from rfl];unfold slv zSl;clear HY HI hx hy2 HZ;cases i
  ·skip
   go_enter Tryz.func135,Tryz.ntmps135
   go_wp2_with fail
   rw [<- hw0,<- hw1];clear hw0 bw0 zw0 hw1 bw1 zw1;refine(HR.out _ Bw.out).mono ?_;rintro e wa ⟨ao,ca,bo,cb,rfl,hg,ha⟩;have HA:Hid (Below w1.heap.size w1 wa):=ha;have HG:Hid (Got w1.heap.size wa s ao ca bo cb):=hg;clear ha hg HR;have q1:=Lw1.out wa HA.out;have r0:=fun o=>(q1.alloc o).cell (i:=0) rfl;have r1:=fun o=>(q1.alloc o).cell (i:=1) rfl;have r2:=fun o=>(q1.alloc o).cell (i:=2) rfl;have r3:=fun o=>(q1.alloc o).cell (i:=3) rfl;have r4:=fun o=>(q1.alloc o).cell (i:=4) rfl;have r5:=fun o=>(q1.alloc o).cell (i:=5) rfl;have rf:=fun o=>(q1.alloc o).free;clear q1;go_wp2_with fail
   refine bodyPost_ret (v:=.tuple #[.agg #[.int .u8 0,.int .i64 0,.int .i64 0,.int .i64 0,.slice none 0 0,.slice none 0 0],.bool false]) (by simp [results,Tryz.results135,go_sem,r0,r1,r2,r3,r4,r5]) rfl ?_;have hal:=b_alloc (bth Bw.out HA.out) (.cells #[.int .u8 ((s.kd.toNat:Nat):Int),.int .i64 s.ix,.int .i64 s.ce,.int .i64 s.st,.slice ao s.vn ca,.slice bo s.dn cb] 107);have ho:=only_lo (wa.alloc (.cells #[.int .u8 ((s.kd.toNat:Nat):Int),.int .i64 s.ix,.int .i64 s.ce,.int .i64 s.st,.slice ao s.vn ca,.slice bo s.dn cb] 107)) (w.heap.size+1) (.int .u8 0) (.int .i64 0) (.int .i64 0) (.int .i64 0) (.slice none 0 0) (.slice none 0 0);exact⟨none,0,none,0,rfl,got_z _ _,hal.trans (ho.below (fun i hi=>by omega) hal.size)⟩
  ·skip
   go_enter Tryz.func135,Tryz.ntmps135
   go_wp2_with fail
   rw [<- hw0,<- hw1];clear hw0 bw0 zw0 hw1 bw1 zw1;refine(HR.out _ Bw.out).mono ?_;rintro e wa ⟨ao,ca,bo,cb,rfl,hg,ha⟩;have HA:Hid (Below w1.heap.size w1 wa):=ha;have HG:Hid (Got w1.heap.size wa s ao ca bo cb):=hg;clear ha hg HR;have q1:=Lw1.out wa HA.out;have r0:=fun o=>(q1.alloc o).cell (i:=0) rfl;have r1:=fun o=>(q1.alloc o).cell (i:=1) rfl;have r2:=fun o=>(q1.alloc o).cell (i:=2) rfl;have r3:=fun o=>(q1.alloc o).cell (i:=3) rfl;have r4:=fun o=>(q1.alloc o).cell (i:=4) rfl;have r5:=fun o=>(q1.alloc o).cell (i:=5) rfl;have rf:=fun o=>(q1.alloc o).free;clear q1;go_wp2_with fail
   refine bodyPost_ret (v:=.tuple #[.agg #[.int .u8 0,.int .i64 0,.int .i64 0,.int .i64 0,.slice none 0 0,.slice none 0 0],.bool false]) (by simp [results,Tryz.results135,go_sem,r0,r1,r2,r3,r4,r5]) rfl ?_;have hal:=b_alloc (bth Bw.out HA.out) (.cells #[.int .u8 ((s.kd.toNat:Nat):Int),.int .i64 s.ix,.int .i64 s.ce,.int .i64 s.st,.slice ao s.vn ca,.slice bo s.dn cb] 107);have ho:=only_lo (wa.alloc (.cells #[.int .u8 ((s.kd.toNat:Nat):Int),.int .i64 s.ix,.int .i64 s.ce,.int .i64 s.st,.slice ao s.vn ca,.slice bo s.dn cb] 107)) (w.heap.size+1) (.int .u8 0) (.int .i64 0) (.int .i64 0) (.int .i64 0) (.slice none 0 0) (.slice none 0 0);exact⟨none,0,none,0,rfl,got_z _ _,hal.trans (ho.below (fun i hi=>by omega) hal.size)⟩
end Go.Proofs.YtemlojjkokooeaaGreat
