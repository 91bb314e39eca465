import Derived.Test.YtemlojjkokooeaaGreatTm16
open Go.Value renaming int->J,slice->Q,tuple->L,agg->H,bool->T
open Go.IntKind renaming i64->O,u8->G
open Option renaming none->I,some->Z
open Go.RowKit renaming Below->Y,Hid->U
open Go.RowKit.Below renaming refl->X
open Go.Obj renaming cells->D
open Bool renaming false->V,true->R
open Go.Proofs.Tryz renaming prog->P
open Go.Ending renaming returned->S
open Go renaming Calls->C
set_option maxHeartbeats 16000000
set_option maxRecDepth 100000
namespace Go.Proofs.YtemlojjkokooeaaGreat
open Go.RowKit
theorem uI{k r c q:Int}{N W:Nat}(h:Par k r c q N W 0)(w:World)(a0:Option Addr)(n0 c0:Nat)(a1:Option Addr)(n1 c1:Nat):
  C P 205 #[Pz k r c q,H #[Q a0 n0 c0,Q a1 n1 c1]] w fun e w'=>e=S (T (decide ((n0=0\/n0=sz N c)/\(n1=0\/n1=sz N c))))/\b7 w w':=by
 obtain⟨w0,bi⟩:=jM w k r c q
 have jW:=jt bi
 have j7:=ks bi
 obtain⟨w1,ci⟩:=fd (w0.alloc (D #[Q a0 n0 c0,Q a1 n1 c1] 97))
 have jX:=jt ci
 have kc:w1.heap.size=w.heap.size+1+1:=by rw [ci];simp [j7]
 have Bw:U (b7 w w1):=(ap jW jX)
 have kF:U (∀ v,b7 w1 v->At w v (w.heap.size) #[J O k,J O r,J O c,J O q] 23):=fun v hv=>by exact(ah (X _ _) bi).below (ap jX hv)
 have kV:U (∀ v,b7 w1 v->At w v (w.heap.size+1) #[Q a0 n0 c0,Q a1 n1 c1] 97):=fun v hv=>by rw [<- j7];exact(ah jW ci).below (ap (X _ _) hv)
 obtain⟨m,hm⟩:=fd (sz N c)
 have HZ:U (∀ w,C P 263 #[Pz k r c q] w fun e w'=>e=S (J O (m:Int))/\b7 w w'):=fun w=>by rw [hm];exact mb h w
 have IZ:0<m:=by rw [hm];unfold sz;omega
 rw [<- hm];clear hm h;have zz:∀ n:Nat,n=0->((n:Int) != 0)=V:=fun n h=>by subst h;rfl
 have zn:∀ n:Nat,¬ n=0->((n:Int) != 0)=R:=fun n h=>by simp only [bne_iff_ne,ne_eq];omega
 have ze:∀ n:Nat,n=m->((n:Int) != (m:Int))=V:=fun n h=>by subst h;simp
 have zf:∀ n:Nat,¬ n=m->((n:Int) != (m:Int))=R:=fun n h=>by simp only [bne_iff_ne,ne_eq];omega
 by_cases e0:n0=0
 ·by_cases e1:n1=0
  ·skip
   rw [zm (p:=(n0=0\/n0=m)/\(n1=0\/n1=m)) ⟨.inl e0,.inl e1⟩];have KN:=zz n0 e0;have LZ:=zz n1 e1;clear zz zn ze zf e0 e1;go_enter Tryz.func205,Tryz.ntmps205
   go_wp2_with fail
   refine wp_loop_rounds 3 ?_;rw [<- bi,<- ci];clear bi jW j7 ci jX kc;obtain⟨wx,HX⟩:∃ wx,U (wx=w1/\b7 w1 wx):=⟨w1,rfl,X _ _⟩
   obtain⟨nl,xw⟩:=HX.out;rw [<- nl];have HB:=am xw;clear nl xw HX;have q0:=kF.out wx HB.out;have q1:=kV.out wx HB.out;have p0:=q0.cz 0;have p1:=q0.cz 1;have p2:=q0.cz 2;have p3:=q0.cz 3;have r0:=q1.cz 0;have r1:=q1.cz 1;clear q0 q1;rw [rounds_succ];go_wp2_with fail
   go_quiet (fail)
   obtain⟨wy,xP⟩:=fd (wx.drewN nq)
   have jv:U (b7 w1 wy):=by show Y _ _ _;rw [xP];exact HB.out.trans (below_drewN _ _ _)
   rw [<- xP];clear xP HB p0 p1 p2 p3 r0 r1;have HB:=am (jv.out);clear jv;go_wp2_with fail
   have q0:=kF.out wy HB.out;have q1:=kV.out wy HB.out;have p0:=q0.cz 0;have p1:=q0.cz 1;have p2:=q0.cz 2;have p3:=q0.cz 3;have r0:=q1.cz 0;have r1:=q1.cz 1;clear q0 q1;rw [rounds_succ];go_wp2_with fail
   go_quiet (fail)
   obtain⟨wz,xP⟩:=fd (wy.drewN nq)
   have jv:U (b7 w1 wz):=by show Y _ _ _;rw [xP];exact HB.out.trans (below_drewN _ _ _)
   rw [<- xP];clear xP HB p0 p1 p2 p3 r0 r1;have HB:=am (jv.out);clear jv;go_wp2_with fail
   rw [rounds_succ];go_wp2_with fail
   go_ret;exact⟨rfl,ap Bw.out HB.out⟩
  ·have L3:=e1;clear e1;by_cases e1:n1=m
   ·clear L3;rw [zm (p:=(n0=0\/n0=m)/\(n1=0\/n1=m)) ⟨.inl e0,.inr e1⟩];have KN:=zz n0 e0;have LZ:=zn n1 za;have PA:=ze n1 e1;clear zz zn ze zf e0 e1;go_enter Tryz.func205,Tryz.ntmps205
    go_wp2_with fail
    refine wp_loop_rounds 3 ?_;rw [<- bi,<- ci];clear bi jW j7 ci jX kc;obtain⟨wx,HX⟩:∃ wx,U (wx=w1/\b7 w1 wx):=⟨w1,rfl,X _ _⟩
    obtain⟨nl,xw⟩:=HX.out;rw [<- nl];have HB:=am xw;clear nl xw HX;have q0:=kF.out wx HB.out;have q1:=kV.out wx HB.out;have p0:=q0.cz 0;have p1:=q0.cz 1;have p2:=q0.cz 2;have p3:=q0.cz 3;have r0:=q1.cz 0;have r1:=q1.cz 1;clear q0 q1;rw [rounds_succ];go_wp2_with fail
    go_quiet (fail)
    obtain⟨wy,xP⟩:=fd (wx.drewN nq)
    have jv:U (b7 w1 wy):=by show Y _ _ _;rw [xP];exact HB.out.trans (below_drewN _ _ _)
    rw [<- xP];clear xP HB p0 p1 p2 p3 r0 r1;have HB:=am (jv.out);clear jv;go_wp2_with fail
    have q0:=kF.out wy HB.out;have q1:=kV.out wy HB.out;have p0:=q0.cz 0;have p1:=q0.cz 1;have p2:=q0.cz 2;have p3:=q0.cz 3;have r0:=q1.cz 0;have r1:=q1.cz 1;clear q0 q1;rw [rounds_succ];go_wp2_with fail
    have KS:U (∀ v,b7 wy v->v.cell? ⟨w.heap.size,0,I⟩=Z (J O k)/\v.cell? ⟨w.heap.size,1,I⟩=Z (J O r)/\v.cell? ⟨w.heap.size,2,I⟩=Z (J O c)/\v.cell? ⟨w.heap.size,3,I⟩=Z (J O q)/\v.cell? ⟨w.heap.size+1,1,I⟩=Z (Q a1 n1 c1)):=fun v hv=>by
     have q0:=(kF.out wy HB.out).below hv;have q1:=(kV.out wy HB.out).below hv;exact⟨q0.cz 0,q0.cz 1,q0.cz 2,q0.cz 3,q1.cz 1⟩
    clear p0 p1 p2 p3 r0 r1;go_region_held3 (fun v=>v.cell? ⟨w.heap.size,0,I⟩=Z (J O k)/\v.cell? ⟨w.heap.size,1,I⟩=Z (J O r)/\v.cell? ⟨w.heap.size,2,I⟩=Z (J O c)/\v.cell? ⟨w.heap.size,3,I⟩=Z (J O q)/\v.cell? ⟨w.heap.size+1,1,I⟩=Z (Q a1 n1 c1)) ((first | (exact KS.out _ (bdw _ _)) | (exact KS.out _ yZ.out)))
     ((go_at_call 263;refine(HZ.out _).mono ?_;rintro e wz ⟨rfl,hm⟩;have yZ:=am (aG hm);clear hm))
    go_wp2_with fail
    have jv:=am (ap HB.out yZ.out);clear HB KS yZ;have HB:=am (jv.out);clear jv;rw [rounds_succ];go_wp2_with fail
    go_ret;exact⟨rfl,ap Bw.out HB.out⟩
   ·skip
    rw [zp (p:=(n0=0\/n0=m)/\(n1=0\/n1=m)) za];have KN:=zz n0 e0;have LZ:=zn n1 za;have PA:=zf n1 za;clear zz zn ze zf e0 e1 L3;go_enter Tryz.func205,Tryz.ntmps205
    go_wp2_with fail
    refine wp_loop_rounds 3 ?_;rw [<- bi,<- ci];clear bi jW j7 ci jX kc;obtain⟨wx,HX⟩:∃ wx,U (wx=w1/\b7 w1 wx):=⟨w1,rfl,X _ _⟩
    obtain⟨nl,xw⟩:=HX.out;rw [<- nl];have HB:=am xw;clear nl xw HX;have q0:=kF.out wx HB.out;have q1:=kV.out wx HB.out;have p0:=q0.cz 0;have p1:=q0.cz 1;have p2:=q0.cz 2;have p3:=q0.cz 3;have r0:=q1.cz 0;have r1:=q1.cz 1;clear q0 q1;rw [rounds_succ];go_wp2_with fail
    go_quiet (fail)
    obtain⟨wy,xP⟩:=fd (wx.drewN nq)
    have jv:U (b7 w1 wy):=by show Y _ _ _;rw [xP];exact HB.out.trans (below_drewN _ _ _)
    rw [<- xP];clear xP HB p0 p1 p2 p3 r0 r1;have HB:=am (jv.out);clear jv;go_wp2_with fail
    have q0:=kF.out wy HB.out;have q1:=kV.out wy HB.out;have p0:=q0.cz 0;have p1:=q0.cz 1;have p2:=q0.cz 2;have p3:=q0.cz 3;have r0:=q1.cz 0;have r1:=q1.cz 1;clear q0 q1;rw [rounds_succ];go_wp2_with fail
    have KS:U (∀ v,b7 wy v->v.cell? ⟨w.heap.size,0,I⟩=Z (J O k)/\v.cell? ⟨w.heap.size,1,I⟩=Z (J O r)/\v.cell? ⟨w.heap.size,2,I⟩=Z (J O c)/\v.cell? ⟨w.heap.size,3,I⟩=Z (J O q)/\v.cell? ⟨w.heap.size+1,1,I⟩=Z (Q a1 n1 c1)):=fun v hv=>by
     have q0:=(kF.out wy HB.out).below hv;have q1:=(kV.out wy HB.out).below hv;exact⟨q0.cz 0,q0.cz 1,q0.cz 2,q0.cz 3,q1.cz 1⟩
    clear p0 p1 p2 p3 r0 r1;go_region_held3 (fun v=>v.cell? ⟨w.heap.size,0,I⟩=Z (J O k)/\v.cell? ⟨w.heap.size,1,I⟩=Z (J O r)/\v.cell? ⟨w.heap.size,2,I⟩=Z (J O c)/\v.cell? ⟨w.heap.size,3,I⟩=Z (J O q)/\v.cell? ⟨w.heap.size+1,1,I⟩=Z (Q a1 n1 c1)) ((first | (exact KS.out _ (bdw _ _)) | (exact KS.out _ yZ.out)))
     ((go_at_call 263;refine(HZ.out _).mono ?_;rintro e wz ⟨rfl,hm⟩;have yZ:=am (aG hm);clear hm))
    go_wp2_with fail
    go_ret;exact⟨rfl,ap Bw.out (ap HB.out yZ.out)⟩
 ·have Sm:=e0;clear e0;by_cases e0:n0=m
  ·clear Sm;by_cases e1:n1=0
   ·skip
    rw [zm (p:=(n0=0\/n0=m)/\(n1=0\/n1=m)) ⟨.inr e0,.inl e1⟩];have KN:=zn n0 za;have PB:=ze n0 e0;have LZ:=zz n1 e1;clear zz zn ze zf e0 e1;go_enter Tryz.func205,Tryz.ntmps205
    go_wp2_with fail
    refine wp_loop_rounds 3 ?_;rw [<- bi,<- ci];clear bi jW j7 ci jX kc;obtain⟨wx,HX⟩:∃ wx,U (wx=w1/\b7 w1 wx):=⟨w1,rfl,X _ _⟩
    obtain⟨nl,xw⟩:=HX.out;rw [<- nl];have HB:=am xw;clear nl xw HX;have q0:=kF.out wx HB.out;have q1:=kV.out wx HB.out;have p0:=q0.cz 0;have p1:=q0.cz 1;have p2:=q0.cz 2;have p3:=q0.cz 3;have r0:=q1.cz 0;have r1:=q1.cz 1;clear q0 q1;rw [rounds_succ];go_wp2_with fail
    have KS:U (∀ v,b7 wx v->v.cell? ⟨w.heap.size,0,I⟩=Z (J O k)/\v.cell? ⟨w.heap.size,1,I⟩=Z (J O r)/\v.cell? ⟨w.heap.size,2,I⟩=Z (J O c)/\v.cell? ⟨w.heap.size,3,I⟩=Z (J O q)/\v.cell? ⟨w.heap.size+1,0,I⟩=Z (Q a0 n0 c0)):=fun v hv=>by
     have q0:=(kF.out wx HB.out).below hv;have q1:=(kV.out wx HB.out).below hv;exact⟨q0.cz 0,q0.cz 1,q0.cz 2,q0.cz 3,q1.cz 0⟩
    clear p0 p1 p2 p3 r0 r1;go_region_held3 (fun v=>v.cell? ⟨w.heap.size,0,I⟩=Z (J O k)/\v.cell? ⟨w.heap.size,1,I⟩=Z (J O r)/\v.cell? ⟨w.heap.size,2,I⟩=Z (J O c)/\v.cell? ⟨w.heap.size,3,I⟩=Z (J O q)/\v.cell? ⟨w.heap.size+1,0,I⟩=Z (Q a0 n0 c0)) ((first | (exact KS.out _ (bdw _ _)) | (exact KS.out _ yt.out)))
     ((go_at_call 263;refine(HZ.out _).mono ?_;rintro e wy ⟨rfl,hm⟩;have yt:=am (aG hm);clear hm))
    go_wp2_with fail
    have jv:=am (ap HB.out yt.out);clear HB KS yt;have HB:=am (jv.out);clear jv;have q0:=kF.out wy HB.out;have q1:=kV.out wy HB.out;have p0:=q0.cz 0;have p1:=q0.cz 1;have p2:=q0.cz 2;have p3:=q0.cz 3;have r0:=q1.cz 0;have r1:=q1.cz 1;clear q0 q1;rw [rounds_succ];go_wp2_with fail
    go_quiet (fail)
    obtain⟨wz,xP⟩:=fd (wy.drewN nq)
    have jv:U (b7 w1 wz):=by show Y _ _ _;rw [xP];exact HB.out.trans (below_drewN _ _ _)
    rw [<- xP];clear xP HB p0 p1 p2 p3 r0 r1;have HB:=am (jv.out);clear jv;go_wp2_with fail
    rw [rounds_succ];go_wp2_with fail
    go_ret;exact⟨rfl,ap Bw.out HB.out⟩
   ·have L3:=e1;clear e1;by_cases e1:n1=m
    ·clear L3;rw [zm (p:=(n0=0\/n0=m)/\(n1=0\/n1=m)) ⟨.inr e0,.inr e1⟩];have KN:=zn n0 za;have PB:=ze n0 e0;have LZ:=zn n1 za;have PA:=ze n1 e1;clear zz zn ze zf e0 e1;go_enter Tryz.func205,Tryz.ntmps205
     go_wp2_with fail
     refine wp_loop_rounds 3 ?_;rw [<- bi,<- ci];clear bi jW j7 ci jX kc;obtain⟨wx,HX⟩:∃ wx,U (wx=w1/\b7 w1 wx):=⟨w1,rfl,X _ _⟩
     obtain⟨nl,xw⟩:=HX.out;rw [<- nl];have HB:=am xw;clear nl xw HX;have q0:=kF.out wx HB.out;have q1:=kV.out wx HB.out;have p0:=q0.cz 0;have p1:=q0.cz 1;have p2:=q0.cz 2;have p3:=q0.cz 3;have r0:=q1.cz 0;have r1:=q1.cz 1;clear q0 q1;rw [rounds_succ];go_wp2_with fail
     have KS:U (∀ v,b7 wx v->v.cell? ⟨w.heap.size,0,I⟩=Z (J O k)/\v.cell? ⟨w.heap.size,1,I⟩=Z (J O r)/\v.cell? ⟨w.heap.size,2,I⟩=Z (J O c)/\v.cell? ⟨w.heap.size,3,I⟩=Z (J O q)/\v.cell? ⟨w.heap.size+1,0,I⟩=Z (Q a0 n0 c0)):=fun v hv=>by
      have q0:=(kF.out wx HB.out).below hv;have q1:=(kV.out wx HB.out).below hv;exact⟨q0.cz 0,q0.cz 1,q0.cz 2,q0.cz 3,q1.cz 0⟩
     clear p0 p1 p2 p3 r0 r1;go_region_held3 (fun v=>v.cell? ⟨w.heap.size,0,I⟩=Z (J O k)/\v.cell? ⟨w.heap.size,1,I⟩=Z (J O r)/\v.cell? ⟨w.heap.size,2,I⟩=Z (J O c)/\v.cell? ⟨w.heap.size,3,I⟩=Z (J O q)/\v.cell? ⟨w.heap.size+1,0,I⟩=Z (Q a0 n0 c0)) ((first | (exact KS.out _ (bdw _ _)) | (exact KS.out _ yt.out)))
      ((go_at_call 263;refine(HZ.out _).mono ?_;rintro e wy ⟨rfl,hm⟩;have yt:=am (aG hm);clear hm))
     go_wp2_with fail
     have jv:=am (ap HB.out yt.out);clear HB KS yt;have HB:=am (jv.out);clear jv;have q0:=kF.out wy HB.out;have q1:=kV.out wy HB.out;have p0:=q0.cz 0;have p1:=q0.cz 1;have p2:=q0.cz 2;have p3:=q0.cz 3;have r0:=q1.cz 0;have r1:=q1.cz 1;clear q0 q1;rw [rounds_succ];go_wp2_with fail
     have KS:U (∀ v,b7 wy v->v.cell? ⟨w.heap.size,0,I⟩=Z (J O k)/\v.cell? ⟨w.heap.size,1,I⟩=Z (J O r)/\v.cell? ⟨w.heap.size,2,I⟩=Z (J O c)/\v.cell? ⟨w.heap.size,3,I⟩=Z (J O q)/\v.cell? ⟨w.heap.size+1,1,I⟩=Z (Q a1 n1 c1)):=fun v hv=>by
      have q0:=(kF.out wy HB.out).below hv;have q1:=(kV.out wy HB.out).below hv;exact⟨q0.cz 0,q0.cz 1,q0.cz 2,q0.cz 3,q1.cz 1⟩
     clear p0 p1 p2 p3 r0 r1;go_region_held3 (fun v=>v.cell? ⟨w.heap.size,0,I⟩=Z (J O k)/\v.cell? ⟨w.heap.size,1,I⟩=Z (J O r)/\v.cell? ⟨w.heap.size,2,I⟩=Z (J O c)/\v.cell? ⟨w.heap.size,3,I⟩=Z (J O q)/\v.cell? ⟨w.heap.size+1,1,I⟩=Z (Q a1 n1 c1)) ((first | (exact KS.out _ (bdw _ _)) | (exact KS.out _ yZ.out)))
      ((go_at_call 263;refine(HZ.out _).mono ?_;rintro e wz ⟨rfl,hm⟩;have yZ:=am (aG hm);clear hm))
     go_wp2_with fail
     have jv:=am (ap HB.out yZ.out);clear HB KS yZ;have HB:=am (jv.out);clear jv;rw [rounds_succ];go_wp2_with fail
     go_ret;exact⟨rfl,ap Bw.out HB.out⟩
    ·skip
     rw [zp (p:=(n0=0\/n0=m)/\(n1=0\/n1=m)) za];have KN:=zn n0 za;have PB:=ze n0 e0;have LZ:=zn n1 za;have PA:=zf n1 za;clear zz zn ze zf e0 e1 L3;go_enter Tryz.func205,Tryz.ntmps205
     go_wp2_with fail
     refine wp_loop_rounds 3 ?_;rw [<- bi,<- ci];clear bi jW j7 ci jX kc;obtain⟨wx,HX⟩:∃ wx,U (wx=w1/\b7 w1 wx):=⟨w1,rfl,X _ _⟩
     obtain⟨nl,xw⟩:=HX.out;rw [<- nl];have HB:=am xw;clear nl xw HX;have q0:=kF.out wx HB.out;have q1:=kV.out wx HB.out;have p0:=q0.cz 0;have p1:=q0.cz 1;have p2:=q0.cz 2;have p3:=q0.cz 3;have r0:=q1.cz 0;have r1:=q1.cz 1;clear q0 q1;rw [rounds_succ];go_wp2_with fail
     have KS:U (∀ v,b7 wx v->v.cell? ⟨w.heap.size,0,I⟩=Z (J O k)/\v.cell? ⟨w.heap.size,1,I⟩=Z (J O r)/\v.cell? ⟨w.heap.size,2,I⟩=Z (J O c)/\v.cell? ⟨w.heap.size,3,I⟩=Z (J O q)/\v.cell? ⟨w.heap.size+1,0,I⟩=Z (Q a0 n0 c0)):=fun v hv=>by
      have q0:=(kF.out wx HB.out).below hv;have q1:=(kV.out wx HB.out).below hv;exact⟨q0.cz 0,q0.cz 1,q0.cz 2,q0.cz 3,q1.cz 0⟩
     clear p0 p1 p2 p3 r0 r1;go_region_held3 (fun v=>v.cell? ⟨w.heap.size,0,I⟩=Z (J O k)/\v.cell? ⟨w.heap.size,1,I⟩=Z (J O r)/\v.cell? ⟨w.heap.size,2,I⟩=Z (J O c)/\v.cell? ⟨w.heap.size,3,I⟩=Z (J O q)/\v.cell? ⟨w.heap.size+1,0,I⟩=Z (Q a0 n0 c0)) ((first | (exact KS.out _ (bdw _ _)) | (exact KS.out _ yt.out)))
      ((go_at_call 263;refine(HZ.out _).mono ?_;rintro e wy ⟨rfl,hm⟩;have yt:=am (aG hm);clear hm))
     go_wp2_with fail
     have jv:=am (ap HB.out yt.out);clear HB KS yt;have HB:=am (jv.out);clear jv;have q0:=kF.out wy HB.out;have q1:=kV.out wy HB.out;have p0:=q0.cz 0;have p1:=q0.cz 1;have p2:=q0.cz 2;have p3:=q0.cz 3;have r0:=q1.cz 0;have r1:=q1.cz 1;clear q0 q1;rw [rounds_succ];go_wp2_with fail
     have KS:U (∀ v,b7 wy v->v.cell? ⟨w.heap.size,0,I⟩=Z (J O k)/\v.cell? ⟨w.heap.size,1,I⟩=Z (J O r)/\v.cell? ⟨w.heap.size,2,I⟩=Z (J O c)/\v.cell? ⟨w.heap.size,3,I⟩=Z (J O q)/\v.cell? ⟨w.heap.size+1,1,I⟩=Z (Q a1 n1 c1)):=fun v hv=>by
      have q0:=(kF.out wy HB.out).below hv;have q1:=(kV.out wy HB.out).below hv;exact⟨q0.cz 0,q0.cz 1,q0.cz 2,q0.cz 3,q1.cz 1⟩
     clear p0 p1 p2 p3 r0 r1;go_region_held3 (fun v=>v.cell? ⟨w.heap.size,0,I⟩=Z (J O k)/\v.cell? ⟨w.heap.size,1,I⟩=Z (J O r)/\v.cell? ⟨w.heap.size,2,I⟩=Z (J O c)/\v.cell? ⟨w.heap.size,3,I⟩=Z (J O q)/\v.cell? ⟨w.heap.size+1,1,I⟩=Z (Q a1 n1 c1)) ((first | (exact KS.out _ (bdw _ _)) | (exact KS.out _ yZ.out)))
      ((go_at_call 263;refine(HZ.out _).mono ?_;rintro e wz ⟨rfl,hm⟩;have yZ:=am (aG hm);clear hm))
     go_wp2_with fail
     go_ret;exact⟨rfl,ap Bw.out (ap HB.out yZ.out)⟩
  ·skip
   rw [zp (p:=(n0=0\/n0=m)/\(n1=0\/n1=m)) za];have KN:=zn n0 za;have PB:=zf n0 za;clear zz zn ze zf e0 Sm ;go_enter Tryz.func205,Tryz.ntmps205
   go_wp2_with fail
   refine wp_loop_rounds 3 ?_;rw [<- bi,<- ci];clear bi jW j7 ci jX kc;obtain⟨wx,HX⟩:∃ wx,U (wx=w1/\b7 w1 wx):=⟨w1,rfl,X _ _⟩
   obtain⟨nl,xw⟩:=HX.out;rw [<- nl];have HB:=am xw;clear nl xw HX;have q0:=kF.out wx HB.out;have q1:=kV.out wx HB.out;have p0:=q0.cz 0;have p1:=q0.cz 1;have p2:=q0.cz 2;have p3:=q0.cz 3;have r0:=q1.cz 0;have r1:=q1.cz 1;clear q0 q1;rw [rounds_succ];go_wp2_with fail
   have KS:U (∀ v,b7 wx v->v.cell? ⟨w.heap.size,0,I⟩=Z (J O k)/\v.cell? ⟨w.heap.size,1,I⟩=Z (J O r)/\v.cell? ⟨w.heap.size,2,I⟩=Z (J O c)/\v.cell? ⟨w.heap.size,3,I⟩=Z (J O q)/\v.cell? ⟨w.heap.size+1,0,I⟩=Z (Q a0 n0 c0)):=fun v hv=>by
    have q0:=(kF.out wx HB.out).below hv;have q1:=(kV.out wx HB.out).below hv;exact⟨q0.cz 0,q0.cz 1,q0.cz 2,q0.cz 3,q1.cz 0⟩
   clear p0 p1 p2 p3 r0 r1;go_region_held3 (fun v=>v.cell? ⟨w.heap.size,0,I⟩=Z (J O k)/\v.cell? ⟨w.heap.size,1,I⟩=Z (J O r)/\v.cell? ⟨w.heap.size,2,I⟩=Z (J O c)/\v.cell? ⟨w.heap.size,3,I⟩=Z (J O q)/\v.cell? ⟨w.heap.size+1,0,I⟩=Z (Q a0 n0 c0)) ((first | (exact KS.out _ (bdw _ _)) | (exact KS.out _ yt.out)))
    ((go_at_call 263;refine(HZ.out _).mono ?_;rintro e wy ⟨rfl,hm⟩;have yt:=am (aG hm);clear hm))
   go_wp2_with fail
   go_ret;exact⟨rfl,ap Bw.out (ap HB.out yt.out)⟩
theorem fg{k r c q:Int}{N W:Nat}(h:Par k r c q N W 0)(w:World)(b0:Option Addr)(n m:Nat)(F:Nat->UInt8)(hb:Bec w b0 n m F)(hn:n<=9223372036854775807)(ix:Int)(y:Sl)(hy:he 0 N c ix n F=y):
  C P 135 #[Pz k r c q,Q b0 n m,J O ix] w fun e w'=>∃ ao ca bo cb,e=S (L #[slv y ao ca bo cb,T (decide (¬ y.ce=0))])/\Got w.heap.size w' y ao ca bo cb/\b7 w w':=by
 obtain⟨w0,bi⟩:=jM w k r c q
 have jW:=jt bi
 have j7:=ks bi
 obtain⟨w1,ci⟩:=fd (w0.alloc (D #[J G 0,J O 0,J O 0,J O 0,Q I 0 0,Q I 0 0] 107))
 have jX:=jt ci
 have kc:w1.heap.size=w.heap.size+1+1:=by rw [ci];simp [j7]
 have Bw:U (b7 w w1):=(ap jW jX)
 have kF:U (∀ v,b7 w1 v->At w v (w.heap.size) #[J O k,J O r,J O c,J O q] 23):=fun v hv=>by exact(ah (X _ _) bi).below (ap jX hv)
 have kV:U (∀ v,b7 w1 v->At w v (w.heap.size+1) #[J G 0,J O 0,J O 0,J O 0,Q I 0 0,Q I 0 0] 107):=fun v hv=>by rw [<- j7];exact(ah jW ci).below (ap (X _ _) hv)
 obtain⟨i,hi⟩:=km (isS N c n F)
 obtain⟨s,hs⟩:=km (slQ i N c F)
 have HR:=am fun v (hv:b7 w v)=>ui h v b0 n m F (hb.below hv) hn i hi s hs;have ip:=am kc;have HY:y=ofI ix s:=by rw [<- hy,<- hs,<- hi];unfold he;rw [zk rfl]
 have HI:i=R->¬ s.ce=0:=fun e=>by
  have h1:=(eH (hi.trans e)).2.2.2;have h2:s=dec N c F:=by rw [<- hs];unfold slQ;rw [zk e]
  rw [h2];have:=(dx h1).1;omega
 have HZ:i=V->s=zSl:=fun e=>by rw [<- hs];unfold slQ;rw [e];rfl
 clear hs hi hb h hn hy;unfold slv at HR;by_cases hx:s.ix=ix
 ·have JD:y=s:=by rw [HY];unfold ofI;rw [zk hx]
  have hq:(s.ix != ix)=V:=by simpa using hx
  cases i
  ·have Sn:=HZ rfl;rw [JD,Sn,show decide (¬ zSl.ce=0)=V from rfl];unfold slv zSl;clear HY HI hx JD Sn HZ;go_enter Tryz.func135,Tryz.ntmps135
   go_wp2_with fail
   rw [<- bi,<- ci];clear bi jW j7 ci jX kc;refine(HR.out _ Bw.out).mono ?_;rintro e wa ⟨ao,ca,bo,cb,rfl,hg,ha⟩;have HA:=am ha;have HG:=am hg;clear ha hg HR;have q1:=kV.out wa HA.out;have r0:=fun o=>(q1.alloc o).cz 0;have r1:=fun o=>(q1.alloc o).cz 1;have r2:=fun o=>(q1.alloc o).cz 2;have r3:=fun o=>(q1.alloc o).cz 3;have r4:=fun o=>(q1.alloc o).cz 4;have r5:=fun o=>(q1.alloc o).cz 5;have rf:=fun o=>(q1.alloc o).free;clear q1;go_wp2_with fail
   refine bodyPost_ret (v:=L #[H #[J G 0,J O 0,J O 0,J O 0,Q I 0 0,Q I 0 0],T V]) (by simp [results,Tryz.results135,go_sem,r0,r1,r2,r3,r4,r5]) rfl ?_;have j9:=aa (ap Bw.out HA.out) (D #[J G ((s.kd.toNat:Nat):Int),J O s.ix,J O s.ce,J O s.st,Q ao s.vn ca,Q bo s.dn cb] 107);have ho:=aW (wa.alloc (D #[J G ((s.kd.toNat:Nat):Int),J O s.ix,J O s.ce,J O s.st,Q ao s.vn ca,Q bo s.dn cb] 107)) (w.heap.size+1) (J G 0) (J O 0) (J O 0) (J O 0) (Q I 0 0) (Q I 0 0);exact⟨I,0,I,0,rfl,aR _ _,j9.trans (ho.below (fun i hi=>by omega) j9.size)⟩
  ·rw [JD,zm (p:=¬ s.ce=0) (HI rfl)];unfold slv;clear HY HI hx JD HZ;go_enter Tryz.func135,Tryz.ntmps135
   go_wp2_with fail
   rw [<- bi,<- ci];clear bi jW j7 ci jX kc;refine(HR.out _ Bw.out).mono ?_;rintro e wa ⟨ao,ca,bo,cb,rfl,hg,ha⟩;have HA:=am ha;have HG:=am hg;clear ha hg HR;have q1:=kV.out wa HA.out;have r0:=fun o=>(q1.alloc o).cz 0;have r1:=fun o=>(q1.alloc o).cz 1;have r2:=fun o=>(q1.alloc o).cz 2;have r3:=fun o=>(q1.alloc o).cz 3;have r4:=fun o=>(q1.alloc o).cz 4;have r5:=fun o=>(q1.alloc o).cz 5;have rf:=fun o=>(q1.alloc o).free;clear q1;go_wp2_with fail
   refine bodyPost_ret (v:=L #[H #[J G ((s.kd.toNat:Nat):Int),J O s.ix,J O s.ce,J O s.st,Q ao s.vn ca,Q bo s.dn cb],T R]) (by simp [results,Tryz.results135,go_sem,r0,r1,r2,r3,r4,r5]) rfl ?_;have j9:=aa (ap Bw.out HA.out) (D #[J G ((s.kd.toNat:Nat):Int),J O s.ix,J O s.ce,J O s.st,Q ao s.vn ca,Q bo s.dn cb] 107);have ho:=aW (wa.alloc (D #[J G ((s.kd.toNat:Nat):Int),J O s.ix,J O s.ce,J O s.st,Q ao s.vn ca,Q bo s.dn cb] 107)) (w.heap.size+1) (J G ((s.kd.toNat:Nat):Int)) (J O s.ix) (J O s.ce) (J O s.st) (Q ao s.vn ca) (Q bo s.dn cb);exact⟨ao,ca,bo,cb,rfl,((HG.out.below (bal _ _)).stay ho (by have:=ip.out;omega)).mono (by have:=ip.out;omega),j9.trans (ho.below (fun i hi=>by omega) j9.size)⟩
 ·have JD:y=zSl:=by rw [HY];unfold ofI;rw [zl hx]
  have hq:(s.ix != ix)=R:=by simpa using hx
  rw [JD,show decide (¬ zSl.ce=0)=V from rfl];unfold slv zSl;clear HY HI hx JD HZ;cases i
  ·skip
   go_enter Tryz.func135,Tryz.ntmps135
   go_wp2_with fail
   rw [<- bi,<- ci];clear bi jW j7 ci jX kc;refine(HR.out _ Bw.out).mono ?_;rintro e wa ⟨ao,ca,bo,cb,rfl,hg,ha⟩;have HA:=am ha;have HG:=am hg;clear ha hg HR;have q1:=kV.out wa HA.out;have r0:=fun o=>(q1.alloc o).cz 0;have r1:=fun o=>(q1.alloc o).cz 1;have r2:=fun o=>(q1.alloc o).cz 2;have r3:=fun o=>(q1.alloc o).cz 3;have r4:=fun o=>(q1.alloc o).cz 4;have r5:=fun o=>(q1.alloc o).cz 5;have rf:=fun o=>(q1.alloc o).free;clear q1;go_wp2_with fail
   refine bodyPost_ret (v:=L #[H #[J G 0,J O 0,J O 0,J O 0,Q I 0 0,Q I 0 0],T V]) (by simp [results,Tryz.results135,go_sem,r0,r1,r2,r3,r4,r5]) rfl ?_;have j9:=aa (ap Bw.out HA.out) (D #[J G ((s.kd.toNat:Nat):Int),J O s.ix,J O s.ce,J O s.st,Q ao s.vn ca,Q bo s.dn cb] 107);have ho:=aW (wa.alloc (D #[J G ((s.kd.toNat:Nat):Int),J O s.ix,J O s.ce,J O s.st,Q ao s.vn ca,Q bo s.dn cb] 107)) (w.heap.size+1) (J G 0) (J O 0) (J O 0) (J O 0) (Q I 0 0) (Q I 0 0);exact⟨I,0,I,0,rfl,aR _ _,j9.trans (ho.below (fun i hi=>by omega) j9.size)⟩
  ·skip
   go_enter Tryz.func135,Tryz.ntmps135
   go_wp2_with fail
   rw [<- bi,<- ci];clear bi jW j7 ci jX kc;refine(HR.out _ Bw.out).mono ?_;rintro e wa ⟨ao,ca,bo,cb,rfl,hg,ha⟩;have HA:=am ha;have HG:=am hg;clear ha hg HR;have q1:=kV.out wa HA.out;have r0:=fun o=>(q1.alloc o).cz 0;have r1:=fun o=>(q1.alloc o).cz 1;have r2:=fun o=>(q1.alloc o).cz 2;have r3:=fun o=>(q1.alloc o).cz 3;have r4:=fun o=>(q1.alloc o).cz 4;have r5:=fun o=>(q1.alloc o).cz 5;have rf:=fun o=>(q1.alloc o).free;clear q1;go_wp2_with fail
   refine bodyPost_ret (v:=L #[H #[J G 0,J O 0,J O 0,J O 0,Q I 0 0,Q I 0 0],T V]) (by simp [results,Tryz.results135,go_sem,r0,r1,r2,r3,r4,r5]) rfl ?_;have j9:=aa (ap Bw.out HA.out) (D #[J G ((s.kd.toNat:Nat):Int),J O s.ix,J O s.ce,J O s.st,Q ao s.vn ca,Q bo s.dn cb] 107);have ho:=aW (wa.alloc (D #[J G ((s.kd.toNat:Nat):Int),J O s.ix,J O s.ce,J O s.st,Q ao s.vn ca,Q bo s.dn cb] 107)) (w.heap.size+1) (J G 0) (J O 0) (J O 0) (J O 0) (Q I 0 0) (Q I 0 0);exact⟨I,0,I,0,rfl,aR _ _,j9.trans (ho.below (fun i hi=>by omega) j9.size)⟩
end Go.Proofs.YtemlojjkokooeaaGreat
