import Derived.Test.YtemlojjkokooeaaGreatTj15
set_option maxHeartbeats 4000000
set_option maxRecDepth 100000
namespace Go.Proofs.YtemlojjkokooeaaGreat
open Go.RowKit
theorem mx_ge{R:Nat->Int}:∀ {n i:Nat},i<n->R i<=mx R n
 | 0,i,h=>absurd h (Nat.not_lt_zero i)
 | n+1,i,h=>by
  rw [mx,gr];by_cases e:i=n
  ·subst e; split <;> omega
  ·have:=mx_ge (R:=R) (n:=n) (i:=i) (by omega);split <;> omega
theorem RMay_any{k r c q:Int}{N W:Nat}(h:Par k r c q N W 0)(w:World)(s:Sl)(ao:Option Addr)(ca:Nat)(bo:Option Addr)(cb:Nat)(hs:Has w s ao ca bo cb)(y:Bool)(hy:okS N c s=y):
  Calls Tryz.prog 280 #[.agg #[.int .i64 k,.int .i64 r,.int .i64 c,.int .i64 q],slv s ao ca bo cb] w fun e w'=>e=.returned (.bool y)/\Below w.heap.size w w':=by
 have HNN:=fun w=>N_any c q h.sum h.few w;have HL:=fun w (hv:RdI w ao s.vn s.V)=>RLast_any c q h.sum h.few w ao s.vn ca s.V hv;have hN:=h.few;obtain⟨kd,ix,ce,st,vn,V,dn,D⟩:=s;simp only [slv] at *;have HV:Hid (Vec w ao vn ca V):=hs.vec;obtain⟨kn,hkn⟩:∃ kn:Int,kn=((kd.toNat:Nat):Int):=⟨_,rfl⟩
 have HK:Hid (decide (kd=1\/kd=2)=decide (kn=1\/kn=2)):=by
  show _=_;apply decide_eq_decide.2
  rw [hkn,kd_one,kd_two]
 have HO:Hid (okS N c ⟨kd,ix,ce,st,vn,V,dn,D⟩=y):=hy;rw [<- hkn];clear hkn hs h hy;obtain⟨w0,hw0⟩:∃ w0,w0=w.alloc (.cells #[.int .i64 k,.int .i64 r,.int .i64 c,.int .i64 q] 23):=⟨_,rfl⟩
 obtain⟨w1,hw1⟩:∃ w1,w1=w0.alloc (.cells #[.int .u8 kn,.int .i64 ix,.int .i64 ce,.int .i64 st,.slice ao vn ca,.slice bo dn cb] 107):=⟨_,rfl⟩
 have b0:Below w.heap.size w w0:=by rw [hw0]; exact bal _ _
 have b1:Below w0.heap.size w0 w1:=by rw [hw1]; exact bal _ _
 have z0:w0.heap.size=w.heap.size+1:=by rw [hw0]; simp
 obtain⟨s0,s1,s2,s3⟩:=par_held hw0 b1;obtain⟨m0,m1,m2,m3,m4,m5⟩:=slo_held hw1 (Below.refl _ _);rw [z0] at m0 m1 m2 m3 m4 m5;have HB1:Hid (Below w.heap.size w w1):=bth b0 b1;by_cases hk:kn=1\/kn=2
 ·by_cases hi:0<=ix
  ·obtain⟨t,rfl⟩:∃ t:Nat,ix=(t:Int):=⟨ix.toNat,by omega⟩
   by_cases hi2:t<N
   ·have hi3:(t:Int)<(N:Int):=by omega
    by_cases hd:(dn:Int)=c
    ·subst hd;have HY:Hid (y=(vok N vn V && decide (st=mx V vn/\ce=V t))):=by
      show _=_;rw [<- HO.out];unfold okS vok;rw [<- Bool.decide_and];apply decide_eq_decide.2
      simp only [Int.toNat_natCast];constructor
      ·rintro⟨p,_,_,_,_,p6,p7⟩; exact⟨p,p6,p7⟩
      ·rintro⟨p,p6,p7⟩; exact⟨p,of_decide_eq_true (by rw [HK.out]; exact decide_eq_true hk),hi,by rw [p.1]; exact hi3,trivial,p6,p7⟩
     rcases hk with rfl | rfl
     ·skip
      go_enter Tryz.func280,Tryz.ntmps280
      go_wp2_with fail
      rw [<- hw0,<- hw1];clear hw0 hw1 b0 b1 z0;have SH:Hid (∀ v,Below w1.heap.size w1 v->(v.cell? ⟨w.heap.size,0,none⟩=some (.int .i64 k)/\v.cell? ⟨w.heap.size,1,none⟩=some (.int .i64 r)/\v.cell? ⟨w.heap.size,2,none⟩=some (.int .i64 (dn:Int))/\v.cell? ⟨w.heap.size,3,none⟩=some (.int .i64 q)/\v.cell? ⟨w.heap.size+1,0,none⟩=some (.int .u8 1)/\v.cell? ⟨w.heap.size+1,1,none⟩=some (.int .i64 (t:Int))/\v.cell? ⟨w.heap.size+1,5,none⟩=some (.slice bo dn cb))):=fun v hv'=>⟨held s0 hv',held s1 hv',held s2 hv',held s3 hv',held m0 hv',held m1 hv',held m5 hv'⟩
      have HN0:Hid (∀ w,Calls Tryz.prog 111 #[.agg #[.int .i64 k,.int .i64 r,.int .i64 (dn:Int),.int .i64 q]] w fun e w'=>e=.returned (.int .i64 (N:Int))/\Below w.heap.size w w'):=HNN;refine wp_region_noPanic (may_1ok w1 k r (dn:Int) q w.heap.size N t vn ca dn cb ce st ao bo SH.out HN0.out (by omega) (by simp) _ (fun _ _ _ h=>h) (fun wa ha=>NoPanic.normal ?_));all_goals (
       have hb2:=bth HB1.out ha;have HL':=HL _ (HV.out.below hb2).rd;obtain⟨a1,a2,a3,a4⟩:_/\_/\_/\_:=⟨held m1 ha,held m2 ha,held m3 ha,held m4 ha⟩
       obtain⟨a5,a6,a7,a8⟩:_/\_/\_/\_:=⟨held s0 ha,held s1 ha,held s2 ha,held s3 ha⟩
       by_cases hv:vok N vn V=true
       ·rw [if_pos hv] at HL';obtain⟨h3,h4⟩:vn=N/\∀ i,i<vn->1<=V i/\V i<=1073741824:=of_decide_eq_true hv;have hpos:0<mx V vn:=Int.lt_of_lt_of_le (by have:=(h4 t (by omega)).1; omega) (mx_ge (R:=V) (i:=t) (by omega));rw [hv,Bool.true_and] at HY;have hro:t<vn:=by omega
        obtain⟨mm,hmm⟩:∃ mm,mx V vn=mm:=⟨_,rfl⟩
        rw [hmm] at HL' hpos HY;clear hmm hv h4 h3;go_wp2_with fail
        refine HL'.mono ?_;rintro e wb ⟨rfl,hb3⟩;have hb4:=bth hb2 hb3;obtain⟨b,off,rfl,hcc⟩:=(HV.out.below hb4).rd (by omega);have ck:=hcc t hro;obtain⟨vt,hvt⟩:∃ vt,V t=vt:=⟨_,rfl⟩
        rw [hvt] at ck HY;obtain⟨e1,e2,e3,e4⟩:_/\_/\_/\_:=⟨held a1 hb3,held a2 hb3,held a3 hb3,held a4 hb3⟩
        have j1:(0:Int)<=(t:Int):=by omega
        have j2:(t:Int)<(vn:Int):=by omega
        have HB4:Hid (Below w.heap.size w wb):=hb4;clear hcc hvt HL' HL HNN SH HN0 ha hb2 hb3 hb4 a1 a2 a3 a4 s0 s1 s2 s3 m0 m1 m2 m3 m4 m5;go_wp2_with fail
        by_cases hst:st=mm
        ·go_quiet (fail)
         go_wp2;go_ret;refine⟨ret_bool ?_,HB4.out.trans (below_drewN _ _ _)⟩;rw [HY.out];by_cases hce:ce=vt
         ·rw [decide_eq_true (show st=mm/\ce=vt from⟨hst,hce⟩)]; simp [hce]
         ·rw [decide_eq_false (show ¬ (st=mm/\ce=vt) from fun h=>hce h.2)]; simp [hce]
        ·go_quiet (fail)
         go_wp2;go_ret;refine⟨ret_bool ?_,HB4.out.trans (below_drewN _ _ _)⟩;rw [HY.out,decide_eq_false (show ¬ (st=mm/\ce=vt) from fun h=>hst h.1)]
       ·rw [if_neg hv] at HL';rw [show vok N vn V=false by cases h:vok N vn V; rfl; exact absurd h hv,Bool.false_and] at HY;go_wp2_with fail
        refine HL'.mono ?_;rintro e wb ⟨rfl,hb3⟩;have HB4:Hid (Below w.heap.size w wb):=bth hb2 hb3;clear HL' HL HNN SH HN0 ha hb2 hb3;go_wp2_with fail
        go_quiet (fail)
        go_wp2;go_ret;exact⟨ret_bool HY.out.symm,HB4.out.trans (below_drewN _ _ _)⟩)
     ·skip
      go_enter Tryz.func280,Tryz.ntmps280
      go_wp2_with fail
      rw [<- hw0,<- hw1];clear hw0 hw1 b0 b1 z0;have SH:Hid (∀ v,Below w1.heap.size w1 v->(v.cell? ⟨w.heap.size,0,none⟩=some (.int .i64 k)/\v.cell? ⟨w.heap.size,1,none⟩=some (.int .i64 r)/\v.cell? ⟨w.heap.size,2,none⟩=some (.int .i64 (dn:Int))/\v.cell? ⟨w.heap.size,3,none⟩=some (.int .i64 q)/\v.cell? ⟨w.heap.size+1,0,none⟩=some (.int .u8 2)/\v.cell? ⟨w.heap.size+1,1,none⟩=some (.int .i64 (t:Int))/\v.cell? ⟨w.heap.size+1,5,none⟩=some (.slice bo dn cb))):=fun v hv'=>⟨held s0 hv',held s1 hv',held s2 hv',held s3 hv',held m0 hv',held m1 hv',held m5 hv'⟩
      have HN0:Hid (∀ w,Calls Tryz.prog 111 #[.agg #[.int .i64 k,.int .i64 r,.int .i64 (dn:Int),.int .i64 q]] w fun e w'=>e=.returned (.int .i64 (N:Int))/\Below w.heap.size w w'):=HNN;refine wp_region_noPanic (may_2ok w1 k r (dn:Int) q w.heap.size N t vn ca dn cb ce st ao bo SH.out HN0.out (by omega) (by simp) _ (fun _ _ _ h=>h) (fun wa ha=>NoPanic.normal ?_));all_goals (
       have hb2:=bth HB1.out ha;have HL':=HL _ (HV.out.below hb2).rd;obtain⟨a1,a2,a3,a4⟩:_/\_/\_/\_:=⟨held m1 ha,held m2 ha,held m3 ha,held m4 ha⟩
       obtain⟨a5,a6,a7,a8⟩:_/\_/\_/\_:=⟨held s0 ha,held s1 ha,held s2 ha,held s3 ha⟩
       by_cases hv:vok N vn V=true
       ·rw [if_pos hv] at HL';obtain⟨h3,h4⟩:vn=N/\∀ i,i<vn->1<=V i/\V i<=1073741824:=of_decide_eq_true hv;have hpos:0<mx V vn:=Int.lt_of_lt_of_le (by have:=(h4 t (by omega)).1; omega) (mx_ge (R:=V) (i:=t) (by omega));rw [hv,Bool.true_and] at HY;have hro:t<vn:=by omega
        obtain⟨mm,hmm⟩:∃ mm,mx V vn=mm:=⟨_,rfl⟩
        rw [hmm] at HL' hpos HY;clear hmm hv h4 h3;go_wp2_with fail
        refine HL'.mono ?_;rintro e wb ⟨rfl,hb3⟩;have hb4:=bth hb2 hb3;obtain⟨b,off,rfl,hcc⟩:=(HV.out.below hb4).rd (by omega);have ck:=hcc t hro;obtain⟨vt,hvt⟩:∃ vt,V t=vt:=⟨_,rfl⟩
        rw [hvt] at ck HY;obtain⟨e1,e2,e3,e4⟩:_/\_/\_/\_:=⟨held a1 hb3,held a2 hb3,held a3 hb3,held a4 hb3⟩
        have j1:(0:Int)<=(t:Int):=by omega
        have j2:(t:Int)<(vn:Int):=by omega
        have HB4:Hid (Below w.heap.size w wb):=hb4;clear hcc hvt HL' HL HNN SH HN0 ha hb2 hb3 hb4 a1 a2 a3 a4 s0 s1 s2 s3 m0 m1 m2 m3 m4 m5;go_wp2_with fail
        by_cases hst:st=mm
        ·go_quiet (fail)
         go_wp2;go_ret;refine⟨ret_bool ?_,HB4.out.trans (below_drewN _ _ _)⟩;rw [HY.out];by_cases hce:ce=vt
         ·rw [decide_eq_true (show st=mm/\ce=vt from⟨hst,hce⟩)]; simp [hce]
         ·rw [decide_eq_false (show ¬ (st=mm/\ce=vt) from fun h=>hce h.2)]; simp [hce]
        ·go_quiet (fail)
         go_wp2;go_ret;refine⟨ret_bool ?_,HB4.out.trans (below_drewN _ _ _)⟩;rw [HY.out,decide_eq_false (show ¬ (st=mm/\ce=vt) from fun h=>hst h.1)]
       ·rw [if_neg hv] at HL';rw [show vok N vn V=false by cases h:vok N vn V; rfl; exact absurd h hv,Bool.false_and] at HY;go_wp2_with fail
        refine HL'.mono ?_;rintro e wb ⟨rfl,hb3⟩;have HB4:Hid (Below w.heap.size w wb):=bth hb2 hb3;clear HL' HL HNN SH HN0 ha hb2 hb3;go_wp2_with fail
        go_quiet (fail)
        go_wp2;go_ret;exact⟨ret_bool HY.out.symm,HB4.out.trans (below_drewN _ _ _)⟩)
    ·skip
     have HY:Hid (y=false):=by
      show _=_;rw [<- HO.out];exact decide_eq_false fun⟨p1,p2,p3,p4,p5,p6,p7⟩=>hd p5
     have hd2:((dn:Int) != c)=true:=by simpa using hd
     rcases hk with rfl | rfl
     ·skip
      go_enter Tryz.func280,Tryz.ntmps280
      go_wp2_with fail
      rw [<- hw0,<- hw1];clear hw0 hw1 b0 b1 z0;have SH:Hid (∀ v,Below w1.heap.size w1 v->(v.cell? ⟨w.heap.size,0,none⟩=some (.int .i64 k)/\v.cell? ⟨w.heap.size,1,none⟩=some (.int .i64 r)/\v.cell? ⟨w.heap.size,2,none⟩=some (.int .i64 c)/\v.cell? ⟨w.heap.size,3,none⟩=some (.int .i64 q)/\v.cell? ⟨w.heap.size+1,0,none⟩=some (.int .u8 1)/\v.cell? ⟨w.heap.size+1,1,none⟩=some (.int .i64 (t:Int))/\v.cell? ⟨w.heap.size+1,5,none⟩=some (.slice bo dn cb))):=fun v hv'=>⟨held s0 hv',held s1 hv',held s2 hv',held s3 hv',held m0 hv',held m1 hv',held m5 hv'⟩
      have HN0:Hid (∀ w,Calls Tryz.prog 111 #[.agg #[.int .i64 k,.int .i64 r,.int .i64 c,.int .i64 q]] w fun e w'=>e=.returned (.int .i64 (N:Int))/\Below w.heap.size w w'):=HNN;refine wp_region_noPanic (may_1ne w1 k r c q w.heap.size N t vn ca dn cb ce st ao bo SH.out HN0.out (by omega) hd2 _ (fun _ _ _ h=>h) (fun wa ha=>NoPanic.normal ?_));all_goals (
       have hb2:=bth HB1.out ha;go_wp2;go_ret;exact⟨ret_bool HY.out.symm,hb2⟩)
     ·skip
      go_enter Tryz.func280,Tryz.ntmps280
      go_wp2_with fail
      rw [<- hw0,<- hw1];clear hw0 hw1 b0 b1 z0;have SH:Hid (∀ v,Below w1.heap.size w1 v->(v.cell? ⟨w.heap.size,0,none⟩=some (.int .i64 k)/\v.cell? ⟨w.heap.size,1,none⟩=some (.int .i64 r)/\v.cell? ⟨w.heap.size,2,none⟩=some (.int .i64 c)/\v.cell? ⟨w.heap.size,3,none⟩=some (.int .i64 q)/\v.cell? ⟨w.heap.size+1,0,none⟩=some (.int .u8 2)/\v.cell? ⟨w.heap.size+1,1,none⟩=some (.int .i64 (t:Int))/\v.cell? ⟨w.heap.size+1,5,none⟩=some (.slice bo dn cb))):=fun v hv'=>⟨held s0 hv',held s1 hv',held s2 hv',held s3 hv',held m0 hv',held m1 hv',held m5 hv'⟩
      have HN0:Hid (∀ w,Calls Tryz.prog 111 #[.agg #[.int .i64 k,.int .i64 r,.int .i64 c,.int .i64 q]] w fun e w'=>e=.returned (.int .i64 (N:Int))/\Below w.heap.size w w'):=HNN;refine wp_region_noPanic (may_2ne w1 k r c q w.heap.size N t vn ca dn cb ce st ao bo SH.out HN0.out (by omega) hd2 _ (fun _ _ _ h=>h) (fun wa ha=>NoPanic.normal ?_));all_goals (
       have hb2:=bth HB1.out ha;go_wp2;go_ret;exact⟨ret_bool HY.out.symm,hb2⟩)
   ·skip
    have HY:Hid (y=false):=by
     show _=_;rw [<- HO.out];exact decide_eq_false fun⟨p1,p2,p3,p4,p5,p6,p7⟩=>hi2 (by have h1:vn=N:=p1.1; have h2:(t:Int)<(vn:Int):=p4; omega)
    have hi3:(N:Int)<=(t:Int):=by omega
    rcases hk with rfl | rfl
    ·skip
     go_enter Tryz.func280,Tryz.ntmps280
     go_wp2_with fail
     rw [<- hw0,<- hw1];clear hw0 hw1 b0 b1 z0;have SH:Hid (∀ v,Below w1.heap.size w1 v->(v.cell? ⟨w.heap.size,0,none⟩=some (.int .i64 k)/\v.cell? ⟨w.heap.size,1,none⟩=some (.int .i64 r)/\v.cell? ⟨w.heap.size,2,none⟩=some (.int .i64 c)/\v.cell? ⟨w.heap.size,3,none⟩=some (.int .i64 q)/\v.cell? ⟨w.heap.size+1,0,none⟩=some (.int .u8 1)/\v.cell? ⟨w.heap.size+1,1,none⟩=some (.int .i64 (t:Int))/\v.cell? ⟨w.heap.size+1,5,none⟩=some (.slice bo dn cb))):=fun v hv'=>⟨held s0 hv',held s1 hv',held s2 hv',held s3 hv',held m0 hv',held m1 hv',held m5 hv'⟩
     have HN0:Hid (∀ w,Calls Tryz.prog 111 #[.agg #[.int .i64 k,.int .i64 r,.int .i64 c,.int .i64 q]] w fun e w'=>e=.returned (.int .i64 (N:Int))/\Below w.heap.size w w'):=HNN;refine wp_region_noPanic (may_1big w1 k r c q w.heap.size N t vn ca dn cb ce st ao bo SH.out HN0.out (by omega) _ (fun _ _ _ h=>h) (fun wa ha=>NoPanic.normal ?_));all_goals (
      have hb2:=bth HB1.out ha;go_wp2;go_ret;exact⟨ret_bool HY.out.symm,hb2⟩)
    ·skip
     go_enter Tryz.func280,Tryz.ntmps280
     go_wp2_with fail
     rw [<- hw0,<- hw1];clear hw0 hw1 b0 b1 z0;have SH:Hid (∀ v,Below w1.heap.size w1 v->(v.cell? ⟨w.heap.size,0,none⟩=some (.int .i64 k)/\v.cell? ⟨w.heap.size,1,none⟩=some (.int .i64 r)/\v.cell? ⟨w.heap.size,2,none⟩=some (.int .i64 c)/\v.cell? ⟨w.heap.size,3,none⟩=some (.int .i64 q)/\v.cell? ⟨w.heap.size+1,0,none⟩=some (.int .u8 2)/\v.cell? ⟨w.heap.size+1,1,none⟩=some (.int .i64 (t:Int))/\v.cell? ⟨w.heap.size+1,5,none⟩=some (.slice bo dn cb))):=fun v hv'=>⟨held s0 hv',held s1 hv',held s2 hv',held s3 hv',held m0 hv',held m1 hv',held m5 hv'⟩
     have HN0:Hid (∀ w,Calls Tryz.prog 111 #[.agg #[.int .i64 k,.int .i64 r,.int .i64 c,.int .i64 q]] w fun e w'=>e=.returned (.int .i64 (N:Int))/\Below w.heap.size w w'):=HNN;refine wp_region_noPanic (may_2big w1 k r c q w.heap.size N t vn ca dn cb ce st ao bo SH.out HN0.out (by omega) _ (fun _ _ _ h=>h) (fun wa ha=>NoPanic.normal ?_));all_goals (
      have hb2:=bth HB1.out ha;go_wp2;go_ret;exact⟨ret_bool HY.out.symm,hb2⟩)
  ·skip
   have HY:Hid (y=false):=by
    show _=_;rw [<- HO.out];exact decide_eq_false fun⟨p1,p2,p3,p4,p5,p6,p7⟩=>hi p3
   have hi3:ix<0:=by omega
   rcases hk with rfl | rfl
   all_goals (
    go_enter Tryz.func280,Tryz.ntmps280
    go_wp2_with fail
    rw [<- hw0,<- hw1];clear hw0 hw1 b0 b1 z0;go_quiet (fail)
    go_wp2;go_ret;exact⟨ret_bool HY.out.symm,HB1.out.trans (below_drewN _ _ _)⟩)
 ·skip
  have HY:Hid (y=false):=by
   show _=_;rw [<- HO.out];exact decide_eq_false fun⟨p1,p2,p3,p4,p5,p6,p7⟩=>hk (of_decide_eq_true (by rw [<- HK.out]; exact decide_eq_true p2))
  have hk1:¬ kn=1:=fun h=>hk (.inl h);have hk2:¬ kn=2:=fun h=>hk (.inr h);have hk3:(kn != 1)=true:=by simpa using hk1
  have hk4:(kn != 2)=true:=by simpa using hk2
  clear hk;go_enter Tryz.func280,Tryz.ntmps280
  go_wp2_with fail
  rw [<- hw0,<- hw1];clear hw0 hw1 b0 b1 z0;go_quiet (fail)
  go_wp2;go_ret;exact⟨ret_bool HY.out.symm,HB1.out.trans (below_drewN _ _ _)⟩
end Go.Proofs.YtemlojjkokooeaaGreat
