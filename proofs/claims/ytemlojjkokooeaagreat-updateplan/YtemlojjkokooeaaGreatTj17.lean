import Derived.Test.YtemlojjkokooeaaGreatTj14
import Derived.Test.YtemlojjkokooeaaGreatTj16
set_option maxHeartbeats 8000000
set_option maxRecDepth 100000
namespace Go.Proofs.YtemlojjkokooeaaGreat
open Go.RowKit
theorem only_stay_own{B:Nat}{v v':World}{b:Nat}{ao:Option Addr}{n cap:Nat}{R:Nat->Int}(h:Own B v ao n cap R)(ho:Only (fun x=>x=b) v v')(hb:b<B):Own B v' ao n cap R:=h.stay fun g hg hl=>ho.block g hl (by omega)
theorem only_stay_owu{B:Nat}{v v':World}{b:Nat}{ao:Option Addr}{n cap:Nat}{F:Nat->UInt8}(h:OwU B v ao n cap F)(ho:Only (fun x=>x=b) v v')(hb:b<B):OwU B v' ao n cap F:=h.stay fun g hg hl=>ho.block g hl (by omega)
theorem RSlot_any{k r c q:Int}{N W:Nat}(h:Par k r c q N W 0)(w:World)(bo:Option Addr)(n cb:Nat)(F:Nat->UInt8)(hb:Bec w bo n cb F)(hnn:n<=9223372036854775807)(i:Bool)(hi:isS N c n F=i)(z:Sl)(hz:slQ i N c F=z):
  Calls Tryz.prog 206 #[.agg #[.int .i64 k,.int .i64 r,.int .i64 c,.int .i64 q],.slice bo n cb] w fun e w'=>∃ ao ca yo yc,e=.returned (.tuple #[slv z ao ca yo yc,.bool i])/\Got w.heap.size w' z ao ca yo yc/\Below w.heap.size w w':=by
 have hN:=h.few;have hN1:=h.some rfl;have hc:=h.cell rfl;obtain⟨m0,hm0⟩:∃ m0,m0=sz N c:=⟨_,rfl⟩
 have hm2:m0=12+4*N+c.toNat:=hm0;have HZ:Hid (∀ w,Calls Tryz.prog 263 #[.agg #[.int .i64 k,.int .i64 r,.int .i64 c,.int .i64 q]] w fun e w'=>e=.returned (.int .i64 (m0:Int))/\Below w.heap.size w w'):=fun w=>by rw [hm0]; exact Size6_any h w
 obtain⟨w0,hw0⟩:∃ w0,w0=w.alloc (.cells #[.int .i64 k,.int .i64 r,.int .i64 c,.int .i64 q] 23):=⟨_,rfl⟩
 obtain⟨w1,hw1⟩:∃ w1,w1=w0.alloc (.cells #[.int .u8 0,.int .i64 0,.int .i64 0,.int .i64 0,.slice none 0 0,.slice none 0 0] 107):=⟨_,rfl⟩
 have b0:Below w.heap.size w w0:=by rw [hw0]; exact bal _ _
 have b1:Below w0.heap.size w0 w1:=by rw [hw1]; exact bal _ _
 have z0:w0.heap.size=w.heap.size+1:=by rw [hw0]; simp
 have z1:w1.heap.size=w.heap.size+2:=by rw [hw1]; simp [z0]
 have C0:Hid (Cel w1 w.heap.size [.int .i64 k,.int .i64 r,.int .i64 c,.int .i64 q]):=(cel_new hw0).below b1;have HAT:Hid (∀ v,Below w1.heap.size w1 v->At w0 v (w.heap.size+1) #[.int .u8 0,.int .i64 0,.int .i64 0,.int .i64 0,.slice none 0 0,.slice none 0 0] 107):=fun v hv=>by rw [<- z0,hw1] at *; exact(at_new (Below.refl _ _) _ _).below hv
 have HB1:Hid (Below w.heap.size w w1):=bth b0 b1;have HZ1:Hid (w1.heap.size=w.heap.size+2):=z1;by_cases hnm:n=m0
 ·subst hnm;obtain⟨g,o,rfl,hr⟩:=hb.rd (by omega);have HR:Hid (∀ j,j<n->w.cell? ⟨g,o+j,none⟩=some (.int .u8 (((F j).toNat:Nat):Int))):=hr;have hroom:=hb.room;have hn12:12<=n:=by omega
  by_cases hF0:F 0=84
  ·by_cases hF1:F 1=50
   ·have e0:(((F 0).toNat:Nat):Int)=84:=by rw [hF0]; rfl
    have e1:(((F 1).toNat:Nat):Int)=50:=by rw [hF1]; rfl
    obtain⟨d,hd⟩:∃ d,d=c.toNat:=⟨_,rfl⟩
    have hd1:8<=d:=by omega
    have hd2:d<=64:=by omega
    have HND:Hid (n=12+4*N+d/\n<=1000):=by constructor <;> omega
    obtain⟨y,hy⟩:∃ y,okS N c (dec N c F)=y:=⟨_,rfl⟩
    have hiy:i=y:=by
     rw [<- hi,<- hy];unfold isS;cases e:okS N c (dec N c F)
     ·exact decide_eq_false fun h=>by cases h.2.2.2
     ·exact decide_eq_true ⟨hm0,hF0,hF1,rfl⟩
    subst hiy;obtain⟨kn,hkn⟩:∃ kn:Nat,(F 2).toNat=kn:=⟨_,rfl⟩
    obtain⟨x1,hx1⟩:∃ x1:Nat,(F 3).toNat=x1:=⟨_,rfl⟩
    obtain⟨x2,hx2⟩:∃ x2,x2=nm F 4 4:=⟨_,rfl⟩
    obtain⟨x3,hx3⟩:∃ x3,x3=nm F 8 4:=⟨_,rfl⟩
    have hx1l:x1<256:=by rw [<- hx1]; exact(F 3).toNat_lt
    have HDD:Hid (∀ vo vc yo yc,slv (dec N c F) vo vc yo yc=.agg #[.int .u8 (kn:Int),.int .i64 (x1:Int),.int .i64 (x2:Int),.int .i64 (x3:Int),.slice vo N vc,.slice yo d yc]):=fun _ _ _ _=>by
     have:nm F 3 1=x1:=by rw [nm,nm,<- hx1]; simp
     rw [hd,hx2,hx3,<- hkn,<- this]; rfl
    have HGG:Hid (∀ B v vo vc yo yc,Own B v vo N vc (vf F N)->OwU B v yo d yc (fun j=>F (12+4*N+j))->Got B v (dec N c F) vo vc yo yc):=fun B v vo vc yo yc h1 h2 =>
     ⟨h1.congr fun i hi=>by unfold vf; rw [if_pos hi]; rfl,by rw [hd] at h2; exact h2⟩
    have HMY:Hid (∀ v vo vc yo yc,Has v (dec N c F) vo vc yo yc->Calls Tryz.prog 280 #[.agg #[.int .i64 k,.int .i64 r,.int .i64 c,.int .i64 q],.agg #[.int .u8 (kn:Int),.int .i64 (x1:Int),.int .i64 (x2:Int),.int .i64 (x3:Int),.slice vo N vc,.slice yo d yc]] v fun e w'=>e=.returned (.bool i)/\Below v.heap.size v w'):=fun v vo vc yo yc hs=>by
     have:=RMay_any h v (dec N c F) vo vc yo yc hs i hy;rw [HDD.out] at this;exact this
    have HZQ:Hid (z=if i=true then dec N c F else zSl):=by show _=_; rw [<- hz]; rfl
    have HNC:Hid (∀ w,Calls Tryz.prog 111 #[.agg #[.int .i64 k,.int .i64 r,.int .i64 c,.int .i64 q]] w fun e w'=>e=.returned (.int .i64 (N:Int))/\Below w.heap.size w w'):=fun w=>N_any c q h.sum hN w;have HNUM:Hid (∀ v a,a+4<=n->Below w.heap.size w v->Calls Tryz.prog 279 #[.slice (some ⟨g,o,none⟩) n cb,.int .i64 (a:Int)] v fun e w'=>e=.returned (.int .i64 ((nm F a 4:Nat):Int))/\Below v.heap.size v w'):=fun v a ha hv=>number_any v _ n cb a F (fun _=>⟨g,o,rfl,fun j hj=>held (HR.out j hj) hv⟩) ha HND.out.2;have HX23:Hid (x2=nm F 4 4/\x3=nm F 8 4):=⟨hx2,hx3⟩
    have HK12:Hid ((F 2).toNat=kn/\(F 3).toNat=x1):=⟨hkn,hx1⟩
    clear hi hz hm0 hm2 hb hr h hd hy hkn hx1 hx2 hx3 hF0 hF1 hc;go_enter Tryz.func206,Tryz.ntmps206
    go_wp2_with fail
    rw [<- hw0,<- hw1];refine(HZ.out _).mono ?_;rintro e wa ⟨rfl,ha⟩;have HA:Hid (Below w1.heap.size w1 wa):=ha;have HWA:Hid (Below w.heap.size w wa):=bth HB1.out ha;clear hw0 hw1 b0 b1 z0 z1 ha;have ck:=held (HR.out 0 (by omega)) HWA.out;rw [Nat.add_zero,e0] at ck;have ck1:=held (HR.out 1 (by omega)) HWA.out;rw [e1] at ck1;have j0:(0:Int)<(n:Int):=by omega
    have j1:0<n:=by omega
    have j2:(1:Int)<(n:Int):=by omega
    have j3:1<n:=by omega
    go_wp2_with fail
    have KS:Hid (∀ v,Below wa.heap.size wa v->(v.cell? ⟨g,o+2,none⟩=some (.int .u8 (kn:Int))/\v.cell? ⟨g,o+3,none⟩=some (.int .u8 (x1:Int)))):=fun v hv=>by
     have h2:=held (HR.out 2 (by omega)) (bth HWA.out hv);have h3:=held (HR.out 3 (by omega)) (bth HWA.out hv);rw [HK12.out.1] at h2;rw [HK12.out.2] at h3;exact⟨h2,h3⟩
    refine wp_region_noPanic (nums_region wa k r c q g o n cb w.heap.size kn x1 x2 x3 KS.out (fun v hv=>by rw [HX23.out.1]; exact HNUM.out v 4 (by omega) (bth HWA.out hv)) (fun v hv=>by rw [HX23.out.2]; exact HNUM.out v 8 (by omega) (bth HWA.out hv)) (by omega) (by omega) hx1l _ (fun _ _ _ h=>h) (fun g3 wb hb f3=>NoPanic.normal ?_));have HBB:Hid (Below wa.heap.size wa wb):=hb;have HF3:Hid (At wa wb g3 #[.int .u8 (kn:Int),.int .i64 (x1:Int),.int .i64 (x2:Int),.int .i64 (x3:Int),.slice none 0 0,.slice none 0 0] 107):=f3;clear hb f3 ck ck1 KS;have pc:=(C0.out.below HA.out).below HBB.out;have p0:=pc 0 _ rfl;have p1:=pc 1 _ rfl;have p2:=pc 2 _ rfl;have p3:=pc 3 _ rfl;clear pc;go_wp2_with fail
    refine(HNC.out _).mono ?_;rintro e wc ⟨rfl,hc⟩;have HBC:Hid (Below wa.heap.size wa wc):=bth HBB.out hc;have HFC:Hid (At wa wc g3 #[.int .u8 (kn:Int),.int .i64 (x1:Int),.int .i64 (x2:Int),.int .i64 (x3:Int),.slice none 0 0,.slice none 0 0] 107):=HF3.out.below hc;clear hc HF3 HBB;clear p0 p1 p2 p3;go_wp2_with fail
    go_loopw [8] (fun x wr=>∃ i:Nat,i<=N/\x=.int .i64 (i:Int)/\(∃ vo vc,Hid (Own wa.heap.size wr vo i vc (vf F i))/\Hid (At wa wr g3 #[.int .u8 (kn:Int),.int .i64 (x1:Int),.int .i64 (x2:Int),.int .i64 (x3:Int),.slice vo i vc,.slice none 0 0] 107))/\Hid (Below wa.heap.size wa wr)) (fun x _=>N-(intOf x).toNat)
    case atStart=>exact⟨0,Nat.zero_le _,rfl,⟨none,0,own_nil _ _ _,HFC⟩,HBC⟩
    case round =>
     obtain⟨j,hj,rfl,⟨vo,vc,hO,hA3⟩,hW⟩:=hrel;by_cases hlt:j<N
     ·have hjj:(j:Int)<(N:Int):=by omega
      obtain⟨xi,hxi⟩:∃ xi:Int,xi=((nm F (12+4*j) 4:Nat):Int):=⟨_,rfl⟩
      have HPV:Hid (∀ v,Below wa.heap.size wa v->Calls Tryz.prog 279 #[.slice (some ⟨g,o,none⟩) n cb,.int .i64 (12+4*(j:Int))] v fun e w'=>e=.returned (.int .i64 xi)/\Below v.heap.size v w'):=fun v hv=>by
       have:=HNUM.out v (12+4*j) (by have:=HND.out.1; omega) (bth HWA.out hv);rw [show ((12+4*j:Nat):Int)=12+4*(j:Int) by omega] at this;rw [hxi]; exact this
      have HTT:Hid (zOf j (vf F j) ++ [.int .i64 xi]=zOf (j+1) (vf F (j+1))):=by
       show _=_;rw [zOf_succ,hxi];congr 1
       ·exact zOf_congr fun t ht=>by unfold vf; rw [if_pos ht,if_pos (by omega)]
       ·unfold vf; rw [if_pos (by omega)]
      clear hxi;go_wp2_with fail
      refine wp_region_noPanic (vers_region wa wr k r c q g o n cb w.heap.size kn x1 x2 x3 N j vc g3 xi vo (vf F j) (vf F (j+1)) _ _ _ _ _ _ _ _ _ _ _ _ hW.out hO.out hA3.out HPV.out (by omega) HTT.out _ (fun _ _ _ h=>h) (fun g2 c2 gb v hbv hov hav=>NoPanic.normal ?_));have HBV:Hid (Below wa.heap.size wa v):=hbv;have HOV:Hid (Own wa.heap.size v (some ⟨g2,0,none⟩) (j+1) c2 (vf F (j+1))):=hov;have HAV:Hid (At wa v g3 #[.int .u8 (kn:Int),.int .i64 (x1:Int),.int .i64 (x2:Int),.int .i64 (x3:Int),.slice (some ⟨g2,0,none⟩) (j+1) c2,.slice none 0 0] 107):=hav;clear hbv hov hav HPV HTT;go_wp2_with fail
      go_roundw
      case rel=>exact⟨j+1,by omega,by go_num,⟨_,_,HOV,HAV⟩,HBV⟩
      case measure=>simp [intOf]; omega
     ·obtain rfl:N=j:=by omega
      have hjj:¬ (N:Int)<(N:Int):=by omega
      obtain⟨m,hm⟩:∃ m,m=12+4*N:=⟨_,rfl⟩
      have HMM:Hid (m=12+4*N):=hm;clear hm;go_wp2_with fail
      refine wp_region_noPanic (data_region wa wr k r c q g o n cb w.heap.size kn x1 x2 x3 N m d vc g3 vo (vf F N) (fun j=>F (12+4*N+j)) _ _ _ _ _ _ _ _ _ _ _ _ hW.out hO.out hA3.out (fun j hj=>by rw [show o+m+j=o+(12+4*N+j) by rw [HMM.out]; omega]; exact held (HR.out _ (by have:=HND.out.1; omega)) HWA.out) hN HMM.out (by rw [HMM.out]; exact HND.out.1) hd1 hd2 hroom _ (fun _ _ _ h=>h) (fun g2 c2 v hbv hov hdv hav=>NoPanic.normal ?_));have HBV:Hid (Below wa.heap.size wa v):=hbv;have HGV:Hid (Got wa.heap.size v (dec N c F) vo vc (some ⟨g2,0,none⟩) c2):=HGG.out _ v _ _ _ _ hov hdv;have HAV:Hid (At wa v g3 #[.int .u8 (kn:Int),.int .i64 (x1:Int),.int .i64 (x2:Int),.int .i64 (x3:Int),.slice vo N vc,.slice (some ⟨g2,0,none⟩) d c2] 107):=hav;clear hbv hov hdv hav hO hA3 hW;have pc:=(C0.out.below HA.out).below HBV.out;have p0:=pc 0 _ rfl;have p1:=pc 1 _ rfl;have p2:=pc 2 _ rfl;have p3:=pc 3 _ rfl;clear pc;have sa:=HAV.out;have s0:=sa.cell (i:=0) rfl;have s1:=sa.cell (i:=1) rfl;have s2:=sa.cell (i:=2) rfl;have s3:=sa.cell (i:=3) rfl;have s4:=sa.cell (i:=4) rfl;have s5:=sa.cell (i:=5) rfl;have sf:=sa.free;clear sa;go_wp2_with fail
      refine(HMY.out _ vo vc _ c2 HGV.out.has).mono ?_;rintro e wy ⟨rfl,hy⟩;have HBY:Hid (Below wa.heap.size wa wy):=bth HBV.out hy;have HGY:Hid (Got wa.heap.size wy (dec N c F) vo vc (some ⟨g2,0,none⟩) c2):=HGV.out.below hy;have HAY:Hid (At wa wy g3 #[.int .u8 (kn:Int),.int .i64 (x1:Int),.int .i64 (x2:Int),.int .i64 (x3:Int),.slice vo N vc,.slice (some ⟨g2,0,none⟩) d c2] 107):=HAV.out.below hy;have HWY:Hid (Below w.heap.size w wy):=bth HWA.out HBY.out;have HZA:Hid (w.heap.size+2<=wa.heap.size):=by show _<=_; rw [<- HZ1.out]; exact HA.out.size
      clear hy HBV HGV HAV;clear p0 p1 p2 p3;clear s0 s1 s2 s3 s4 s5;clear sf;have yya:=HAT.out wy (bth HA.out HBY.out);have yy0:=yya.cell (i:=0) rfl;have yy1:=yya.cell (i:=1) rfl;have yy2:=yya.cell (i:=2) rfl;have yy3:=yya.cell (i:=3) rfl;have yy4:=yya.cell (i:=4) rfl;have yy5:=yya.cell (i:=5) rfl;have yyf:=yya.free;clear yya;have sa:=HAY.out;have s0:=sa.cell (i:=0) rfl;have s1:=sa.cell (i:=1) rfl;have s2:=sa.cell (i:=2) rfl;have s3:=sa.cell (i:=3) rfl;have s4:=sa.cell (i:=4) rfl;have s5:=sa.cell (i:=5) rfl;have sf:=sa.free;clear sa;have n1:¬ g3=w.heap.size+1:=by have:=HAY.out.1; have:=HZA.out; omega
      have n2:¬ w.heap.size+1=g3:=by omega
      cases i
      ·obtain rfl:z=zSl:=HZQ.out;go_wp2_with fail
       refine bodyPost_ret (v:=.tuple #[.agg #[.int .u8 0,.int .i64 0,.int .i64 0,.int .i64 0,.slice none 0 0,.slice none 0 0],.bool false]) (by simp [results,Tryz.results206,go_sem,yy0,yy1,yy2,yy3,yy4,yy5]) rfl ?_;exact⟨none,0,none,0,rfl,got_z _ _,b_at (b_at (b_at (b_at (b_at (b_at HWY.out (Nat.le_succ _) _) (Nat.le_succ _) _) (Nat.le_succ _) _) (Nat.le_succ _) _) (Nat.le_succ _) _) (Nat.le_succ _) _⟩
      ·obtain rfl:z=dec N c F:=HZQ.out;go_wp2_with fail
       refine bodyPost_ret (v:=.tuple #[.agg #[.int .u8 (kn:Int),.int .i64 (x1:Int),.int .i64 (x2:Int),.int .i64 (x3:Int),.slice vo N vc,.slice (some ⟨g2,0,none⟩) d c2],.bool true]) (by simp [results,Tryz.results206,go_sem,yy0,yy1,yy2,yy3,yy4,yy5]) rfl ?_;refine⟨vo,vc,some ⟨g2,0,none⟩,c2,by rw [HDD.out],⟨?_,?_⟩,b_at (b_at (b_at (b_at (b_at (b_at HWY.out (Nat.le_succ _) _) (Nat.le_succ _) _) (Nat.le_succ _) _) (Nat.le_succ _) _) (Nat.le_succ _) _) (Nat.le_succ _) _⟩
       ·refine Own.mono (B:=wa.heap.size) (only_stay_own (b:=w.heap.size+1) HGY.out.vec ?_ (by have:=HZA.out; omega)) (by have:=HZA.out; omega);exact only6 _ _ _ _ _ _ _ _
       ·refine OwU.mono (B:=wa.heap.size) (only_stay_owu (b:=w.heap.size+1) HGY.out.bec ?_ (by have:=HZA.out; omega)) (by have:=HZA.out; omega);exact only6 _ _ _ _ _ _ _ _
   ·have hb1:¬ (((F 1).toNat:Nat):Int)=50:=fun e=>hF1 (UInt8.toNat_inj.1 (by have:(50:UInt8).toNat=50:=rfl; omega));have hb2:((((F 1).toNat:Nat):Int) != 50)=true:=by simpa using hb1
    obtain rfl:i=false:=by rw [<- hi]; exact decide_eq_false fun h=>hF1 h.2.2.1
    obtain rfl:z=zSl:=hz.symm;have e0:(((F 0).toNat:Nat):Int)=84:=by rw [hF0]; rfl
    obtain⟨u1,hu1⟩:∃ u1:Nat,(F 1).toNat=u1:=⟨_,rfl⟩
    rw [hu1] at hb1 hb2;have HU1:Hid ((F 1).toNat=u1):=hu1;unfold slv zSl;clear hi hz hm0 hm2 hb hr h hu1;go_enter Tryz.func206,Tryz.ntmps206
    go_wp2_with fail
    rw [<- hw0,<- hw1];refine(HZ.out _).mono ?_;rintro e wa ⟨rfl,ha⟩;have HA:Hid (Below w1.heap.size w1 wa):=ha;have HWA:Hid (Below w.heap.size w wa):=bth HB1.out ha;clear hw0 hw1 b0 b1 z0 z1 ha;have ck:=held (HR.out 0 (by omega)) HWA.out;rw [Nat.add_zero,e0] at ck;have ck1:=held (HR.out 1 (by omega)) HWA.out;rw [HU1.out] at ck1;have j0:(0:Int)<(n:Int):=by omega
    have j1:0<n:=by omega
    have j2:(1:Int)<(n:Int):=by omega
    have j3:1<n:=by omega
    have ca:=HAT.out wa HA.out;have c0:=ca.cell (i:=0) rfl;have c1:=ca.cell (i:=1) rfl;have c2:=ca.cell (i:=2) rfl;have c3:=ca.cell (i:=3) rfl;have c4:=ca.cell (i:=4) rfl;have c5:=ca.cell (i:=5) rfl;have cf:=ca.free;clear ca;go_wp2_with fail
    refine bodyPost_ret (v:=.tuple #[.agg #[.int .u8 0,.int .i64 0,.int .i64 0,.int .i64 0,.slice none 0 0,.slice none 0 0],.bool false]) (by simp [results,Tryz.results206,go_sem,c0,c1,c2,c3,c4,c5]) rfl ?_;exact⟨none,0,none,0,rfl,got_z _ _,b_at (b_at (b_at (b_at (b_at (b_at HWA.out (Nat.le_succ _) _) (Nat.le_succ _) _) (Nat.le_succ _) _) (Nat.le_succ _) _) (Nat.le_succ _) _) (Nat.le_succ _) _⟩
  ·have hb1:¬ (((F 0).toNat:Nat):Int)=84:=fun e=>hF0 (UInt8.toNat_inj.1 (by have:(84:UInt8).toNat=84:=rfl; omega));have hb2:((((F 0).toNat:Nat):Int) != 84)=true:=by simpa using hb1
   obtain rfl:i=false:=by rw [<- hi]; exact decide_eq_false fun h=>hF0 h.2.1
   obtain rfl:z=zSl:=hz.symm;obtain⟨u0,hu0⟩:∃ u0:Nat,(F 0).toNat=u0:=⟨_,rfl⟩
   rw [hu0] at hb1 hb2;have HU0:Hid ((F 0).toNat=u0):=hu0;unfold slv zSl;clear hi hz hm0 hm2 hb hr h hu0;go_enter Tryz.func206,Tryz.ntmps206
   go_wp2_with fail
   rw [<- hw0,<- hw1];refine(HZ.out _).mono ?_;rintro e wa ⟨rfl,ha⟩;have HA:Hid (Below w1.heap.size w1 wa):=ha;have HWA:Hid (Below w.heap.size w wa):=bth HB1.out ha;clear hw0 hw1 b0 b1 z0 z1 ha;have ck:=held (HR.out 0 (by omega)) HWA.out;rw [Nat.add_zero,HU0.out] at ck;have j0:(0:Int)<(n:Int):=by omega
   have j1:0<n:=by omega
   have ca:=HAT.out wa HA.out;have c0:=ca.cell (i:=0) rfl;have c1:=ca.cell (i:=1) rfl;have c2:=ca.cell (i:=2) rfl;have c3:=ca.cell (i:=3) rfl;have c4:=ca.cell (i:=4) rfl;have c5:=ca.cell (i:=5) rfl;have cf:=ca.free;clear ca;go_wp2_with fail
   refine bodyPost_ret (v:=.tuple #[.agg #[.int .u8 0,.int .i64 0,.int .i64 0,.int .i64 0,.slice none 0 0,.slice none 0 0],.bool false]) (by simp [results,Tryz.results206,go_sem,c0,c1,c2,c3,c4,c5]) rfl ?_;exact⟨none,0,none,0,rfl,got_z _ _,b_at (b_at (b_at (b_at (b_at (b_at HWA.out (Nat.le_succ _) _) (Nat.le_succ _) _) (Nat.le_succ _) _) (Nat.le_succ _) _) (Nat.le_succ _) _) (Nat.le_succ _) _⟩
 ·obtain rfl:i=false:=by rw [<- hi]; exact decide_eq_false fun h=>hnm (by rw [hm0]; exact h.1)
  obtain rfl:z=zSl:=hz.symm;unfold slv zSl;have hn2:((n:Int) != (m0:Int))=true:=by simp only [bne_iff_ne]; omega
  clear hi hz hm0 hm2 hb h;go_enter Tryz.func206,Tryz.ntmps206
  go_wp2_with fail
  rw [<- hw0,<- hw1];refine(HZ.out _).mono ?_;rintro e wa ⟨rfl,ha⟩;have HA:Hid (Below w1.heap.size w1 wa):=ha;have HWA:Hid (Below w.heap.size w wa):=bth HB1.out ha;clear hw0 hw1 b0 b1 z0 z1 ha;have ca:=HAT.out wa HA.out;have c0:=ca.cell (i:=0) rfl;have c1:=ca.cell (i:=1) rfl;have c2:=ca.cell (i:=2) rfl;have c3:=ca.cell (i:=3) rfl;have c4:=ca.cell (i:=4) rfl;have c5:=ca.cell (i:=5) rfl;have cf:=ca.free;clear ca;go_wp2_with fail
  refine bodyPost_ret (v:=.tuple #[.agg #[.int .u8 0,.int .i64 0,.int .i64 0,.int .i64 0,.slice none 0 0,.slice none 0 0],.bool false]) (by simp [results,Tryz.results206,go_sem,c0,c1,c2,c3,c4,c5]) rfl ?_;exact⟨none,0,none,0,rfl,got_z _ _,b_at (b_at (b_at (b_at (b_at (b_at HWA.out (Nat.le_succ _) _) (Nat.le_succ _) _) (Nat.le_succ _) _) (Nat.le_succ _) _) (Nat.le_succ _) _) (Nat.le_succ _) _⟩
end Go.Proofs.YtemlojjkokooeaaGreat
