import Derived.Test.YtemlojjkokooeaaGreatTm14
import Derived.Test.YtemlojjkokooeaaGreatTm15
open Go.Value renaming int->J,slice->Y,agg->L,bool->C,tuple->f
open Go.IntKind renaming i64->O,u8->H
open Nat renaming le_succ->I
open Option renaming none->Q,some->U
open Go.RowKit renaming Hid->X
open Go.Proofs.Tryz renaming prog->G
open Go.Ending renaming returned->P
open Bool renaming false->T,true->A
open Go renaming Calls->S
open Go.Obj renaming cells->u
open Go.RowKit.Below renaming refl->l
set_option maxHeartbeats 16000000
set_option maxRecDepth 100000
namespace Go.Proofs.YtemlojjkokooeaaGreat
open Go.RowKit
theorem AN{R:Nat->Int}:∀ {n i:Nat},i<n->R i<=mx R n
 | 0,i,h=>absurd h (Nat.not_lt_zero i)
 | n+1,i,h=>by
  rw [mx,gr];by_cases e:i=n
  ·subst e;split <;> omega
  ·have:=AN (R:=R) (n:=n) (i:=i) za;split <;> omega
theorem AG{k r c q:Int}{N W:Nat}(h:Par k r c q N W 0)(w:World)(s:Sl)(ao:Option Addr)(ca:Nat)(bo:Option Addr)(cb:Nat)(hs:Has w s ao ca bo cb)(y:Bool)(hy:okS N c s=y):
  S G 280 #[Pz k r c q,slv s ao ca bo cb] w fun e w'=>e=P (C y)/\b7 w w':=by
 have E4:=fun w=>lW c q h.sum h.few w;have HL:=fun w (hv:RdI w ao s.vn s.V)=>uC c q h.sum h.few w ao s.vn ca s.V hv;have hN:=h.few;obtain⟨kd,ix,ce,st,vn,V,dn,D⟩:=s;simp only [slv] at *;have HV:=am (hs.vec);obtain⟨kn,xF⟩:∃ kn:Int,kn=((kd.toNat:Nat):Int):=⟨_,rfl⟩
 have HK:X (decide (kd=1\/kd=2)=decide (kn=1\/kn=2)):=by
  show _=_;apply decide_eq_decide.2
  rw [xF,rO,pV]
 have HO:=am hy;rw [<- xF];clear xF hs h hy;obtain⟨w0,bi⟩:=jM w k r c q
 obtain⟨w1,ci⟩:=fd (w0.alloc (u #[J H kn,J O ix,J O ce,J O st,Y ao vn ca,Y bo dn cb] 107))
 have b0:=jt bi
 have b1:=jt ci
 have z0:=ks bi
 obtain⟨s0,s1,s2,s3⟩:=ak bi b1;obtain⟨m0,m1,m2,m3,m4,m5⟩:=dw ci (l _ _);rw [z0] at m0 m1 m2 m3 m4 m5;have jZ:=am (ap b0 b1);by_cases hk:kn=1\/kn=2
 ·by_cases hi:0<=ix
  ·obtain⟨t,rfl⟩:∃ t:Nat,ix=(t:Int):=⟨ix.toNat,za⟩
   by_cases hi2:t<N
   ·have Lo:(t:Int)<(N:Int):=za;by_cases hd:(dn:Int)=c
    ·subst hd;have HY:X (y=(vok N vn V && decide (st=mx V vn/\ce=V t))):=by
      show _=_;rw [<- HO.out];unfold okS vok;rw [<- Bool.decide_and];apply decide_eq_decide.2
      simp only [Int.toNat_natCast];constructor
      ·rintro⟨p,_,_,_,_,p6,p7⟩;exact⟨p,p6,p7⟩
      ·rintro⟨p,p6,p7⟩;exact⟨p,of_decide_eq_true (by rw [HK.out];exact zm hk),hi,by rw [p.1];exact Lo,trivial,p6,p7⟩
     rcases hk with rfl | rfl
     ·skip
      go_enter Tryz.func280,Tryz.ntmps280
      go_wp2_with fail
      rw [<- bi,<- ci];clear bi ci b0 b1 z0;have SH:X (∀ v,b7 w1 v->(v.cell? ⟨w.heap.size,0,Q⟩=U (J O k)/\v.cell? ⟨w.heap.size,1,Q⟩=U (J O r)/\v.cell? ⟨w.heap.size,2,Q⟩=U (J O (dn:Int))/\v.cell? ⟨w.heap.size,3,Q⟩=U (J O q)/\v.cell? ⟨w.heap.size+1,0,Q⟩=U (J H 1)/\v.cell? ⟨w.heap.size+1,1,Q⟩=U (J O (t:Int))/\v.cell? ⟨w.heap.size+1,5,Q⟩=U (Y bo dn cb))):=fun v kC=>⟨held s0 kC,held s1 kC,held s2 kC,held s3 kC,held m0 kC,held m1 kC,held m5 kC⟩
      have D8:=am E4;refine wp_region_noPanic (Di w1 k r (dn:Int) q w.heap.size N t vn ca dn cb ce st ao bo SH.out D8.out za zi _ (fun _ _ _ h=>h) (fun wa ha=>NoPanic.normal ?_));all_goals (
       have jP:=ap jZ.out ha;have D9:=HL _ (HV.out.below jP).rd;obtain⟨a1,a2,a3,a4⟩:_/\_/\_/\_:=⟨held m1 ha,held m2 ha,held m3 ha,held m4 ha⟩
       obtain⟨a5,a6,a7,a8⟩:_/\_/\_/\_:=⟨held s0 ha,held s1 ha,held s2 ha,held s3 ha⟩
       by_cases hv:vok N vn V=A
       ·rw [zk hv] at D9;obtain⟨h3,h4⟩:vn=N/\∀ i,i<vn->1<=V i/\V i<=1073741824:=of_decide_eq_true hv;have Fw:0<mx V vn:=Int.lt_of_lt_of_le (by have:=(h4 t za).1;omega) (AN (R:=V) (i:=t) za);rw [hv,Bool.true_and] at HY;have LV:t<vn:=za;obtain⟨mm,xu⟩:=km (mx V vn)
        rw [xu] at D9 Fw HY;clear xu hv h4 h3;go_wp2_with fail
        refine D9.mono ?_;rintro e wb ⟨rfl,ku⟩;have E5:=ap jP ku;obtain⟨b,off,rfl,jI⟩:=(HV.out.below E5).rd za;have ck:=jI t LV;obtain⟨vt,Hp⟩:=km (V t)
        rw [Hp] at ck HY;obtain⟨e1,e2,e3,e4⟩:_/\_/\_/\_:=⟨held a1 ku,held a2 ku,held a3 ku,held a4 ku⟩
        have j1:(0:Int)<=(t:Int):=za;have j2:(t:Int)<(vn:Int):=za;have qj:=am E5;clear jI Hp D9 HL E4 SH D8 ha jP ku E5 a1 a2 a3 a4 s0 s1 s2 s3 m0 m1 m2 m3 m4 m5;go_wp2_with fail
        by_cases hst:st=mm
        ·go_quiet (fail)
         go_wp2;go_ret;refine⟨ay ?_,qj.out.trans (below_drewN _ _ _)⟩;rw [HY.out];by_cases hce:ce=vt
         ·rw [zm (show st=mm/\ce=vt from⟨hst,hce⟩)];simp [hce]
         ·rw [zp (show ¬ (st=mm/\ce=vt) from fun h=>hce h.2)];simp [hce]
        ·go_quiet (fail)
         go_wp2;go_ret;refine⟨ay ?_,qj.out.trans (below_drewN _ _ _)⟩;rw [HY.out,zp (show ¬ (st=mm/\ce=vt) from fun h=>hst h.1)]
       ·rw [zl hv] at D9;rw [show vok N vn V=T by cases h:vok N vn V;rfl;exact absurd h hv,Bool.false_and] at HY;go_wp2_with fail
        refine D9.mono ?_;rintro e wb ⟨rfl,ku⟩;have qj:=am (ap jP ku);clear D9 HL E4 SH D8 ha jP ku;go_wp2_with fail
        go_quiet (fail)
        go_wp2;go_ret;exact⟨ay HY.out.symm,qj.out.trans (below_drewN _ _ _)⟩)
     ·skip
      go_enter Tryz.func280,Tryz.ntmps280
      go_wp2_with fail
      rw [<- bi,<- ci];clear bi ci b0 b1 z0;have SH:X (∀ v,b7 w1 v->(v.cell? ⟨w.heap.size,0,Q⟩=U (J O k)/\v.cell? ⟨w.heap.size,1,Q⟩=U (J O r)/\v.cell? ⟨w.heap.size,2,Q⟩=U (J O (dn:Int))/\v.cell? ⟨w.heap.size,3,Q⟩=U (J O q)/\v.cell? ⟨w.heap.size+1,0,Q⟩=U (J H 2)/\v.cell? ⟨w.heap.size+1,1,Q⟩=U (J O (t:Int))/\v.cell? ⟨w.heap.size+1,5,Q⟩=U (Y bo dn cb))):=fun v kC=>⟨held s0 kC,held s1 kC,held s2 kC,held s3 kC,held m0 kC,held m1 kC,held m5 kC⟩
      have D8:=am E4;refine wp_region_noPanic (BP w1 k r (dn:Int) q w.heap.size N t vn ca dn cb ce st ao bo SH.out D8.out za zi _ (fun _ _ _ h=>h) (fun wa ha=>NoPanic.normal ?_));all_goals (
       have jP:=ap jZ.out ha;have D9:=HL _ (HV.out.below jP).rd;obtain⟨a1,a2,a3,a4⟩:_/\_/\_/\_:=⟨held m1 ha,held m2 ha,held m3 ha,held m4 ha⟩
       obtain⟨a5,a6,a7,a8⟩:_/\_/\_/\_:=⟨held s0 ha,held s1 ha,held s2 ha,held s3 ha⟩
       by_cases hv:vok N vn V=A
       ·rw [zk hv] at D9;obtain⟨h3,h4⟩:vn=N/\∀ i,i<vn->1<=V i/\V i<=1073741824:=of_decide_eq_true hv;have Fw:0<mx V vn:=Int.lt_of_lt_of_le (by have:=(h4 t za).1;omega) (AN (R:=V) (i:=t) za);rw [hv,Bool.true_and] at HY;have LV:t<vn:=za;obtain⟨mm,xu⟩:=km (mx V vn)
        rw [xu] at D9 Fw HY;clear xu hv h4 h3;go_wp2_with fail
        refine D9.mono ?_;rintro e wb ⟨rfl,ku⟩;have E5:=ap jP ku;obtain⟨b,off,rfl,jI⟩:=(HV.out.below E5).rd za;have ck:=jI t LV;obtain⟨vt,Hp⟩:=km (V t)
        rw [Hp] at ck HY;obtain⟨e1,e2,e3,e4⟩:_/\_/\_/\_:=⟨held a1 ku,held a2 ku,held a3 ku,held a4 ku⟩
        have j1:(0:Int)<=(t:Int):=za;have j2:(t:Int)<(vn:Int):=za;have qj:=am E5;clear jI Hp D9 HL E4 SH D8 ha jP ku E5 a1 a2 a3 a4 s0 s1 s2 s3 m0 m1 m2 m3 m4 m5;go_wp2_with fail
        by_cases hst:st=mm
        ·go_quiet (fail)
         go_wp2;go_ret;refine⟨ay ?_,qj.out.trans (below_drewN _ _ _)⟩;rw [HY.out];by_cases hce:ce=vt
         ·rw [zm (show st=mm/\ce=vt from⟨hst,hce⟩)];simp [hce]
         ·rw [zp (show ¬ (st=mm/\ce=vt) from fun h=>hce h.2)];simp [hce]
        ·go_quiet (fail)
         go_wp2;go_ret;refine⟨ay ?_,qj.out.trans (below_drewN _ _ _)⟩;rw [HY.out,zp (show ¬ (st=mm/\ce=vt) from fun h=>hst h.1)]
       ·rw [zl hv] at D9;rw [show vok N vn V=T by cases h:vok N vn V;rfl;exact absurd h hv,Bool.false_and] at HY;go_wp2_with fail
        refine D9.mono ?_;rintro e wb ⟨rfl,ku⟩;have qj:=am (ap jP ku);clear D9 HL E4 SH D8 ha jP ku;go_wp2_with fail
        go_quiet (fail)
        go_wp2;go_ret;exact⟨ay HY.out.symm,qj.out.trans (below_drewN _ _ _)⟩)
    ·skip
     have HY:X (y=T):=by
      show _=_;rw [<- HO.out];exact zp fun⟨p1,p2,p3,p4,p5,p6,p7⟩=>hd p5
     have G1:((dn:Int) != c)=A:=by simpa using hd
     rcases hk with rfl | rfl
     ·skip
      go_enter Tryz.func280,Tryz.ntmps280
      go_wp2_with fail
      rw [<- bi,<- ci];clear bi ci b0 b1 z0;have SH:X (∀ v,b7 w1 v->(v.cell? ⟨w.heap.size,0,Q⟩=U (J O k)/\v.cell? ⟨w.heap.size,1,Q⟩=U (J O r)/\v.cell? ⟨w.heap.size,2,Q⟩=U (J O c)/\v.cell? ⟨w.heap.size,3,Q⟩=U (J O q)/\v.cell? ⟨w.heap.size+1,0,Q⟩=U (J H 1)/\v.cell? ⟨w.heap.size+1,1,Q⟩=U (J O (t:Int))/\v.cell? ⟨w.heap.size+1,5,Q⟩=U (Y bo dn cb))):=fun v kC=>⟨held s0 kC,held s1 kC,held s2 kC,held s3 kC,held m0 kC,held m1 kC,held m5 kC⟩
      have D8:=am E4;refine wp_region_noPanic (Cw w1 k r c q w.heap.size N t vn ca dn cb ce st ao bo SH.out D8.out za G1 _ (fun _ _ _ h=>h) (fun wa ha=>NoPanic.normal ?_));all_goals (
       have jP:=ap jZ.out ha;go_wp2;go_ret;exact⟨ay HY.out.symm,jP⟩)
     ·skip
      go_enter Tryz.func280,Tryz.ntmps280
      go_wp2_with fail
      rw [<- bi,<- ci];clear bi ci b0 b1 z0;have SH:X (∀ v,b7 w1 v->(v.cell? ⟨w.heap.size,0,Q⟩=U (J O k)/\v.cell? ⟨w.heap.size,1,Q⟩=U (J O r)/\v.cell? ⟨w.heap.size,2,Q⟩=U (J O c)/\v.cell? ⟨w.heap.size,3,Q⟩=U (J O q)/\v.cell? ⟨w.heap.size+1,0,Q⟩=U (J H 2)/\v.cell? ⟨w.heap.size+1,1,Q⟩=U (J O (t:Int))/\v.cell? ⟨w.heap.size+1,5,Q⟩=U (Y bo dn cb))):=fun v kC=>⟨held s0 kC,held s1 kC,held s2 kC,held s3 kC,held m0 kC,held m1 kC,held m5 kC⟩
      have D8:=am E4;refine wp_region_noPanic (CJ w1 k r c q w.heap.size N t vn ca dn cb ce st ao bo SH.out D8.out za G1 _ (fun _ _ _ h=>h) (fun wa ha=>NoPanic.normal ?_));all_goals (
       have jP:=ap jZ.out ha;go_wp2;go_ret;exact⟨ay HY.out.symm,jP⟩)
   ·skip
    have HY:X (y=T):=by
     show _=_;rw [<- HO.out];exact zp fun⟨p1,p2,p3,p4,p5,p6,p7⟩=>hi2 (by have h1:vn=N:=p1.1;have h2:(t:Int)<(vn:Int):=p4;omega)
    have Lo:(N:Int)<=(t:Int):=za;rcases hk with rfl | rfl
    ·skip
     go_enter Tryz.func280,Tryz.ntmps280
     go_wp2_with fail
     rw [<- bi,<- ci];clear bi ci b0 b1 z0;have SH:X (∀ v,b7 w1 v->(v.cell? ⟨w.heap.size,0,Q⟩=U (J O k)/\v.cell? ⟨w.heap.size,1,Q⟩=U (J O r)/\v.cell? ⟨w.heap.size,2,Q⟩=U (J O c)/\v.cell? ⟨w.heap.size,3,Q⟩=U (J O q)/\v.cell? ⟨w.heap.size+1,0,Q⟩=U (J H 1)/\v.cell? ⟨w.heap.size+1,1,Q⟩=U (J O (t:Int))/\v.cell? ⟨w.heap.size+1,5,Q⟩=U (Y bo dn cb))):=fun v kC=>⟨held s0 kC,held s1 kC,held s2 kC,held s3 kC,held m0 kC,held m1 kC,held m5 kC⟩
     have D8:=am E4;refine wp_region_noPanic (Ax w1 k r c q w.heap.size N t vn ca dn cb ce st ao bo SH.out D8.out za _ (fun _ _ _ h=>h) (fun wa ha=>NoPanic.normal ?_));all_goals (
      have jP:=ap jZ.out ha;go_wp2;go_ret;exact⟨ay HY.out.symm,jP⟩)
    ·skip
     go_enter Tryz.func280,Tryz.ntmps280
     go_wp2_with fail
     rw [<- bi,<- ci];clear bi ci b0 b1 z0;have SH:X (∀ v,b7 w1 v->(v.cell? ⟨w.heap.size,0,Q⟩=U (J O k)/\v.cell? ⟨w.heap.size,1,Q⟩=U (J O r)/\v.cell? ⟨w.heap.size,2,Q⟩=U (J O c)/\v.cell? ⟨w.heap.size,3,Q⟩=U (J O q)/\v.cell? ⟨w.heap.size+1,0,Q⟩=U (J H 2)/\v.cell? ⟨w.heap.size+1,1,Q⟩=U (J O (t:Int))/\v.cell? ⟨w.heap.size+1,5,Q⟩=U (Y bo dn cb))):=fun v kC=>⟨held s0 kC,held s1 kC,held s2 kC,held s3 kC,held m0 kC,held m1 kC,held m5 kC⟩
     have D8:=am E4;refine wp_region_noPanic (vm w1 k r c q w.heap.size N t vn ca dn cb ce st ao bo SH.out D8.out za _ (fun _ _ _ h=>h) (fun wa ha=>NoPanic.normal ?_));all_goals (
      have jP:=ap jZ.out ha;go_wp2;go_ret;exact⟨ay HY.out.symm,jP⟩)
  ·skip
   have HY:X (y=T):=by
    show _=_;rw [<- HO.out];exact zp fun⟨p1,p2,p3,p4,p5,p6,p7⟩=>hi p3
   have Lo:ix<0:=za;rcases hk with rfl | rfl
   all_goals (
    go_enter Tryz.func280,Tryz.ntmps280
    go_wp2_with fail
    rw [<- bi,<- ci];clear bi ci b0 b1 z0;go_quiet (fail)
    go_wp2;go_ret;exact⟨ay HY.out.symm,jZ.out.trans (below_drewN _ _ _)⟩)
 ·skip
  have HY:X (y=T):=by
   show _=_;rw [<- HO.out];exact zp fun⟨p1,p2,p3,p4,p5,p6,p7⟩=>hk (of_decide_eq_true (by rw [<- HK.out];exact zm p2))
  have kD:¬ kn=1:=fun h=>hk (.inl h);have G3:¬ kn=2:=fun h=>hk (.inr h);have Kx:(kn != 1)=A:=by simpa using kD
  have A4:(kn != 2)=A:=by simpa using G3
  clear hk;go_enter Tryz.func280,Tryz.ntmps280
  go_wp2_with fail
  rw [<- bi,<- ci];clear bi ci b0 b1 z0;go_quiet (fail)
  go_wp2;go_ret;exact⟨ay HY.out.symm,jZ.out.trans (below_drewN _ _ _)⟩
theorem lF{B:Nat}{v v':World}{b:Nat}{ao:Option Addr}{n b8:Nat}{R:Nat->Int}(h:Own B v ao n b8 R)(ho:Only (fun x=>x=b) v v')(hb:b<B):Own B v' ao n b8 R:=h.stay fun g hg hl=>ho.block g hl za
theorem ly{B:Nat}{v v':World}{b:Nat}{ao:Option Addr}{n b8:Nat}{F:Nat->UInt8}(h:OwU B v ao n b8 F)(ho:Only (fun x=>x=b) v v')(hb:b<B):OwU B v' ao n b8 F:=h.stay fun g hg hl=>ho.block g hl za
theorem ui{k r c q:Int}{N W:Nat}(h:Par k r c q N W 0)(w:World)(bo:Option Addr)(n cb:Nat)(F:Nat->UInt8)(hb:Bec w bo n cb F)(Ha:n<=9223372036854775807)(i:Bool)(hi:isS N c n F=i)(z:Sl)(hz:slQ i N c F=z):
  S G 206 #[Pz k r c q,Y bo n cb] w fun e w'=>∃ ao ca yo yc,e=P (f #[slv z ao ca yo yc,C i])/\Got w.heap.size w' z ao ca yo yc/\b7 w w':=by
 have hN:=h.few;have KG:=h.some rfl;have hc:=h.cell rfl;obtain⟨m0,yv⟩:=fd (sz N c)
 have yr:m0=12+4*N+c.toNat:=yv;have HZ:X (∀ w,S G 263 #[Pz k r c q] w fun e w'=>e=P (J O (m0:Int))/\b7 w w'):=fun w=>by rw [yv];exact mb h w
 obtain⟨w0,bi⟩:=jM w k r c q
 obtain⟨w1,ci⟩:=fd (w0.alloc (u #[J H 0,J O 0,J O 0,J O 0,Y Q 0 0,Y Q 0 0] 107))
 have b0:=jt bi
 have b1:=jt ci
 have z0:=ks bi
 have z1:w1.heap.size=w.heap.size+2:=by rw [ci];simp [z0]
 have C0:X (Cel w1 w.heap.size [J O k,J O r,J O c,J O q]):=(cF bi).below b1;have zG:X (∀ v,b7 w1 v->At w0 v (w.heap.size+1) #[J H 0,J O 0,J O 0,J O 0,Y Q 0 0,Y Q 0 0] 107):=fun v hv=>by rw [<- z0,ci] at *;exact(an (l _ _) _ _).below hv
 have jZ:=am (ap b0 b1);have xK:=am z1;by_cases hnm:n=m0
 ·subst hnm;obtain⟨g,o,rfl,hr⟩:=hb.rd za;have HR:=am hr;have l8:=hb.room;have Pq:12<=n:=za;by_cases hF0:F 0=84
  ·by_cases hF1:F 1=50
   ·have e0:(((F 0).toNat:Nat):Int)=84:=by rw [hF0];rfl
    have e1:(((F 1).toNat:Nat):Int)=50:=by rw [hF1];rfl
    obtain⟨d,hd⟩:=fd (c.toNat)
    have Pd:8<=d:=za;have G1:d<=64:=za;have KM:X (n=12+4*N+d/\n<=1000):=by constructor <;> omega
    obtain⟨y,hy⟩:=km (okS N c (dec N c F))
    have VG:i=y:=by
     rw [<- hi,<- hy];unfold isS;cases e:okS N c (dec N c F)
     ·exact zp fun h=>by cases h.2.2.2
     ·exact zm ⟨yv,hF0,hF1,rfl⟩
    subst VG;obtain⟨kn,xF⟩:∃ kn:Nat,(F 2).toNat=kn:=⟨_,rfl⟩
    obtain⟨x1,nl⟩:∃ x1:Nat,(F 3).toNat=x1:=⟨_,rfl⟩
    obtain⟨x2,xw⟩:=fd (nm F 4 4)
    obtain⟨x3,Jv⟩:=fd (nm F 8 4)
    have Pw:x1<256:=by rw [<- nl];exact(F 3).toNat_lt
    have G7:X (∀ vo vc yo yc,slv (dec N c F) vo vc yo yc=L #[J H (kn:Int),J O (x1:Int),J O (x2:Int),J O (x3:Int),Y vo N vc,Y yo d yc]):=fun _ _ _ _=>by
     have:nm F 3 1=x1:=by rw [nm,nm,<- nl];simp
     rw [hd,xw,Jv,<- xF,<- this];rfl
    have LC:X (∀ B v vo vc yo yc,Own B v vo N vc (vf F N)->OwU B v yo d yc (fun j=>F (12+4*N+j))->Got B v (dec N c F) vo vc yo yc):=fun B v vo vc yo yc h1 h2 =>
     ⟨h1.congr fun i hi=>by unfold vf;rw [zk hi];rfl,by rw [hd] at h2;exact h2⟩
    have VH:X (∀ v vo vc yo yc,Has v (dec N c F) vo vc yo yc->S G 280 #[Pz k r c q,L #[J H (kn:Int),J O (x1:Int),J O (x2:Int),J O (x3:Int),Y vo N vc,Y yo d yc]] v fun e w'=>e=P (C i)/\b7 v w'):=fun v vo vc yo yc hs=>by
     have:=AG h v (dec N c F) vo vc yo yc hs i hy;rw [G7.out] at this;exact this
    have R8:X (z=if i=A then dec N c F else zSl):=by show _=_;rw [<- hz];rfl
    have VI:X (∀ w,S G 111 #[Pz k r c q] w fun e w'=>e=P (J O (N:Int))/\b7 w w'):=fun w=>lW c q h.sum hN w;have JC:=am fun v a (ha:a+4<=n)(hv:b7 w v)=>cr v _ n cb a F (fun _=>⟨g,o,rfl,fun j hj=>held (HR.out j hj) hv⟩) ha KM.out.2;have LW:X (x2=nm F 4 4/\x3=nm F 8 4):=⟨xw,Jv⟩
    have LX:X ((F 2).toNat=kn/\(F 3).toNat=x1):=⟨xF,nl⟩
    clear hi hz yv yr hb hr h hd hy xF nl xw Jv hF0 hF1 hc;go_enter Tryz.func206,Tryz.ntmps206
    go_wp2_with fail
    rw [<- bi,<- ci];refine(HZ.out _).mono ?_;rintro e wa ⟨rfl,ha⟩;have HA:=am ha;have yd:=am (ap jZ.out ha);clear bi ci b0 b1 z0 z1 ha;have ck:=held (HR.out 0 za) yd.out;rw [Nat.add_zero,e0] at ck;have NZ:=held (HR.out 1 za) yd.out;rw [e1] at NZ;have j0:(0:Int)<(n:Int):=za;have j1:0<n:=za;have j2:(1:Int)<(n:Int):=za;have j3:1<n:=za;go_wp2_with fail
    have KS:X (∀ v,b7 wa v->(v.cell? ⟨g,o+2,Q⟩=U (J H (kn:Int))/\v.cell? ⟨g,o+3,Q⟩=U (J H (x1:Int)))):=fun v hv=>by
     have h2:=held (HR.out 2 za) (ap yd.out hv);have h3:=held (HR.out 3 za) (ap yd.out hv);rw [LX.out.1] at h2;rw [LX.out.2] at h3;exact⟨h2,h3⟩
    refine wp_region_noPanic (oJ wa k r c q g o n cb w.heap.size kn x1 x2 x3 KS.out (fun v hv=>by rw [LW.out.1];exact JC.out v 4 za (ap yd.out hv)) (fun v hv=>by rw [LW.out.2];exact JC.out v 8 za (ap yd.out hv)) za za Pw _ (fun _ _ _ h=>h) (fun g3 wb hb f3=>NoPanic.normal ?_));have io:=am hb;have R9:=am f3;clear hb f3 ck NZ KS;have pc:=(C0.out.below HA.out).below io.out;have p0:=pc 0 _ rfl;have p1:=pc 1 _ rfl;have p2:=pc 2 _ rfl;have p3:=pc 3 _ rfl;clear pc;go_wp2_with fail
    refine(VI.out _).mono ?_;rintro e wc ⟨rfl,hc⟩;have n8:=am (ap io.out hc);have VJ:=am (R9.out.below hc);clear hc R9 io;clear p0 p1 p2 p3;go_wp2_with fail
    go_loopw [8] (fun x wr=>∃ i:Nat,i<=N/\x=J O (i:Int)/\(∃ vo vc,X (Own wa.heap.size wr vo i vc (vf F i))/\X (At wa wr g3 #[J H (kn:Int),J O (x1:Int),J O (x2:Int),J O (x3:Int),Y vo i vc,Y Q 0 0] 107))/\X (b7 wa wr)) (fun x _=>N-(intOf x).toNat)
    case atStart=>exact⟨0,Nat.zero_le _,rfl,⟨Q,0,eM _ _ _,VJ⟩,n8⟩
    case round =>
     obtain⟨j,hj,rfl,⟨vo,vc,hO,Px⟩,hW⟩:=hrel;by_cases hlt:j<N
     ·have VK:(j:Int)<(N:Int):=za;obtain⟨xi,Jx⟩:∃ xi:Int,xi=((nm F (12+4*j) 4:Nat):Int):=⟨_,rfl⟩
      have Sa:X (∀ v,b7 wa v->S G 279 #[Y (U ⟨g,o,Q⟩) n cb,J O (12+4*(j:Int))] v fun e w'=>e=P (J O xi)/\b7 v w'):=fun v hv=>by
       have:=JC.out v (12+4*j) (by have:=KM.out.1;omega) (ap yd.out hv);rw [show ((12+4*j:Nat):Int)=12+4*(j:Int) by omega] at this;rw [Jx];exact this
      have B3:X (zOf j (vf F j) ++ [J O xi]=zOf (j+1) (vf F (j+1))):=by
       show _=_;rw [nT,Jx];congr 1
       ·exact fU fun t ht=>by unfold vf;rw [zk ht,zk za]
       ·unfold vf;rw [zk za]
      clear Jx;go_wp2_with fail
      refine wp_region_noPanic (oL wa wr k r c q g o n cb w.heap.size kn x1 x2 x3 N j vc g3 xi vo (vf F j) (vf F (j+1)) _ _ _ _ _ _ _ _ _ _ _ _ hW.out hO.out Px.out Sa.out za B3.out _ (fun _ _ _ h=>h) (fun g2 c2 gb v hbv LY Iy=>NoPanic.normal ?_));have Jw:=am hbv;have ye:=am LY;have Jq:=am Iy;clear hbv LY Iy Sa B3;go_wp2_with fail
      go_roundw
      case rel=>exact⟨j+1,za,by go_num,⟨_,_,ye,Jq⟩,Jw⟩
      case measure=>simp [intOf];omega
     ·obtain rfl:N=j:=za;have VK:¬ (N:Int)<(N:Int):=za;obtain⟨m,hm⟩:=fd (12+4*N)
      have zE:=am hm;clear hm;go_wp2_with fail
      refine wp_region_noPanic (nD wa wr k r c q g o n cb w.heap.size kn x1 x2 x3 N m d vc g3 vo (vf F N) (fun j=>F (12+4*N+j)) _ _ _ _ _ _ _ _ _ _ _ _ hW.out hO.out Px.out (fun j hj=>by rw [show o+m+j=o+(12+4*N+j) by rw [zE.out];omega];exact held (HR.out _ (by have:=KM.out.1;omega)) yd.out) hN zE.out (by rw [zE.out];exact KM.out.1) Pd G1 l8 _ (fun _ _ _ h=>h) (fun g2 c2 v hbv LY Sb Iy=>NoPanic.normal ?_));have Jw:=am hbv;have Py:=am (LC.out _ v _ _ _ _ LY Sb);have Jq:=am Iy;clear hbv LY Sb Iy hO Px hW;have pc:=(C0.out.below HA.out).below Jw.out;have p0:=pc 0 _ rfl;have p1:=pc 1 _ rfl;have p2:=pc 2 _ rfl;have p3:=pc 3 _ rfl;clear pc;have sa:=Jq.out;have s0:=sa.cz 0;have s1:=sa.cz 1;have s2:=sa.cz 2;have s3:=sa.cz 3;have s4:=sa.cz 4;have s5:=sa.cz 5;have sf:=sa.free;clear sa;go_wp2_with fail
      refine(VH.out _ vo vc _ c2 Py.out.has).mono ?_;rintro e wy ⟨rfl,hy⟩;have FS:=am (ap Jw.out hy);have Sc:=am (Py.out.below hy);have Sd:=am (Jq.out.below hy);have Se:=am (ap yd.out FS.out);have FN:X (w.heap.size+2<=wa.heap.size):=by show _<=_;rw [<- xK.out];exact HA.out.size
      clear hy Jw Py Jq;clear p0 p1 p2 p3;clear s0 s1 s2 s3 s4 s5;clear sf;have IY:=zG.out wy (ap HA.out FS.out);have Sf:=IY.cz 0;have Sg:=IY.cz 1;have Sh:=IY.cz 2;have Si:=IY.cz 3;have Sj:=IY.cz 4;have Sk:=IY.cz 5;have Ym:=IY.free;clear IY;have sa:=Sd.out;have s0:=sa.cz 0;have s1:=sa.cz 1;have s2:=sa.cz 2;have s3:=sa.cz 3;have s4:=sa.cz 4;have s5:=sa.cz 5;have sf:=sa.free;clear sa;have n1:¬ g3=w.heap.size+1:=by have:=Sd.out.1;have:=FN.out;omega
      have n2:¬ w.heap.size+1=g3:=za;cases i
      ·obtain rfl:z=zSl:=R8.out;go_wp2_with fail
       refine bodyPost_ret (v:=f #[L #[J H 0,J O 0,J O 0,J O 0,Y Q 0 0,Y Q 0 0],C T]) (by simp [results,Tryz.results206,go_sem,Sf,Sg,Sh,Si,Sj,Sk]) rfl ?_;exact⟨Q,0,Q,0,rfl,aR _ _,aH (aH (aH (aH (aH (aH Se.out (I _) _) (I _) _) (I _) _) (I _) _) (I _) _) (I _) _⟩
      ·obtain rfl:z=dec N c F:=R8.out;go_wp2_with fail
       refine bodyPost_ret (v:=f #[L #[J H (kn:Int),J O (x1:Int),J O (x2:Int),J O (x3:Int),Y vo N vc,Y (U ⟨g2,0,Q⟩) d c2],C A]) (by simp [results,Tryz.results206,go_sem,Sf,Sg,Sh,Si,Sj,Sk]) rfl ?_;refine⟨vo,vc,U ⟨g2,0,Q⟩,c2,by rw [G7.out],⟨?_,?_⟩,aH (aH (aH (aH (aH (aH Se.out (I _) _) (I _) _) (I _) _) (I _) _) (I _) _) (I _) _⟩
       ·refine Own.mono (B:=wa.heap.size) (lF (b:=w.heap.size+1) Sc.out.vec ?_ (by have:=FN.out;omega)) (by have:=FN.out;omega);exact sq _ _ _ _ _ _ _ _
       ·refine OwU.mono (B:=wa.heap.size) (ly (b:=w.heap.size+1) Sc.out.bec ?_ (by have:=FN.out;omega)) (by have:=FN.out;omega);exact sq _ _ _ _ _ _ _ _
   ·have ko:¬ (((F 1).toNat:Nat):Int)=50:=fun e=>hF1 (UInt8.toNat_inj.1 (by have:(50:UInt8).toNat=50:=rfl;omega));have jP:((((F 1).toNat:Nat):Int) != 50)=A:=by simpa using ko
    obtain rfl:i=T:=by rw [<- hi];exact zp fun h=>hF1 h.2.2.1
    obtain rfl:z=zSl:=hz.symm;have e0:(((F 0).toNat:Nat):Int)=84:=by rw [hF0];rfl
    obtain⟨u1,zK⟩:∃ u1:Nat,(F 1).toNat=u1:=⟨_,rfl⟩
    rw [zK] at ko jP;have VL:=am zK;unfold slv zSl;clear hi hz yv yr hb hr h zK;go_enter Tryz.func206,Tryz.ntmps206
    go_wp2_with fail
    rw [<- bi,<- ci];refine(HZ.out _).mono ?_;rintro e wa ⟨rfl,ha⟩;have HA:=am ha;have yd:=am (ap jZ.out ha);clear bi ci b0 b1 z0 z1 ha;have ck:=held (HR.out 0 za) yd.out;rw [Nat.add_zero,e0] at ck;have NZ:=held (HR.out 1 za) yd.out;rw [VL.out] at NZ;have j0:(0:Int)<(n:Int):=za;have j1:0<n:=za;have j2:(1:Int)<(n:Int):=za;have j3:1<n:=za;have ca:=zG.out wa HA.out;have c0:=ca.cz 0;have c1:=ca.cz 1;have c2:=ca.cz 2;have c3:=ca.cz 3;have c4:=ca.cz 4;have c5:=ca.cz 5;have cf:=ca.free;clear ca;go_wp2_with fail
    refine bodyPost_ret (v:=f #[L #[J H 0,J O 0,J O 0,J O 0,Y Q 0 0,Y Q 0 0],C T]) (by simp [results,Tryz.results206,go_sem,c0,c1,c2,c3,c4,c5]) rfl ?_;exact⟨Q,0,Q,0,rfl,aR _ _,aH (aH (aH (aH (aH (aH yd.out (I _) _) (I _) _) (I _) _) (I _) _) (I _) _) (I _) _⟩
  ·have ko:¬ (((F 0).toNat:Nat):Int)=84:=fun e=>hF0 (UInt8.toNat_inj.1 (by have:(84:UInt8).toNat=84:=rfl;omega));have jP:((((F 0).toNat:Nat):Int) != 84)=A:=by simpa using ko
   obtain rfl:i=T:=by rw [<- hi];exact zp fun h=>hF0 h.2.1
   obtain rfl:z=zSl:=hz.symm;obtain⟨u0,zJ⟩:∃ u0:Nat,(F 0).toNat=u0:=⟨_,rfl⟩
   rw [zJ] at ko jP;have VM:=am zJ;unfold slv zSl;clear hi hz yv yr hb hr h zJ;go_enter Tryz.func206,Tryz.ntmps206
   go_wp2_with fail
   rw [<- bi,<- ci];refine(HZ.out _).mono ?_;rintro e wa ⟨rfl,ha⟩;have HA:=am ha;have yd:=am (ap jZ.out ha);clear bi ci b0 b1 z0 z1 ha;have ck:=held (HR.out 0 za) yd.out;rw [Nat.add_zero,VM.out] at ck;have j0:(0:Int)<(n:Int):=za;have j1:0<n:=za;have ca:=zG.out wa HA.out;have c0:=ca.cz 0;have c1:=ca.cz 1;have c2:=ca.cz 2;have c3:=ca.cz 3;have c4:=ca.cz 4;have c5:=ca.cz 5;have cf:=ca.free;clear ca;go_wp2_with fail
   refine bodyPost_ret (v:=f #[L #[J H 0,J O 0,J O 0,J O 0,Y Q 0 0,Y Q 0 0],C T]) (by simp [results,Tryz.results206,go_sem,c0,c1,c2,c3,c4,c5]) rfl ?_;exact⟨Q,0,Q,0,rfl,aR _ _,aH (aH (aH (aH (aH (aH yd.out (I _) _) (I _) _) (I _) _) (I _) _) (I _) _) (I _) _⟩
 ·obtain rfl:i=T:=by rw [<- hi];exact zp fun h=>hnm (by rw [yv];exact h.1)
  obtain rfl:z=zSl:=hz.symm;unfold slv zSl;have A5:((n:Int) != (m0:Int))=A:=by simp only [bne_iff_ne];omega
  clear hi hz yv yr hb h;go_enter Tryz.func206,Tryz.ntmps206
  go_wp2_with fail
  rw [<- bi,<- ci];refine(HZ.out _).mono ?_;rintro e wa ⟨rfl,ha⟩;have HA:=am ha;have yd:=am (ap jZ.out ha);clear bi ci b0 b1 z0 z1 ha;have ca:=zG.out wa HA.out;have c0:=ca.cz 0;have c1:=ca.cz 1;have c2:=ca.cz 2;have c3:=ca.cz 3;have c4:=ca.cz 4;have c5:=ca.cz 5;have cf:=ca.free;clear ca;go_wp2_with fail
  refine bodyPost_ret (v:=f #[L #[J H 0,J O 0,J O 0,J O 0,Y Q 0 0,Y Q 0 0],C T]) (by simp [results,Tryz.results206,go_sem,c0,c1,c2,c3,c4,c5]) rfl ?_;exact⟨Q,0,Q,0,rfl,aR _ _,aH (aH (aH (aH (aH (aH yd.out (I _) _) (I _) _) (I _) _) (I _) _) (I _) _) (I _) _⟩
end Go.Proofs.YtemlojjkokooeaaGreat
