import Derived.Test.YtemlojjkokooeaaGreatTm27
open Go.Value renaming slice->J,int->I,pointer->H
open Go.IntKind renaming i64->O
open Go.RowKit renaming Below->Q,Hid->S
open Go renaming Addr->Z,World->R
open Option renaming none->D,some->P
open Go.Proofs.Tryz renaming prog->y
open Go.Obj renaming cells->f
open Go.Ending renaming returned->l
open Go.RowKit.Below renaming refl->t
set_option maxHeartbeats 16000000
set_option maxRecDepth 100000
namespace Go.Proofs.YtemlojjkokooeaaGreat
open Go.RowKit
def ptl (Lc os:Nat->Nat) (nu:Int) (n:Nat) (T:Nat->Option Z) (U:Nat->Nat):Nat->List Value
  | 0=>[]
  | d+1=>if Lc d=0 then ptl Lc os nu n T U d else ptl Lc os nu n T U d ++ [.int .i64 (d:Int),.int .i64 nu,.int .i64 ((os d:Nat):Int),.slice (T d) n (U d)]
theorem eK{Lc os:Nat->Nat}{nu:Int}{n:Nat}{T T':Nat->Option Z}{U U':Nat->Nat}:∀ {d:Nat},(∀ i,i<d->T i=T' i/\U i=U' i)->ptl Lc os nu n T U d=ptl Lc os nu n T' U' d
 | 0,_=>rfl
 | d+1,h=>by
  rw [ptl,ptl,eK (d:=d) (fun i hi=>h i za),(h d za).1,(h d za).2]
structure Box (wz v:World) (gc gi gn gv:Nat) (k r c q:Int) (ro:Option Addr) (N rc:Nat) (kd:UInt8) (nu:Int) (vo:Option Addr) (vc:Nat) (lo:Option Addr) (cc:Nat):Prop where
  cells:At wz v gc #[.slice lo N cc] 33
  stand:At wz v gi #[.int .i64 k,.int .i64 r,.int .i64 c,.int .i64 q,.slice ro N rc,.int .u8 ((kd.toNat:Nat):Int)] 99
  num:At wz v gn #[.int .i64 nu] 3
  vec:At wz v gv #[.slice vo N vc] 27
theorem Box.below{wz v v':R}{gc gi gn gv:Nat}{k r c q:Int}{ro:Option Z}{N rc:Nat}{kd:UInt8}{nu:Int}{vo:Option Z}{vc:Nat}{lo:Option Z}{cc:Nat}(h:Box wz v gc gi gn gv k r c q ro N rc kd nu vo vc lo cc)(hb:b7 v v'):Box wz v' gc gi gn gv k r c q ro N rc kd nu vo vc lo cc :=
 ⟨h.cells.below hb,h.stand.below hb,h.num.below hb,h.vec.below hb⟩
theorem Box.only{wz v v':R}{gc gi gn gv gp m:Nat}{xs:List Value}{Y:Nat->Prop}{k r c q:Int}{ro:Option Z}{N rc:Nat}{kd:UInt8}{nu:Int}{vo:Option Z}{vc:Nat}{lo:Option Z}{cc:Nat}(h:Box wz v gc gi gn gv k r c q ro N rc kd nu vo vc lo cc)(hc:Cap wz v gp 43 56 4 m xs Y)(ho:Only Y v v'):Box wz v' gc gi gn gv k r c q ro N rc kd nu vo vc lo cc :=
 ⟨h.cells.only ho (du hc h.cells.2 zb zb),h.stand.only ho (du hc h.stand.2 zb zb),h.num.only ho (du hc h.num.2 zb zb),h.vec.only ho (du hc h.vec.2 zb zb)⟩
def Pts (wz:R) (gp:Nat) (bx:R->Prop) (Lc os:Nat->Nat) (nu:Int) (n:Nat) (G:Nat->Nat->UInt8) (d:Nat) (v:R) (Y:Nat->Prop):Prop :=
  ∃ T U,Cap wz v gp 43 56 4 (Cod.cnt Lc d) (ptl Lc os nu n T U d) Y/\(∀ i,i<d->Lc i ≠ 0->OwU wz.heap.size v (T i) n (U i) (G i))/\bx v
theorem tL{k r c q:Int}{N W:Nat}(h:Par k r c q N W 0)(wz v:R)(Gv:b7 wz v)(ro:Option Z)(rc:Nat)(A:Nat->Option Z)(L C:Nat->Nat)(F:Nat->Nat->UInt8)(hr:Rw wz ro N A L C F)(hL:∀ j,j<2*N->L j=0\/L j=sz N c)(kd:UInt8)(hk:kd=1\/kd=2)
  (gc gi gp gn gv d:Nat) (hd:d<N) (nu:Int) (vo:Option Z) (vc:Nat) (X:Nat->Int) (hv:Vec wz vo N vc X) (hX:∀ j,j<N->1<=X j/\X j<=1073741824) (lo:Option Z) (cc:Nat) (Tc:Nat->Option Z) (Lc Uc:Nat->Nat) (Dc:Nat->Nat->UInt8) (hl:RdC wz lo N Tc Lc Uc) (qv:∀ i,i<N->Bec wz (Tc i) (Lc i) (Uc i) (Dc i)) (Oz:Lc d=0\/Lc d=c.toNat)
  (z:Sl) (hz:0<=z.ce/\z.ce<=1073741824) (os:Nat->Nat) (C5:os d=oN (yy N c L F (2*d)) (yy N c L F (2*d+1)) kd z.ce) (Y:Nat->Prop) (ao:Option Z) (ca:Nat) (bo:Option Z) (cb:Nat)
  (hI:Pts wz gp (fun v=>Box wz v gc gi gn gv k r c q ro N rc kd nu vo vc lo cc) Lc os nu (sz N c) (fun i=>enc (slC kd N X c.toNat (Dc i) i)) d v Y) :
  Calls y 149 #[I O (d:Int),.agg #[J (A (2*d)) (L (2*d)) (C (2*d)),J (A (2*d+1)) (L (2*d+1)) (C (2*d+1))],slv z ao ca bo cb,H (P ⟨gc,0,D⟩),H (P ⟨gi,0,D⟩),H (P ⟨gp,0,D⟩),H (P ⟨gn,0,D⟩),H (P ⟨gv,0,D⟩)] v fun e v'=>e=l (.tuple #[])/\∃ Y',Pts wz gp (fun v=>Box wz v gc gi gn gv k r c q ro N rc kd nu vo vc lo cc) Lc os nu (sz N c) (fun i=>enc (slC kd N X c.toNat (Dc i) i)) (d+1) v' Y'/\Only Y v v'/\∀ g,Y' g->Y g\/v.heap.size<=g:=by
 have qe:=h.le;obtain⟨T,U,hcap,hT,EH⟩:=hI;obtain⟨lb,Qf,rfl,Kz⟩:=hl za;have c0:=Kz d hd;obtain⟨v0,hv0⟩:=fd (v.alloc (f #[J (A (2*d)) (L (2*d)) (C (2*d)),J (A (2*d+1)) (L (2*d+1)) (C (2*d+1))] 97))
 obtain⟨v1,xT⟩:=fd (v0.alloc (f #[I .u8 ((z.kd.toNat:Nat):Int),I O z.ix,I O z.ce,I O z.st,J ao z.vn ca,J bo z.dn cb] 107))
 have b0:=jt hv0
 have b1:b7 v v1:=by rw [xT];exact ap b0 (bal _ _)
 have jZ:=am b1;have zr:=am (Gv.trans (b1.mono Gv.size));have g0:=fun o o'=>((EH.cells.alloc o).alloc o').cz 0;have e0:∀ o o',((v.alloc o).alloc o').cell? ⟨lb,Qf+d,D⟩=P (J (Tc d) (Lc d) (Uc d)):=fun o o'=>held c0 (Gv.trans ((ap (bal v o) (bal _ o')).mono Gv.size));have i1:(0:Int)<=(d:Int):=za
 have i2:(d:Int)<(N:Int):=za;unfold slv;by_cases hz0:Lc d=0
 ·have FA:((Lc d:Int) == 0)=true:=by simp [hz0]
  have Wx:S (Pts wz gp (fun v=>Box wz v gc gi gn gv k r c q ro N rc kd nu vo vc (P ⟨lb,Qf,D⟩) cc) Lc os nu (sz N c) (fun i=>enc (slC kd N X c.toNat (Dc i) i)) (d+1) v1 Y):=by
   refine⟨T,U,?_,fun i hi f9=>?_,EH.below b1⟩
   ·rw [Cod.cnt_skip hz0,ptl,zk hz0];exact hcap.below b1
   ·by_cases e:i=d
    ·rw [e] at f9;exact absurd hz0 f9
    ·exact(hT i za f9).below b1
  clear h hr hL hv hX hl qv hT hcap EH Kz c0 C5 b0;go_enter Tryz.func149,Tryz.ntmps149
  go_wp2_with fail
  rw [<- hv0,<- xT];refine bodyPost_ret (results_none rfl _ _ _) rfl ?_;exact⟨rfl,Y,Wx.out,.of_below b1,fun g hg=>.inl hg⟩
 ·have FA:((Lc d:Int) == 0)=false:=by simp [hz0]
  have Mw:Lc d=c.toNat:=Oz.resolve_left hz0;have hO:=fun u hu=>tZ h u _ _ _ _ _ _ _ _ ((hr.below hu).bec (2*d) za) ((hr.below hu).bec (2*d+1) za) kd (d:Int) z.ce 0 (by unfold erO;rw [zk (vl hk (hL _ za) (hL _ za) hd),zk hz]) (yy N c L F (2*d)) (yy N c L F (2*d+1)) (by unfold yy;rw [show 2*d / 2=d by omega]) (by unfold yy;rw [show (2*d+1) / 2=d by omega]);rw [<- C5] at hO;have Wy:S (∀ u,b7 wz u->_):=fun u (hu:b7 wz u)=>hO u hu;have FS:S (∀ u,b7 wz u->Calls y 151 #[stv k r c q ro N rc kd,I O (d:Int),J vo N vc,J (Tc d) (Lc d) (Uc d)] u fun e w'=>∃ ao b8,e=l (J ao (sz N c) b8)/\OwU u.heap.size w' ao (sz N c) b8 (enc (slC kd N X c.toNat (Dc d) d))/\b7 u w'):=fun u hu=>by
   have jP:=(qv d hd).below hu;rw [Mw] at jP ⊢;exact uO h u ro N rc kd hk d hd vo vc X (hv.below hu) hX (Tc d) (Uc d) (Dc d) jP
  have Qg:=Cod.cnt_le Lc d;obtain⟨m,hm⟩:=fd (Cod.cnt Lc d)
  obtain⟨xs,xV⟩:=fd (ptl Lc os nu (sz N c) T U d)
  rw [<- hm] at Qg;have EC:S (Cap wz v1 gp 43 56 4 m xs Y):=by show Cap _ _ _ _ _ _ _ _ _;rw [hm,xV];exact hcap.below b1
  have S4:S (m=Cod.cnt Lc d/\xs=ptl Lc os nu (sz N c) T U d):=⟨hm,xV⟩
  have HT:=am fun i (hi:i<d)(f9:Lc i ≠ 0)=>(hT i hi f9).below b1;have Qh:=am (EH.below b1);have D5:=am fun u (hu:b7 wz u)=>held c0 hu;have Wz:=am (World.block_lt_of_cell? wz _ c0);have k0:=fun o o'=>((EH.stand.alloc o).alloc o').cz 0;have k1:=fun o o'=>((EH.stand.alloc o).alloc o').cz 1;have k2:=fun o o'=>((EH.stand.alloc o).alloc o').cz 2;have k3:=fun o o'=>((EH.stand.alloc o).alloc o').cz 3;have k5:=fun o o'=>((EH.stand.alloc o).alloc o').cz 5;have S5:=am hz0;clear h hr hL hv hX hl qv hT hcap EH Kz c0 b0 b1 hm xV hO Mw hz0 C5;unfold stv at FS;go_enter Tryz.func149,Tryz.ntmps149
  go_wp2_with fail
  rw [<- hv0,<- xT];clear hv0 xT;refine(Wy.out _ zr.out).mono ?_;rintro e wa ⟨rfl,ha⟩;have yN:=am ha;have FN:=am (zr.out.trans (ha.mono zr.out.size));have Mx:=EC.out.below ha;have Qi:=Mx;obtain⟨oo,oc,ED,em,S6⟩:=Qi;have S7:=Qh.out.below ha;clear ha g0 e0 k0 k1 k2 k3 k5;go_wp2_with fail
  refine wp_region_noPanic (pH wz wa k r c q ro N rc kd d (os d) gc gi gp gn gv lb Qf N cc N vc (Lc d) (Uc d) (sz N c) m oc nu vo (Tc d) oo (enc (slC kd N X c.toNat (Dc d) d)) xs Y _ _ _ _ _ _ _ _ _ _ _ _ _ _ _ _ _ _ _ _ _ _ _ _ _ _ _ _ _ _ _ _ _ _ _ _ _ _ _ (fun u hu=>?_) ED em S6 za (Nat.le_trans ED.1 (Nat.le_of_lt ED.lt)) i1 i2 (fun u hu=>FS.out u (FN.out.trans (hu.mono FN.out.size))) _ (fun _ _ _ h=>h) (fun v' Y' Ls IR g2 g5 ky hC Qj WA jF=>NoPanic.normal ?_))
  ·have jP:=S7.only Mx hu;refine⟨jP.stand.cz 0,jP.stand.cz 1,jP.stand.cz 2,jP.stand.cz 3,jP.stand.cz 4,jP.stand.cz 5,jP.num.cz 0,jP.vec.cz 0,jP.cells.cz 0,?_⟩;refine hu.cell (D5.out wa FN.out) fun hy=>?_;have:=(Mx.at_ _ hy).1;have:=Wz.out;simp only at *;omega
  ·have ku:=S7.only Mx Qj;go_wp2_with fail
   refine bodyPost_end (results_none rfl _ _ _) rfl ?_;refine⟨rfl,Y',⟨Cod.put d Ls T,Cod.put d IR U,?_,fun i hi f9=>?_,ku⟩,(Only.of_below (ap jZ.out yN.out)).trans Qj,fun g hg=>?_⟩
   ·rw [Cod.cnt_take S5.out,<- S4.out.1,ptl,zl S5.out,Cod.put_at,Cod.put_at,eK (T':=T) (U':=U) (fun i hi=>⟨Cod.put_ne _ _ za,Cod.put_ne _ _ za⟩),<- S4.out.2];exact hC
   ·by_cases e:i=d
    ·subst e;rw [Cod.put_at,Cod.put_at];exact jF.mono (Nat.le_trans ED.1 (Nat.le_of_lt ED.lt))
    ·rw [Cod.put_ne _ _ e,Cod.put_ne _ _ e];exact fq ((HT.out i za f9).below yN.out) Mx zb zb Qj
   ·rcases WA g hg with a | a
    ·exact .inl ((S6 g).1 a)
    ·exact .inr (Nat.le_trans (ap jZ.out yN.out).size a)
structure PL (B:Nat) (w:World) (ao:Option Addr) (m b8 N:Nat) (Lc os:Nat->Nat) (nu:Int) (n:Nat) (T:Nat->Option Addr) (U:Nat->Nat) (G:Nat->Nat->UInt8):Prop where
  out:w.ownsRow B 56 4 (.slice ao m b8) m (ptl Lc os nu n T U N)
  row:∀ i,i<N->Lc i ≠ 0->OwU B w (T i) n (U i) (G i)
theorem PL.below{B:Nat}{w w':R}{ao:Option Z}{m b8 N:Nat}{Lc os:Nat->Nat}{nu:Int}{n:Nat}{T:Nat->Option Z}{U:Nat->Nat}{G:Nat->Nat->UInt8}(h:PL B w ao m b8 N Lc os nu n T U G)(hb:b7 w w'):PL B w' ao m b8 N Lc os nu n T U G :=
 ⟨ar h.out hb,fun i hi hn=>(h.row i hi hn).below hb⟩
theorem dz{B B':Nat}{w:R}{e s n:Nat}{v:Value}{xs:List Value}(h:w.ownsRow B e s v n xs)(hb:B'<=B):w.ownsRow B' e s v n xs:=by
 refine⟨h.1,?_⟩;rcases h.2 with h1 | ⟨g,jy,jw,h1,h2,h3⟩
 ·exact .inl h1
 ·exact .inr ⟨g,jy,jw,h1,za,h3⟩
theorem PL.mono{B B':Nat}{w:R}{ao:Option Z}{m b8 N:Nat}{Lc os:Nat->Nat}{nu:Int}{n:Nat}{T:Nat->Option Z}{U:Nat->Nat}{G:Nat->Nat->UInt8}(h:PL B w ao m b8 N Lc os nu n T U G)(hb:B'<=B):PL B' w ao m b8 N Lc os nu n T U G :=
 ⟨dz h.out hb,fun i hi hn=>(h.row i hi hn).mono hb⟩
theorem Eb{N:Nat}{c:Int}{L:Nat->Nat}{F:Nat->Nat->UInt8}{kd:UInt8}{v:Int}{i:Nat}(hi:i<N):0<=(zv N c L F kd v i).ce/\(zv N c L F kd v i).ce<=1073741824:=by
 unfold zv;rcases Dp (kd:=kd) (cL N c L F) (tS (yy N c L F) kd v (2*N)) hi with h | ⟨h,_⟩
 ·rw [h];exact⟨Int.le_refl 0,zb⟩
 ·have:=(bD h.1).V i hi;rw [h.ce];omega
def osl (N:Nat) (c:Int) (L:Nat->Nat) (F:Nat->Nat->UInt8) (kd:UInt8) (ke:Int) (i:Nat):Nat:=oN (yy N c L F (2*i)) (yy N c L F (2*i+1)) kd (zv N c L F kd ke i).ce
theorem nV{k r c q:Int}{N W:Nat}(h:Par k r c q N W 0)(w:R)(ro:Option Z)(rc:Nat)(A:Nat->Option Z)(L C:Nat->Nat)(F:Nat->Nat->UInt8)(hr:Rw w ro N A L C F)(hL:∀ j,j<2*N->L j=0\/L j=sz N c)(kd:UInt8)(hk:kd=1\/kd=2)(nu ke:Int)
  (vo:Option Z) (vc:Nat) (X:Nat->Int) (hv:Vec w vo N vc X) (hX:∀ j,j<N->1<=X j/\X j<=1073741824) (lo:Option Z) (cc:Nat) (Tc:Nat->Option Z) (Lc Uc:Nat->Nat) (Dc:Nat->Nat->UInt8) (hl:RdC w lo N Tc Lc Uc) (qv:∀ i,i<N->Bec w (Tc i) (Lc i) (Uc i) (Dc i)) (Oz:∀ i,i<N->Lc i=0\/Lc i=c.toNat) :
  Calls y 83 #[stv k r c q ro N rc kd,I O nu,I O ke,J vo N vc,J lo N cc] w fun e w'=>∃ ao b8 T U,e=l (J ao (Cod.cnt Lc N) b8)/\PL w.heap.size w' ao (Cod.cnt Lc N) b8 N Lc (osl N c L F kd ke) nu (sz N c) T U (fun i=>enc (slC kd N X c.toNat (Dc i) i))/\b7 w w':=by
 have Ie:S (∀ wf gc gi gp gn gv Y,b7 w wf->Cap w wf gp 43 56 4 0 [] Y->Box w wf gc gi gn gv k r c q ro N rc kd nu vo vc lo cc->Calls y 71 #[stv k r c q ro N rc kd,I O ke,.func (.func 149) #[] #[H (P ⟨gc,0,D⟩),H (P ⟨gi,0,D⟩),H (P ⟨gp,0,D⟩),H (P ⟨gn,0,D⟩),H (P ⟨gv,0,D⟩)]] wf fun e w'=>e=l (.tuple #[])/\∃ Y',Pts w gp (fun v=>Box w v gc gi gn gv k r c q ro N rc kd nu vo vc lo cc) Lc (osl N c L F kd ke) nu (sz N c) (fun i=>enc (slC kd N X c.toNat (Dc i) i)) N w' Y'/\Only Y wf w'/\∀ g,Y' g->Y g\/wf.heap.size<=g):=fun wf gc gi gp gn gv Y hb hc hx=>by
  refine iD h w wf hb ro rc A L C F hr hL kd hk ke _ rfl 149 _ (Pts w gp (fun v=>Box w v gc gi gn gv k r c q ro N rc kd nu vo vc lo cc) Lc (osl N c L F kd ke) nu (sz N c) (fun i=>enc (slC kd N X c.toNat (Dc i) i))) ⟨fun _ _=>rfl,fun d a b Y hI hb=>?_,fun d a Y hI g hg=>?_,fun d hd u Y B hI WB hB ao ca bo cb hg=>?_⟩ _ ⟨fun _=>D,fun _=>0,hc,fun i hi=>absurd hi za,hx⟩
  ·obtain⟨T,U,h1,h2,h3⟩:=hI;exact⟨T,U,h1.below hb,fun i hi hn=>(h2 i hi hn).below hb,h3.below hb⟩
  ·obtain⟨T,U,h1,_⟩:=hI;exact h1.at_ g hg
  ·exact tL h w u WB ro rc A L C F hr hL kd hk gc gi gp gn gv d hd nu vo vc X hv hX lo cc Tc Lc Uc Dc hl qv (Oz d hd) (zv N c L F kd ke d) (Eb hd) (osl N c L F kd ke) rfl Y ao ca bo cb hI
 obtain⟨w0,bi⟩:=fd (w.alloc (f #[I O k,I O r,I O c,I O q,J ro N rc,I .u8 ((kd.toNat:Nat):Int)] 99))
 obtain⟨w1,ci⟩:=fd (w0.alloc (f #[I O nu] 3))
 obtain⟨w2,jz⟩:=fd (w1.alloc (f #[J vo N vc] 27))
 obtain⟨w3,n9⟩:=fd (w2.alloc (f #[J lo N cc] 33))
 obtain⟨w4,Hw⟩:=fd (w3.alloc (f #[J D 0 0] 43))
 have b0:=jt bi
 have b1:=jt ci
 have b2:=jt jz
 have b3:=jt n9
 have b4:=jt Hw
 have z0:=ks bi
 have z1:w1.heap.size=w.heap.size+1+1:=by rw [ci];simp [z0]
 have z2:w2.heap.size=w.heap.size+1+1+1:=by rw [jz];simp [z1]
 have z3:w3.heap.size=w.heap.size+1+1+1+1:=by rw [n9];simp [z2]
 have c1:=ap b0 b1;have c2:=ap c1 b2;have c3:=ap c2 b3;have c4:=ap c3 b4;have xQ:Box w w4 (w.heap.size+1+1+1) w.heap.size (w.heap.size+1) (w.heap.size+1+1) k r c q ro N rc kd nu vo vc lo cc :=
  ⟨by rw [<- z2];exact(ah c2 n9).below b4,(ah (t _ _) bi).below (ap (ap (ap b1 b2) b3) b4),by rw [<- z0];exact(ah b0 ci).below (ap (ap b2 b3) b4),by rw [<- z1];exact(ah c1 jz).below (ap b3 b4)⟩
 have Fe:=Ie.out w4 (w.heap.size+1+1+1) w.heap.size (w.heap.size+1+1+1+1) (w.heap.size+1) (w.heap.size+1+1) (fun x=>x=w.heap.size+1+1+1+1) c4 (sZ c3 Hw z3) xQ;have qj:=am c4;clear h hr hL hv hX hl qv Oz Ie xQ c1 c2 c3 c4 b0 b1 b2 b3 b4 z0 z1 z2 z3;unfold stv at Fe ⊢;go_enter Tryz.func83,Tryz.ntmps83
 go_wp2_with fail
 rw [<- bi,<- ci,<- jz,<- n9,<- Hw];clear bi ci jz n9 Hw;refine Fe.mono ?_;rintro e wf ⟨rfl,Y,⟨T,U,⟨ao,b8,ED,em,_⟩,hT,_⟩,hO,_⟩;have s0:=ED.cz 0;go_wp2_with fail
 go_ret;exact⟨ao,b8,T,U,rfl,⟨em,hT⟩,qj.out.trans (hO.below (fun i hi=>by omega) qj.out.size)⟩
theorem Do{x:Int}(h:-9223372036854775808<=x/\x<=9223372036854775807):IntKind.i64.wrap x=x:=by rw [IntKind.wrap_i64];omega
theorem val_mul{i m p:Nat}(h:p=i*m)(hp:p<=100000):Value.int O (wrap64 ((i:Int)*(m:Int)))=I O (p:Int)/\Value.int O (IntKind.i64.wrap ((i:Int)*(m:Int)))=I O (p:Int):=by
 rw [<- Int.natCast_mul,<- h,w64 _ ⟨za,za⟩,Do ⟨za,za⟩];exact⟨rfl,rfl⟩
theorem oQ{i m p:Nat}(h:p+m=(i+1)*m)(hp:p+m<=100000):Value.int O (wrap64 (((i:Int)+1)*(m:Int)))=I O ((p+m:Nat):Int)/\Value.int O (IntKind.i64.wrap (((i:Int)+1)*(m:Int)))=I O ((p+m:Nat):Int):=by
 have e:(i:Int)+1=((i+1:Nat):Int):=za;rw [e,<- Int.natCast_mul,<- h,w64 _ ⟨za,za⟩,Do ⟨za,za⟩];exact⟨rfl,rfl⟩
theorem Bl{K m:Nat}(r q:Int)(w:R)(b off dn dc:Nat)(hK:K<=12)(yv:0<m)(hm:m<=64)(xG:dn=K*m)(WC:dn<=dc):
    Calls y 80 #[.agg #[I O (K:Int),I O r,I O (m:Int),I O q],J (P ⟨b,off,D⟩) dn dc] w fun e w'=>∃ ao b8,e=l (J ao K b8)/\w'.ownsRow w.heap.size 36 1 (J ao K b8) K (Cod.rowsOf K (fun i=>P ⟨b,off+i*m,D⟩) (fun _=>m) (fun _=>m))/\b7 w w':=by
  obtain⟨j0,hj,kE,kB,kt⟩:=info_parts Cod.info23c
  obtain⟨w0,bi⟩:=fd (w.alloc (f #[I O (K:Int),I O r,I O (m:Int),I O q] 23))
  have B0:S (b7 w w0):=by show Q _ _ _;rw [bi];exact bal _ _
  have L0:=am fun v (hv:b7 w0 v)=>(ah (t _ _) bi).below hv
  have A9:S (w0.heap.size=w.heap.size+1):=by show _=_;rw [bi];simp
  have My:=am xG
  have Ja:=am fun i (hi:i<=K)=>fC hi za hm
  clear xG
  go_enter Tryz.func80,Tryz.ntmps80
  go_wp2_with fail
  rw [<- bi]
  have p0:=(L0.out w0 (t _ _)).cz 0
  clear bi
  go_wp2_with fail
  go_loopw [5,11] (fun s x wr=>∃ i:Nat,i<=K/\x=I O (i:Int)/\∃ ao c,s=J ao i c/\S (wr.ownsRow w0.heap.size 36 1 (J ao i c) i (Cod.rowsOf i (fun i=>P ⟨b,off+i*m,D⟩) (fun _=>m) (fun _=>m)))/\S (b7 w0 wr)) (fun _ x _=>K-(intOf x).toNat)
  case atStart=>exact⟨0,Nat.zero_le _,rfl,D,0,rfl,World.ownsRow_nil _ _ _ _,t _ _⟩
  case round =>
    obtain⟨i,hi,rfl,ao,cp,rfl,em,d8⟩:=hrel
    by_cases hlt:i<K
    · have q2:=(L0.out wr d8.out).cz 2
      obtain⟨p,hp⟩:=fd (i*m)
      have Ig:p+m=(i+1)*m:=by rw [hp,Nat.succ_mul]
      have WD:p+m<=dn:=by rw [My.out,Ig];exact Nat.mul_le_mul_right m hlt
      have WE:p+m<=1024:=by rw [Ig];exact Ja.out _ hlt
      obtain⟨v1,v3⟩:=val_mul hp za
      obtain⟨v2,v4⟩:=oQ Ig za
      have HP:=am hp
      clear hp Ig
      go_wp2_with fail
      go_quiet (fail)
      obtain⟨wd,jN⟩:=fd (wr.drewN nq)
      have bd:b7 wr wd:=by rw [jN];exact below_drewN _ _ _
      rw [<- jN]
      have kR:=am (ar em.out bd)
      have Fp:=am (ap d8.out bd)
      obtain⟨xs,xV⟩:=fd (Cod.rowsOf i (fun i=>P (⟨b,off+i*m,D⟩:Z)) (fun _=>m) (fun _=>m))
      rw [<- xV] at kR
      have HX:S (xs ++ [J (P ⟨b,off+p,D⟩) m m]=Cod.rowsOf (i+1) (fun i=>P ⟨b,off+i*m,D⟩) (fun _=>m) (fun _=>m)):=by
        show _=_
        unfold Cod.rowsOf at xV ⊢
        rw [List.range_succ,List.map_append,List.map_cons,List.map_nil,xV,HP.out]
      have i1:(0:Int)<=(p:Int):=za;have i2:(p:Int)<=(p:Int)+(m:Int):=za;have i3:(p:Int)+(m:Int)<=(dc:Int):=za;have i4:¬ (p:Int)+(m:Int)<0:=za;clear jN bd xV em v1 v2 v3 v4 q2
      go_wp2_with (at_builtin;refine wpList_append_lies _ zg (.tmp 23) (.tmp 29) 33 zg w0.heap.size 36 j0 (J D 0 0) 1 24 Tryz.underlying33 hj kE kB kt zg zb (J ao i cp) i xs zg (ar kR.out (bal _ _)) ⟨wd.heap.size, 0, D⟩ 1 1 [J (P ⟨b, off + p, D⟩) m m] (by simp [Act.eval]) zg (World.news_of_block (heap_alloc_new wd _)) (by simp [Value.oneCell']) zb (by unfold maxLen;omega) za (by have := Fp.out.size;simp;omega) (wd.heap.size + 1) zi ?_;intro g5 ky w5 jG i7 _ _
                   have yR:S (w5.ownsRow w0.heap.size 36 1 (J (P ⟨g5,0,D⟩) (i+1) ky) (i+1) (Cod.rowsOf (i+1) (fun i=>P ⟨b,off+i*m,D⟩) (fun _=>m) (fun _=>m))):=by rw [<- HX.out];exact jG
                   have yT:S (b7 w0 w5):=(ap Fp.out (bal _ _)).grown i7 (by have:=Fp.out.size;simp;omega) (fun r hr=>(kR.out.lt r hr).1)
                   clear jG i7)
      go_roundw
      case rel=>exact⟨i+1,za,by go_num,_,ky,rfl,yR.out,yT.out⟩
      case measure=>simp [intOf];omega
    · obtain rfl:i=K:=za
      go_wp2_with fail
      go_ret
      exact⟨ao,cp,rfl,dz em.out B0.out.size,ap B0.out d8.out⟩
end Go.Proofs.YtemlojjkokooeaaGreat
