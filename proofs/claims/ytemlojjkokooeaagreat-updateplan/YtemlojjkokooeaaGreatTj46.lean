import Derived.Test.YtemlojjkokooeaaGreatTj45
set_option maxHeartbeats 8000000
set_option maxRecDepth 100000
namespace Go.Proofs.YtemlojjkokooeaaGreat
open Go.RowKit
theorem RAsk13_yes{K R m:Nat}{q:Int}{N W:Nat}(h:Par (K:Int) (R:Int) (m:Int) q N W 0)(w:World)(ro:Option Addr)(rc:Nat)(A:Nat->Option Addr)(L C:Nat->Nat)(F:Nat->Nat->UInt8)(hr:Rw w ro N A L C F)(hL:∀ j,j<2*N->L j=0\/L j=sz N (m:Int))(nu fr tv:Int)(hfr:1<=fr/\fr<=1073741824)
  (lo:Option Addr) (n lc:Nat) (D:Nat->Int) (AA:Nat->Option Addr) (LL CC:Nat->Nat) (H:Nat->Nat->UInt8) (hl:Chl w lo n lc D AA LL CC H) (hn:n<=100) (E:Int) (hE:erPl q nu fr tv (erG D LL (K:Int) m n) 0=E) :
  Calls Tryz.prog 95 #[.agg #[.int .i64 (K:Int),.int .i64 (R:Int),.int .i64 (m:Int),.int .i64 q],.slice ro N rc,.int .i64 nu,.int .i64 fr,.int .i64 tv,.slice lo n lc] w fun e w'=>e=.returned (.int .i64 E)/\Below w.heap.size w w':=by
 obtain⟨w0,hw0⟩:∃ w0,w0=w.alloc (.cells #[.int .i64 (K:Int),.int .i64 (R:Int),.int .i64 (m:Int),.int .i64 q] 23):=⟨_,rfl⟩
 have B0:Hid (Below w.heap.size w w0):=by show Below _ _ _; rw [hw0]; exact bal _ _
 have L0:Hid (∀ v,Below w0.heap.size w0 v->At w v w.heap.size #[.int .i64 (K:Int),.int .i64 (R:Int),.int .i64 (m:Int),.int .i64 q] 23):=fun v hv=>(at_made (Below.refl _ _) hw0).below hv;obtain⟨mb,hmb⟩:∃ mb,may (K:Int) (R:Int) (m:Int) q=mb:=⟨_,rfl⟩
 have HM:Hid (∀ v,Calls Tryz.prog 110 #[.agg #[.int .i64 (K:Int),.int .i64 (R:Int),.int .i64 (m:Int),.int .i64 q]] v fun e w'=>e=.returned (.bool mb)/\Below v.heap.size v w'):=fun v=>by rw [<- hmb]; exact May_any (K:Int) (R:Int) (m:Int) q v
 have hm2:=h.may;rw [hmb] at hm2;obtain rfl:mb=true:=by rw [hm2]; rfl
 have HRW:Hid (∀ u,Below w.heap.size w u->Calls Tryz.prog 134 #[.agg #[.int .i64 (K:Int),.int .i64 (R:Int),.int .i64 (m:Int),.int .i64 q],.slice ro N rc] u fun e w'=>e=.returned (.bool true)/\Below u.heap.size u w'):=fun u hu=>RRow_any h u ro N rc A L C F (hr.below hu) true (decide_eq_true ⟨rfl,hL⟩);have HFR:Hid (∀ u,Calls Tryz.prog 103 #[.int .i64 fr] u fun e w'=>e=.returned (.bool true)/\w'=u):=fun u=>by
  have e:=Version_any fr u;rw [show verB fr=true from decide_eq_true hfr] at e; exact e
 have HE:Hid (erPl q nu fr tv (erG D LL (K:Int) m n) 0=E):=hE;have HLL:Hid (Chl w lo n lc D AA LL CC H):=hl;clear hr hmb hm2 h hL hE hl;by_cases g1:nu<0
 ·obtain rfl:E=2:=by rw [<- HE.out]; unfold erPl; exact if_neg (by omega)
  go_enter Tryz.func95,Tryz.ntmps95
  go_wp2_with fail
  rw [<- hw0];clear hw0;refine(HM.out _).mono ?_;rintro e wa ⟨rfl,ha⟩;have BA:Hid (Below w0.heap.size w0 wa):=ha;clear ha;have pq:=L0.out wa BA.out;have s0:=pq.cell (i:=0) rfl;have s1:=pq.cell (i:=1) rfl;have s2:=pq.cell (i:=2) rfl;have s3:=pq.cell (i:=3) rfl;clear pq;go_wp2_with fail
  refine(HRW.out _ (bth B0.out BA.out)).mono ?_;rintro e wb ⟨rfl,hb⟩;have BB:Hid (Below w0.heap.size w0 wb):=bth BA.out hb;clear hb s0 s1 s2 s3;have pq:=L0.out wb BB.out;have s0:=pq.cell (i:=0) rfl;have s1:=pq.cell (i:=1) rfl;have s2:=pq.cell (i:=2) rfl;have s3:=pq.cell (i:=3) rfl;clear pq;go_wp2_with fail
  go_ret;exact⟨rfl,bth B0.out BB.out⟩
 by_cases g2:q<=nu
 ·obtain rfl:E=2:=by rw [<- HE.out]; unfold erPl; exact if_neg (by omega)
  go_enter Tryz.func95,Tryz.ntmps95
  go_wp2_with fail
  rw [<- hw0];clear hw0;refine(HM.out _).mono ?_;rintro e wa ⟨rfl,ha⟩;have BA:Hid (Below w0.heap.size w0 wa):=ha;clear ha;have pq:=L0.out wa BA.out;have s0:=pq.cell (i:=0) rfl;have s1:=pq.cell (i:=1) rfl;have s2:=pq.cell (i:=2) rfl;have s3:=pq.cell (i:=3) rfl;clear pq;go_wp2_with fail
  refine(HRW.out _ (bth B0.out BA.out)).mono ?_;rintro e wb ⟨rfl,hb⟩;have BB:Hid (Below w0.heap.size w0 wb):=bth BA.out hb;clear hb s0 s1 s2 s3;have pq:=L0.out wb BB.out;have s0:=pq.cell (i:=0) rfl;have s1:=pq.cell (i:=1) rfl;have s2:=pq.cell (i:=2) rfl;have s3:=pq.cell (i:=3) rfl;clear pq;go_wp2_with fail
  go_ret;exact⟨rfl,bth B0.out BB.out⟩
 by_cases g3:¬ (1<=tv/\tv<=1073741824)
 ·have HTV:Hid (∀ u,Calls Tryz.prog 103 #[.int .i64 tv] u fun e w'=>e=.returned (.bool false)/\w'=u):=fun u=>by
   have e:=Version_any tv u;rw [show verB tv=false from decide_eq_false g3] at e; exact e
  obtain rfl:E=2:=by rw [<- HE.out]; unfold erPl; exact if_neg (by omega)
  go_enter Tryz.func95,Tryz.ntmps95
  go_wp2_with fail
  rw [<- hw0];clear hw0;refine(HM.out _).mono ?_;rintro e wa ⟨rfl,ha⟩;have BA:Hid (Below w0.heap.size w0 wa):=ha;clear ha;have pq:=L0.out wa BA.out;have s0:=pq.cell (i:=0) rfl;have s1:=pq.cell (i:=1) rfl;have s2:=pq.cell (i:=2) rfl;have s3:=pq.cell (i:=3) rfl;clear pq;go_wp2_with fail
  refine(HRW.out _ (bth B0.out BA.out)).mono ?_;rintro e wb ⟨rfl,hb⟩;have BB:Hid (Below w0.heap.size w0 wb):=bth BA.out hb;clear hb s0 s1 s2 s3;have pq:=L0.out wb BB.out;have s0:=pq.cell (i:=0) rfl;have s1:=pq.cell (i:=1) rfl;have s2:=pq.cell (i:=2) rfl;have s3:=pq.cell (i:=3) rfl;clear pq;go_wp2_with fail
  refine(HFR.out _).mono ?_;rintro e wv ⟨rfl,rfl⟩;go_wp2_with fail
  refine(HTV.out _).mono ?_;rintro e wv ⟨rfl,rfl⟩;go_wp2_with fail
  go_ret;exact⟨rfl,bth B0.out BB.out⟩
 have g3:=Classical.not_not.1 g3;have HTV:Hid (∀ u,Calls Tryz.prog 103 #[.int .i64 tv] u fun e w'=>e=.returned (.bool true)/\w'=u):=fun u=>by
  have e:=Version_any tv u;rw [show verB tv=true from decide_eq_true g3] at e; exact e
 by_cases g4:tv<=fr
 ·obtain rfl:E=2:=by rw [<- HE.out]; unfold erPl; exact if_neg (by omega)
  go_enter Tryz.func95,Tryz.ntmps95
  go_wp2_with fail
  rw [<- hw0];clear hw0;refine(HM.out _).mono ?_;rintro e wa ⟨rfl,ha⟩;have BA:Hid (Below w0.heap.size w0 wa):=ha;clear ha;have pq:=L0.out wa BA.out;have s0:=pq.cell (i:=0) rfl;have s1:=pq.cell (i:=1) rfl;have s2:=pq.cell (i:=2) rfl;have s3:=pq.cell (i:=3) rfl;clear pq;go_wp2_with fail
  refine(HRW.out _ (bth B0.out BA.out)).mono ?_;rintro e wb ⟨rfl,hb⟩;have BB:Hid (Below w0.heap.size w0 wb):=bth BA.out hb;clear hb s0 s1 s2 s3;have pq:=L0.out wb BB.out;have s0:=pq.cell (i:=0) rfl;have s1:=pq.cell (i:=1) rfl;have s2:=pq.cell (i:=2) rfl;have s3:=pq.cell (i:=3) rfl;clear pq;go_wp2_with fail
  refine(HFR.out _).mono ?_;rintro e wv ⟨rfl,rfl⟩;go_wp2_with fail
  refine(HTV.out _).mono ?_;rintro e wv ⟨rfl,rfl⟩;go_wp2_with fail
  go_ret;exact⟨rfl,bth B0.out BB.out⟩
 have HE2:Hid (erG D LL (K:Int) m n=E):=by
  show _=_;rw [<- HE.out]; unfold erPl;rw [if_pos ⟨by omega,by omega,by omega,by omega⟩];split
  ·assumption
  ·rfl
 by_cases g5:n=0
 ·obtain rfl:E=2:=by rw [<- HE2.out]; unfold erG; exact if_neg (by omega)
  subst g5;go_enter Tryz.func95,Tryz.ntmps95
  go_wp2_with fail
  rw [<- hw0];clear hw0;refine(HM.out _).mono ?_;rintro e wa ⟨rfl,ha⟩;have BA:Hid (Below w0.heap.size w0 wa):=ha;clear ha;have pq:=L0.out wa BA.out;have s0:=pq.cell (i:=0) rfl;have s1:=pq.cell (i:=1) rfl;have s2:=pq.cell (i:=2) rfl;have s3:=pq.cell (i:=3) rfl;clear pq;go_wp2_with fail
  refine(HRW.out _ (bth B0.out BA.out)).mono ?_;rintro e wb ⟨rfl,hb⟩;have BB:Hid (Below w0.heap.size w0 wb):=bth BA.out hb;clear hb s0 s1 s2 s3;have pq:=L0.out wb BB.out;have s0:=pq.cell (i:=0) rfl;have s1:=pq.cell (i:=1) rfl;have s2:=pq.cell (i:=2) rfl;have s3:=pq.cell (i:=3) rfl;clear pq;go_wp2_with fail
  refine(HFR.out _).mono ?_;rintro e wv ⟨rfl,rfl⟩;go_wp2_with fail
  refine(HTV.out _).mono ?_;rintro e wv ⟨rfl,rfl⟩;go_wp2_with fail
  go_ret;exact⟨rfl,bth B0.out BB.out⟩
 have g6:((n:Int) == 0)=false:=by simp; omega
 go_enter Tryz.func95,Tryz.ntmps95
 go_wp2_with fail
 rw [<- hw0];clear hw0;refine(HM.out _).mono ?_;rintro e wa ⟨rfl,ha⟩;have BA:Hid (Below w0.heap.size w0 wa):=ha;clear ha;have pq:=L0.out wa BA.out;have s0:=pq.cell (i:=0) rfl;have s1:=pq.cell (i:=1) rfl;have s2:=pq.cell (i:=2) rfl;have s3:=pq.cell (i:=3) rfl;clear pq;go_wp2_with fail
 refine(HRW.out _ (bth B0.out BA.out)).mono ?_;rintro e wb ⟨rfl,hb⟩;have BB:Hid (Below w0.heap.size w0 wb):=bth BA.out hb;clear hb s0 s1 s2 s3;have pq:=L0.out wb BB.out;have s0:=pq.cell (i:=0) rfl;have s1:=pq.cell (i:=1) rfl;have s2:=pq.cell (i:=2) rfl;have s3:=pq.cell (i:=3) rfl;clear pq;go_wp2_with fail
 refine(HFR.out _).mono ?_;rintro e wv ⟨rfl,rfl⟩;go_wp2_with fail
 refine(HTV.out _).mono ?_;rintro e wv ⟨rfl,rfl⟩;go_wp2_with fail
 go_loopw [13] (fun y wr=>∃ i:Nat,i<=n/\y=.int .i64 (i:Int)/\Hid (gdB D (K:Int) i)/\Hid (Below w0.heap.size w0 wr)) (fun y _=>n-(intOf y).toNat)
 case atStart=>exact⟨0,Nat.zero_le _,rfl,fun j hj=>absurd hj (by omega),BB.out⟩
 case round =>
  obtain⟨i,hi,rfl,hg,hb⟩:=hrel;have pq:=L0.out wr hb.out;have s0:=pq.cell (i:=0) rfl;have s2:=pq.cell (i:=2) rfl;clear pq;by_cases hlt:i<n
  ·obtain⟨b,off,rfl,hc⟩:=HLL.out.at_ (by omega);have c0:=held (hc i hlt).1 (bth B0.out hb.out);have HC:Hid (∀ p,p<n->wr.cell? ⟨b,off+p*2,none⟩=some (.int .i64 (D p))):=fun p hp=>held (hc p hp).1 (bth B0.out hb.out);have i1:(0:Int)<=(i:Int):=by omega
   have i2:(i:Int)<(n:Int):=by omega
   clear hc;obtain⟨dd,hdd⟩:∃ dd,dd=D i:=⟨_,rfl⟩
   rw [<- hdd] at c0;have HDD:Hid (dd=D i):=hdd;clear hdd;by_cases t1:dd<0
   ·obtain rfl:E=2:=by
     rw [<- HE2.out]; unfold erG;exact if_neg fun g=>by have:=(gd_ge g.2 hlt).1; have:=HDD.out; omega
    go_wp2_with fail
    have a1:decide (dd<0)=true:=decide_eq_true (by have:=t1; omega);go_big_quiet (fail)
    go_wp2_with fail
    go_ret;exact⟨rfl,bth B0.out (hb.out.trans (below_drewN _ _ _))⟩
   by_cases t2:(K:Int)<=dd
   ·obtain rfl:E=2:=by
     rw [<- HE2.out]; unfold erG;exact if_neg fun g=>by have:=(gd_ge g.2 hlt).2; have:=HDD.out; omega
    go_wp2_with fail
    have a1:decide (dd<0)=false:=decide_eq_false (by have:=t1; omega);have a2:decide ((K:Int)<=dd)=true:=decide_eq_true t2;go_big_quiet (fail)
    go_wp2_with fail
    go_ret;exact⟨rfl,bth B0.out (hb.out.trans (below_drewN _ _ _))⟩
   have HT1:Hid (¬ dd<0):=t1;have HT2:Hid (¬ (K:Int)<=dd):=t2;clear t1 t2;rcases Nat.eq_zero_or_pos i with hz | hz
   ·have HI0:Hid (i=0):=hz;have HG:Hid (gdB D (K:Int) (i+1)):=fun j hj=>by
     obtain rfl:j=0:=by omega
     have h1:=HDD.out; rw [hz] at h1; rw [show lst D 0=-1 from if_pos rfl]; have:=HT1.out; have:=HT2.out; omega
    clear hz;go_wp2_with fail
    have a1:decide (dd<0)=false:=decide_eq_false (by have:=HT1.out; omega);have a2:decide ((K:Int)<=dd)=false:=decide_eq_false (by have:=HT2.out; omega);have a5:decide ((0:Int)<(i:Int))=false:=decide_eq_false (by have:=HI0.out; omega);have a6:decide (0<i)=false:=decide_eq_false (by have:=HI0.out; omega);go_big_quiet (fail)
    go_wp2_with fail
    go_roundw
    case rel=>exact⟨i+1,by omega,by go_num,HG.out,hb.out.trans (below_drewN _ _ _)⟩
    case measure=>simp [intOf]; omega
   ·obtain⟨p,hip⟩:∃ p,i=p+1:=⟨i-1,by omega⟩
    have c9:=HC.out p (by omega);have z1:(i:Int)-1=(p:Int):=by omega
    have i3:(0:Int)<=(p:Int):=by omega
    have i4:(p:Int)<(n:Int):=by omega
    have HIP:Hid (i=p+1):=hip;obtain⟨d9,hd9⟩:∃ dd,dd=D p:=⟨_,rfl⟩
    rw [<- hd9] at c9;have HD9:Hid (d9=D p):=hd9;clear hd9 hip hz;by_cases t3:dd<=d9
    ·obtain rfl:E=2:=by
      rw [<- HE2.out]; unfold erG;exact if_neg fun g=>by have:=(g.2 (p+1) (by have:=HIP.out; omega)).1; rw [lst_succ] at this; have:=HDD.out; rw [HIP.out] at this; have:=HD9.out; omega
     have HT3:Hid (dd<=d9):=t3;clear t3;go_wp2_with fail
     have a1:decide (dd<0)=false:=decide_eq_false (by have:=HT1.out; omega);have a2:decide ((K:Int)<=dd)=false:=decide_eq_false (by have:=HT2.out; omega);have a3:decide (dd<=d9)=true:=decide_eq_true (by have:=HT3.out; omega);have a5:decide ((0:Int)<(i:Int))=true:=decide_eq_true (by have:=HIP.out; omega);have a6:decide (0<i)=true:=decide_eq_true (by have:=HIP.out; omega);go_big_quiet (fail)
     go_wp2_with fail
     go_ret;exact⟨rfl,bth B0.out (hb.out.trans (below_drewN _ _ _))⟩
    ·have HT3:Hid (¬ dd<=d9):=t3;have HG:Hid (gdB D (K:Int) (i+1)):=fun j hj=>by
      by_cases e:j=i
      ·subst e; have h1:=HIP.out; have h2:=HDD.out; have h3:=HD9.out; have h4:=HT3.out; have h5:=HT2.out; rw [h1,lst_succ]; rw [h1] at h2; omega
      ·exact hg.out j (by omega)
     clear t3;go_wp2_with fail
     have a1:decide (dd<0)=false:=decide_eq_false (by have:=HT1.out; omega);have a2:decide ((K:Int)<=dd)=false:=decide_eq_false (by have:=HT2.out; omega);have a3:decide (dd<=d9)=false:=decide_eq_false (by have:=HT3.out; omega);have a5:decide ((0:Int)<(i:Int))=true:=decide_eq_true (by have:=HIP.out; omega);have a6:decide (0<i)=true:=decide_eq_true (by have:=HIP.out; omega);go_big_quiet (fail)
     go_wp2_with fail
     go_roundw
     case rel=>exact⟨i+1,by omega,by go_num,HG.out,hb.out.trans (below_drewN _ _ _)⟩
     case measure=>simp [intOf]; omega
  ·obtain rfl:i=n:=by omega
   have HG:Hid (gdB D (K:Int) i):=hg.out;have HB1:Hid (Below w0.heap.size w0 wr):=hb.out;clear hg hb s0 s2;go_wp2_with fail
   go_loopw [14] (fun y wr=>∃ p:Nat,p<=i/\y=.int .i64 (p:Int)/\Hid (∀ j,j<p->LL j=m)/\Hid (Below w0.heap.size w0 wr)) (fun y _=>i-(intOf y).toNat)
   case atStart=>exact⟨0,Nat.zero_le _,rfl,fun j hj=>absurd hj (by omega),HB1.out⟩
   case round =>
    obtain⟨p,hp,rfl,hg,hb⟩:=hrel;have pq:=L0.out wr hb.out;have s2:=pq.cell (i:=2) rfl;clear pq;by_cases hlt2:p<i
    ·obtain⟨b,off,rfl,hc⟩:=HLL.out.at_ (by omega);have c1:=held (hc p hlt2).2 (bth B0.out hb.out);have i1:(0:Int)<=(p:Int):=by omega
     have i2:(p:Int)<(i:Int):=by omega
     clear hc;obtain⟨li,hli⟩:∃ li,li=LL p:=⟨_,rfl⟩
     rw [<- hli] at c1;have HLI:Hid (li=LL p):=hli;clear hli;by_cases t3:li=m
     ·have q1:((li:Int) != (m:Int))=false:=by rw [t3]; simp
      have HZ:Hid (∀ j,j<p+1->LL j=m):=fun j hj=>by
       by_cases e:j=p
       ·subst e; rw [<- HLI.out]; exact t3
       ·exact hg.out j (by omega)
      clear t3;go_wp2_with fail
      go_big_quiet (fail)
      go_wp2_with fail
      go_roundw
      case rel=>exact⟨p+1,by omega,by go_num,HZ.out,hb.out.trans (below_drewN _ _ _)⟩
      case measure=>simp [intOf]; omega
     ·have q1:((li:Int) != (m:Int))=true:=by simp; omega
      obtain rfl:E=20:=by
       rw [<- HE2.out]; unfold erG;rw [if_pos ⟨by omega,HG.out⟩,if_neg fun g=>t3 (HLI.out.trans (g p hlt2))]
      clear t3;go_wp2_with fail
      go_big_quiet (fail)
      go_wp2_with fail
      go_ret;exact⟨rfl,bth B0.out (hb.out.trans (below_drewN _ _ _))⟩
    ·obtain rfl:p=i:=by omega
     obtain rfl:E=0:=by
      rw [<- HE2.out]; unfold erG;rw [if_pos ⟨by omega,HG.out⟩,if_pos hg.out]
     go_wp2_with fail
     go_ret;exact⟨rfl,bth B0.out hb.out⟩
def nd (D:Nat->Int) (O:Cod.M) (F:Nat->Nat->UInt8):Nat->Cod.M
  | 0=>O
  | j+1=>Cod.put (D j).toNat (fun b=>toK (F j b)) (nd D O F j)
theorem nd_miss{D:Nat->Int}{O:Cod.M}{F:Nat->Nat->UInt8}{i:Nat}:∀ {n:Nat},(∀ j,j<n->(D j).toNat ≠ i)->nd D O F n i=O i
 | 0,_=>rfl
 | n+1,h=>by rw [nd,Cod.put_ne _ _ (fun e=>h n (by omega) e.symm)]; exact nd_miss fun j hj=>h j (by omega)
theorem nd_hit{D:Nat->Int}{O:Cod.M}{F:Nat->Nat->UInt8}{K:Int}{N:Nat}(hg:gdB D K N){j:Nat}:∀ {n:Nat},n<=N->j<n->nd D O F n (D j).toNat=fun b=>toK (F j b)
 | 0,_,h=>absurd h (Nat.not_lt_zero j)
 | n+1,hN,h=>by
  rw [nd];by_cases e:j=n
  ·subst e; rw [Cod.put_at]
  ·have h1:=gd_lt hg n j (by omega) (by omega);have h2:=gd_ge hg (show j<N by omega);rw [Cod.put_ne _ _ (by omega)];exact nd_hit hg (by omega) (by omega)
theorem nd_par{K N:Nat}{z:Nat->Sl}{D:Nat->Int}{F:Nat->Nat->UInt8}{n:Nat}(hg:gdB D (K:Int) n):∀ j,j<=n->∀ i b,Cod.par K (nd D (cD K z N) F j) i b=Cod.upd K j D (dlt D (cH K z N) F) (fun i b=>toK (cH K z N (K+i) b)) i b
 | 0,_,i,b=>by
  show Cod.enc K (cD K z N) (K+i) b=Cod.K.add (Cod.lin 0 _ _ b) (toK (bK (Cod.enc K (cD K z N) (K+i) b)));rw [toK_bK,Cod.lin_zero,Cod.K.zero_add]
 | j+1,hj,i,b=>by
  have h1:=gd_ge hg (show j<n by omega);have hm:nd D (cD K z N) F j (D j).toNat=cD K z N (D j).toNat:=nd_miss fun l hl=>by
   have:=gd_lt hg j l hl (by omega);have:=gd_ge hg (show l<n by omega);omega
  have:=Cod.par_step (k:=K) (t:=j) (c:=(D j).toNat) (R:=D) (D:=dlt D (cH K z N) F) (X:=nd D (cD K z N) F j) (P:=fun i b=>toK (cH K z N (K+i) b)) (x:=fun b=>toK (cH K z N (D j).toNat b)) (y:=fun b=>toK (F j b)) (by omega) (fun b=>by
   rw [hm];unfold cH;rw [toK_bK,Cod.enc_data _ (by omega)]) (fun i b=>nd_par hg j (by omega) i b) i b
  rw [nd,this];refine Cod.upd_congr (fun l hl=>?_) (fun l hl=>?_) rfl
  ·by_cases e:l=j
   ·subst e; rw [Cod.put_at]; omega
   ·rw [Cod.put_ne _ _ e]
  ·by_cases e:l=j
   ·subst e; rw [Cod.put_at]; rfl
   ·rw [Cod.put_ne _ _ e]
theorem ol_eq{N:Nat}{c:Int}{L:Nat->Nat}{F:Nat->Nat->UInt8}{t:Sl}(ht:t.ce ≠ 0){i:Nat}(hi:i<N):ol N c L F t.V i=oN (yy N c L F (2*i)) (yy N c L F (2*i+1)) 1 (zz (yy N c L F) 1 t i).ce:=by
 obtain⟨h0,h1⟩:=pair_of (yy_ok N c L F) hi;unfold ol zz;rw [if_neg ht];rcases fZ_is (kd:=1) (v:=t.V i) h0 h1 with ⟨h,g0,g1⟩ | ⟨_,_,h,_⟩
 ·rw [h];unfold oN;rw [g0,g1,show hB (yy N c L F (2*i)) 1 zSl.ce=false from decide_eq_false fun q=>q.1 rfl,show hB (yy N c L F (2*i+1)) 1 zSl.ce=false from decide_eq_false fun q=>q.1 rfl]
 ·rw [h]
theorem run_copy_ow2{w:World}{B g n cap off k dl dC:Nat}{G H:Nat->UInt8}{bo:Option Addr}{cb:Nat}(hg:OwU B w (some ⟨g,0,none⟩) n cap G)(hb:Bec w bo k cb H)(h0:0<k)(hk:k<=dl)(hfit:off+k<=n):
  ∃ w',(Builtin.copy_ #[36,36] 3 #[.slice (some ⟨g,off,none⟩) dl dC,.slice bo k cb]).run Tryz.prog w=.ok (goInt k) w'/\OwU B w' (some ⟨g,0,none⟩) n cap (upR G off k H)/\Only (fun b=>b=g) w w':=by
 obtain⟨b,bof,rfl,hc⟩:=hb.rd (by omega);have hl:(byF k H).length=Nat.min k dl:=by rw [byF_length]; exact(Nat.min_eq_left hk).symm
 rcases hg.2 with ⟨e,_⟩ | ⟨g',c',cur,e,h1,h2,h3,h4,h5,h6⟩
 ·cases e
 ·cases e
  rw [Nat.mul_one] at h5 h6;have hrun:=run_copy_row (P:=Tryz.prog) w 36 36 3 5 g off dl dC ⟨b,bof,none⟩ k cb cur 5 (byF k H) Tryz.underlying36 (by kernel_rfl) h2 hl
   (fun j v hv=>by
    have hj:=list_lt (byF_length k H) hv;rw [byF_get _ _ _ hj] at hv;rw [Addr.add_lit,hc j (by omega)]; exact hv) (by rw [byF_length]; omega) (byF_one k H)
  rw [byF_length] at hrun;refine⟨_,hrun,?_,only_setRow _ _ _⟩;have hh:=setRow_heap w g _ (cur.toList.take off ++ byF k H ++ cur.toList.drop (off+k)).toArray 5 _ h2;have hcl:cur.toList.length=cap:=by simpa using h5
  refine⟨by rw [byF_length,Nat.mul_one],.inr ⟨g,cap,_,rfl,h1,hh,h3,h4,?_,?_⟩⟩
  ·simp [byF_length,h5]; omega
  ·rw [Nat.mul_one,List.toList_toArray,<- byF_splice G H hfit,<- h6,List.append_assoc,List.take_append,List.take_take,Nat.min_eq_right (show off<=n by omega),List.take_take,Nat.min_eq_left (show off<=n by omega),List.length_take,hcl,Nat.min_eq_left (show off<=cap by omega),List.take_append,byF_length,List.take_of_length_le (l:=byF k H) (by rw [byF_length]; omega),List.drop_take,show n-off-k=n-(off+k) by omega]
def dat (m:Nat) (D:Nat->Int) (O:Cod.M) (F:Nat->Nat->UInt8) (i b:Nat):UInt8:=bK (nd D O F i (b / m) (b % m))
theorem dat_step{m:Nat}{D:Nat->Int}{O:Cod.M}{F:Nat->Nat->UInt8}{i p:Nat}(hm:0<m)(hp:p=(D i).toNat*m)(b:Nat):upR (dat m D O F i) p m (F i) b=dat m D O F (i+1) b:=by
 have h1:=Nat.div_add_mod b m;have h2:=Nat.mod_lt b hm;by_cases e:b / m=(D i).toNat
 ·have h3:b=p+b % m:=by rw [hp,<- e,Nat.mul_comm]; exact h1.symm
  rw [upR_in (by omega)];unfold dat
  rw [nd,e,Cod.put_at,bK_toK,show b-p=b % m by omega]
 ·rw [upR_out (fun q=>e ?_)]
  ·unfold dat
   rw [nd,Cod.put_ne _ _ e]
  ·rw [hp] at q;exact(Nat.div_eq_iff hm).2 (by omega)
theorem dat_zero{K N m:Nat}{z:Nat->Sl}{D:Nat->Int}{H:Nat->Nat->UInt8}{b:Nat}(hb:b<K*m):dat m D (cD K z N) H 0 b=cat2 m (cH K z N) b:=by
 have h1:b / m<K:=Nat.div_lt_of_lt_mul (by rw [Nat.mul_comm]; exact hb);unfold dat cat2 cH;rw [Cod.enc_data _ h1];rfl
theorem dM_dat{m:Nat}{D:Nat->Int}{O:Cod.M}{H:Nat->Nat->UInt8}{n a b:Nat}(hb:b<m):dM m (dat m D O H n) a b=nd D O H n a b:=by
 unfold dM dat
 rw [toK_bK,show (a*m+b) / m=a by rw [Nat.mul_comm,Nat.mul_add_div (by omega),Nat.div_eq_of_lt hb,Nat.add_zero],show (a*m+b) % m=b by rw [Nat.mul_comm,Nat.mul_add_mod,Nat.mod_eq_of_lt hb]]
theorem cell_eq{K R N n m:Nat}{D:Nat->Int}{z:Nat->Sl}{H:Nat->Nat->UInt8}(hg:gdB D (K:Int) n){i j:Nat}(hi:Lw (dq K n D) (n+R) i ≠ 0)(hj:j<m):
  dH K m (dat m D (cD K z N) H n) i j=pH K N n z D H (Cod.cnt (Lw (dq K n D) (n+R)) i) j:=by
 obtain⟨h1,h2⟩:=(dq_ris (R:=R) hg).inv hi;obtain⟨l,hl⟩:∃ l,l=Cod.cnt (Lw (dq K n D) (n+R)) i:=⟨_,rfl⟩
 rw [<- hl] at h1 h2 ⊢;have e1:dH K m (dat m D (cD K z N) H n) i j=bK (Cod.enc K (nd D (cD K z N) H n) i j):=by
  unfold dH;exact congrArg bK (Cod.enc_congr (fun c _=>dM_dat hj) i)
 rw [e1];unfold pH Cod.cat
 by_cases e:l<n
 ·rw [if_pos e];have h3:(D l).toNat=i:=by rw [<- h2]; unfold dq; rw [if_pos e]
  have h4:=gd_ge hg e;rw [Cod.enc_data _ (by omega),<- h3,nd_hit hg (Nat.le_refl n) e,bK_toK]
 ·rw [if_neg e];obtain⟨p,rfl⟩:∃ p,l=n+p:=⟨l-n,by omega⟩
  have h3:K+p=i:=by rw [<- h2]; unfold dq; rw [if_neg e,Nat.add_sub_cancel_left]
  rw [<- h3,Nat.add_sub_cancel_left];exact congrArg bK (nd_par hg n (Nat.le_refl _) p j)
theorem bmp_lw{K n:Nat}{D:Nat->Int}(hg:gdB D (K:Int) n)(V:Nat->Int)(tv:Int)(i:Nat):∀ k,bmp (Cod.cat n D (fun i=>((K+i:Nat):Int))) tv V k i=if Lw (dq K n D) k i ≠ 0 then tv else V i
 | 0=>by rw [if_neg (fun h=>h rfl)]; rfl
 | k+1=>by
  rw [bmp,dq_D hg,bmp_lw hg V tv i k];by_cases e:dq K n D k=i
  ·rw [if_pos (by rw [e]),if_pos (show Lw (dq K n D) (k+1) i ≠ 0 by rw [Lw,if_pos e]; decide)]
  ·rw [if_neg (by omega),show Lw (dq K n D) (k+1) i=Lw (dq K n D) k i from if_neg e]
def wB (K n:Nat) (D:Nat->Int) (j i:Nat):Bool:=decide (Lw (dq K n D) j i ≠ 0)
theorem wB_zero(K n:Nat)(D:Nat->Int)(i:Nat):wB K n D 0 i=false:=decide_eq_false fun h=>h rfl
theorem wB_succ{K n:Nat}{D:Nat->Int}{j d:Nat}(hj:j<n)(hd:D j=(d:Int))(i:Nat):wB K n D (j+1) i=if i=d then true else wB K n D j i:=by
 have h:dq K n D j=d:=by unfold dq; rw [if_pos hj,hd,Int.toNat_natCast]
 unfold wB;rw [Lw,h];by_cases e:d=i
 ·rw [if_pos e,if_pos e.symm]; rfl
 ·rw [if_neg e,if_neg (fun q=>e q.symm)]
theorem wB_all{K n R:Nat}{D:Nat->Int}(i:Nat)(hi:i<K+R):wB K n D (n+R) i=(wB K n D n i || decide (K<=i)):=by
 have h1:∀ p,p<=R->wB K n D (n+p) i=(wB K n D n i || decide (K<=i/\i<K+p)):=by
  intro p;induction p with
  | zero=>intro _; rw [decide_eq_false (show ¬ (K<=i/\i<K+0) by omega),Bool.or_false]; rfl
  | succ p ih =>
   intro hp;have h2:=ih (by omega);have h3:dq K n D (n+p)=K+p:=by unfold dq; rw [if_neg (by omega),Nat.add_sub_cancel_left]
   show decide (Lw (dq K n D) (n+p+1) i ≠ 0)=_;rw [Lw,h3];by_cases e:K+p=i
   ·rw [if_pos e,decide_eq_true (show K<=i/\i<K+(p+1) by omega),Bool.or_true]; rfl
   ·rw [if_neg e];show wB K n D (n+p) i=_;rw [h2];exact congrArg _ (decide_eq_decide.2 (by omega))
 rw [h1 R (Nat.le_refl _)];exact congrArg _ (decide_eq_decide.2 (by omega))
end Go.Proofs.YtemlojjkokooeaaGreat
