import Derived.Test.YtemlojjkokooeaaGreatTj24
set_option maxHeartbeats 4000000
set_option maxRecDepth 100000
namespace Go.Proofs.YtemlojjkokooeaaGreat
open Go.RowKit
def erR (x:Int) (N:Nat) (c:Int) (rn:Nat) (L:Nat->Nat):Int:=if x=0 then (if rn=N/\∀ j,j<2*rn->L j=0\/L j=sz N c then 0 else 120) else x
theorem Par.le{k r c q:Int}{N W:Nat}{e:Int}(h:Par k r c q N W e):N<=16:=by
 rcases h with ⟨h,_,h0,_⟩ | ⟨_,_,h0,_⟩
 ·obtain⟨h1,h2,h3,h4,h5,h6,h7,h8,h9⟩:=may_true h; omega
 ·omega
theorem checkRow_any{k r c q:Int}{N W:Nat}{x:Int}(h:Par k r c q N W x)(w:World)(ro:Option Addr)(rn rc:Nat)(A:Nat->Option Addr)(L C:Nat->Nat)(F:Nat->Nat->UInt8)(hr:Rw w ro rn A L C F)(E:Int)(hE:erR x N c rn L=E):
  Calls Tryz.prog 131 #[.agg #[.int .i64 k,.int .i64 r,.int .i64 c,.int .i64 q],.slice ro rn rc] w fun e w'=>e=.returned (.int .i64 E)/\Below w.heap.size w w':=by
 have HD:=fun w=>Drives_any h w;have HZ:=fun w=>Size_any h w;have hle:=h.le;obtain⟨w0,hw0⟩:∃ w0,w0=w.alloc (.cells #[.int .i64 k,.int .i64 r,.int .i64 c,.int .i64 q] 23):=⟨_,rfl⟩
 have b0:Below w.heap.size w w0:=by rw [hw0]; exact bal _ _
 by_cases hx:x=0
 ·subst hx;have e0:szE 0 N c=sz N c:=if_pos rfl;rw [e0] at HZ;unfold erR at hE;rw [if_pos rfl] at hE;clear h e0;by_cases hn:rn=N
  ·subst hn;have hnn:((rn:Int) != (rn:Int))=false:=by simp
   obtain⟨z,hz⟩:∃ z,z=sz rn c:=⟨_,rfl⟩
   rw [<- hz] at hE HZ;clear hz;have HE:Hid ((∀ j,j<2*rn->L j=0\/L j=z)/\E=0\/¬ (∀ j,j<2*rn->L j=0\/L j=z)/\E=120):=by
    by_cases g:∀ j,j<2*rn->L j=0\/L j=z
    ·rw [if_pos ⟨rfl,g⟩] at hE; exact .inl ⟨g,hE.symm⟩
    ·rw [if_neg fun a=>g a.2] at hE; exact .inr ⟨g,hE.symm⟩
   have HR:Hid (Rw w ro rn A L C F):=hr;clear hE hr;go_enter Tryz.func131,Tryz.ntmps131
   go_wp2_with fail
   rw [<- hw0];refine(HD _).mono ?_;rintro e wa ⟨rfl,ha⟩;obtain⟨s0,s1,s2,s3⟩:=par_held hw0 ha;go_wp2_with fail
   refine(HZ _).mono ?_;rintro e wb ⟨rfl,hb⟩;obtain⟨wc,hwc⟩:∃ wc,wc=wb.alloc (.cells #[.int .i64 (z:Int)] 3):=⟨_,rfl⟩
   have HC:Hid (Below w.heap.size w wc):=by show Below _ _ _; rw [hwc]; exact bth (bth (bth b0 ha) hb) (bal _ _)
   have HG:Hid (∀ v,Below wc.heap.size wc v->v.cell? ⟨wb.heap.size,0,none⟩=some (.int .i64 (z:Int))):=fun v hv=>blk_held hwc hv 0 rfl;clear s0 s1 s2 s3 hw0 b0 ha hb;go_wp2_with fail
   rw [<- hwc];clear hwc;go_loopw [30] (fun y wr=>∃ i:Nat,i<=rn/\y=.int .i64 (i:Int)/\Hid (Below wc.heap.size wc wr)/\Hid (∀ j,j<2*i->L j=0\/L j=z)) (fun y _=>rn-(intOf y).toNat)
   case atStart=>exact⟨0,Nat.zero_le _,rfl,Below.refl _ _,fun j hj=>absurd hj (by omega)⟩
   case round =>
    obtain⟨i,hi,rfl,hbw,hall⟩:=hrel;by_cases hlt:i<rn
    ·obtain⟨b,off,rfl,hcc⟩:=HR.out.at_ (by omega);have c0:wr.cell? ⟨b,off+i*2,none⟩=some (.slice (A (2*i)) (L (2*i)) (C (2*i))):=held (hcc i hlt).1 (bth HC.out hbw.out);have c1:wr.cell? ⟨b,off+i*2+1,none⟩=some (.slice (A (2*i+1)) (L (2*i+1)) (C (2*i+1))):=held (hcc i hlt).2 (bth HC.out hbw.out);clear hcc;have i1:(0:Int)<=(i:Int):=by omega
     have i2:(i:Int)<(rn:Int):=by omega
     obtain⟨wd,hwd⟩:∃ wd,wd=wr.alloc (.cells #[.slice (A (2*i)) (L (2*i)) (C (2*i)),.slice (A (2*i+1)) (L (2*i+1)) (C (2*i+1))] 97):=⟨_,rfl⟩
     have bd:Below wr.heap.size wr wd:=by rw [hwd]; exact bal _ _
     have hrule:RuleC wd 201 #[.pointer (some ⟨wb.heap.size,0,none⟩)] 2 (fun t=>A (2*i+t)) (fun t=>L (2*i+t)) (fun t=>C (2*i+t)) (fun t=>badL z (L (2*i+t))):=fun t _=>bad_any wd _ _ _ _ z (HG.out _ (bth hbw.out bd));have hread:RdC wd (some ⟨wr.heap.size,0,none⟩) 2 (fun t=>A (2*i+t)) (fun t=>L (2*i+t)) (fun t=>C (2*i+t)):=fun _=>⟨_,0,rfl,fun t ht=>by
      rcases (show t=0\/t=1 by omega) with rfl | rfl
      ·exact blk_held hwd (Below.refl _ _) 0 rfl
      ·exact blk_held hwd (Below.refl _ _) 1 rfl⟩
     have HX:=containsC_any wd _ 2 2 201 _ _ _ _ _ (by omega) (fun _ _=>rfl) hread hrule;obtain⟨y,hy⟩:∃ y,y=anyB 2 (fun t=>badL z (L (2*i+t))):=⟨_,rfl⟩
     rw [<- hy] at HX;have HD2:Hid (Below wc.heap.size wc wd):=bth hbw.out bd;have HY:Hid ((y=false/\(L (2*i)=0\/L (2*i)=z)/\(L (2*i+1)=0\/L (2*i+1)=z))\/(y=true/\¬ ((L (2*i)=0\/L (2*i)=z)/\(L (2*i+1)=0\/L (2*i+1)=z)))):=by
      have hyy:=hy;unfold anyB at hyy;by_cases g:∀ t,t<2->badL z (L (2*i+t))=false
      ·refine .inl ⟨by rw [hyy,decide_eq_true g]; rfl,?_,?_⟩
       ·have:=of_decide_eq_false (g 0 (by omega)); rw [Nat.add_zero] at this; omega
       ·have:=of_decide_eq_false (g 1 (by omega)); omega
      ·refine .inr ⟨by rw [hyy,decide_eq_false g]; rfl,fun a=>g fun t ht=>?_⟩;rcases (show t=0\/t=1 by omega) with rfl | rfl
       ·exact decide_eq_false (by rw [Nat.add_zero]; omega)
       ·exact decide_eq_false (by omega)
     clear hrule hread bd hy;cases y
     ·go_wp2_with fail
      rw [<- hwd];clear hwd c0 c1;refine HX.mono ?_;rintro e w' ⟨rfl,hw'⟩;obtain rfl:=hw'.symm;go_wp2_with fail
      go_roundw
      case rel =>
       refine⟨i+1,by omega,by go_num,HD2.out,fun j hj=>?_⟩;rcases HY.out with ⟨_,g0,g1⟩ | ⟨g,_⟩
       ·by_cases e0:j<2*i
        ·exact hall.out j e0
        ·rcases (show j=2*i\/j=2*i+1 by omega) with rfl | rfl
         ·exact g0
         ·exact g1
       ·cases g
      case measure=>simp [intOf]; omega
     ·go_wp2_with fail
      rw [<- hwd];clear hwd c0 c1;refine HX.mono ?_;rintro e w' ⟨rfl,hw'⟩;obtain rfl:=hw'.symm;go_wp2_with fail
      go_ret;refine⟨ret_int ?_,bth HC.out HD2.out⟩;rcases HE.out with ⟨g,_⟩ | ⟨_,g⟩
      ·exfalso
       rcases HY.out with ⟨g2,_⟩ | ⟨_,g2⟩
       ·cases g2
       ·exact g2 ⟨g (2*i) (by omega),g (2*i+1) (by omega)⟩
      ·exact g.symm
    ·obtain rfl:i=rn:=by omega
     go_wp2_with fail
     go_ret;refine⟨ret_int ?_,bth HC.out hbw.out⟩;rcases HE.out with ⟨_,g⟩ | ⟨g,_⟩
     ·exact g.symm
     ·exact absurd (fun j hj=>hall.out j hj) g
  ·have hnn:((rn:Int) != (N:Int))=true:=by simp; omega
   obtain rfl:E=120:=by rw [if_neg fun a=>hn a.1] at hE; exact hE.symm
   clear hE hr;go_enter Tryz.func131,Tryz.ntmps131
   go_wp2_with fail
   rw [<- hw0];refine(HD _).mono ?_;rintro e wa ⟨rfl,ha⟩;go_wp2_with fail
   go_ret;exact⟨rfl,bth b0 ha⟩
 ·obtain rfl:x=E:=by unfold erR at hE; rw [if_neg hx] at hE; exact hE
  have hnn:(x != 0)=true:=by simp [hx]
  clear hE hr;go_enter Tryz.func131,Tryz.ntmps131
  go_wp2_with fail
  rw [<- hw0];refine(HD _).mono ?_;rintro e wa ⟨rfl,ha⟩;go_wp2_with fail
  go_ret;exact⟨rfl,bth b0 ha⟩
def stv (k r c q:Int) (ro:Option Addr) (rn rc:Nat) (kd:UInt8):Value:=.agg #[.int .i64 k,.int .i64 r,.int .i64 c,.int .i64 q,.slice ro rn rc,.int .u8 ((kd.toNat:Nat):Int)]
def stz:Value:=.agg #[.int .i64 0,.int .i64 0,.int .i64 0,.int .i64 0,.slice none 0 0,.int .u8 0]
def erK (x:Int) (N:Nat) (c:Int) (rn:Nat) (L:Nat->Nat) (kd:UInt8) (v:Int):Int:=if erR x N c rn L=0 then (if (kd=1\/kd=2)/\1<=v/\v<=1073741824 then 0 else 2) else erR x N c rn L
theorem only_six(v:World)(g:Nat)(u0 u1 u2 u3 u4 u5:Value):Only (fun x=>x=g) v ((((((v.setCell ⟨g,0,none⟩ (u0)).setCell ⟨g,1,none⟩ (u1)).setCell ⟨g,2,none⟩ (u2)).setCell ⟨g,3,none⟩ (u3)).setCell ⟨g,4,none⟩ (u4)).setCell ⟨g,5,none⟩ (u5)):=only_lo v g u0 u1 u2 u3 u4 u5
theorem below_six{a v:World}{g:Nat}(h:Below a.heap.size a v)(hg:a.heap.size<=g)(u0 u1 u2 u3 u4 u5:Value):Below a.heap.size a ((((((v.setCell ⟨g,0,none⟩ (u0)).setCell ⟨g,1,none⟩ (u1)).setCell ⟨g,2,none⟩ (u2)).setCell ⟨g,3,none⟩ (u3)).setCell ⟨g,4,none⟩ (u4)).setCell ⟨g,5,none⟩ (u5)) :=
 h.trans ((only_six v g u0 u1 u2 u3 u4 u5).below (fun i hi=>by omega) h.size)
theorem asked_any{k r c q:Int}{N W:Nat}{x:Int}(h:Par k r c q N W x)(w:World)(ro:Option Addr)(rn rc:Nat)(A:Nat->Option Addr)(L C:Nat->Nat)(F:Nat->Nat->UInt8)(hr:Rw w ro rn A L C F)(kd:UInt8)(v:Int)(E:Int)(hE:erK x N c rn L kd v=E):
  Calls Tryz.prog 67 #[.agg #[.int .i64 k,.int .i64 r,.int .i64 c,.int .i64 q],.slice ro rn rc,.int .u8 ((kd.toNat:Nat):Int),.int .i64 v] w fun e w'=>e=.returned (.tuple #[if E=0 then stv k r c q ro rn rc kd else stz,.int .i64 E])/\Below w.heap.size w w':=by
 obtain⟨D,hD⟩:∃ D,erR x N c rn L=D:=⟨_,rfl⟩
 have HC:Hid (∀ v,Below w.heap.size w v->Calls Tryz.prog 131 #[.agg #[.int .i64 k,.int .i64 r,.int .i64 c,.int .i64 q],.slice ro rn rc] v fun e w'=>e=.returned (.int .i64 D)/\Below v.heap.size v w'):=fun v hv=>checkRow_any h v ro rn rc A L C F (hr.below hv) D hD;unfold erK at hE;rw [hD] at hE;clear hD h hr;obtain⟨w0,hw0⟩:∃ w0,w0=w.alloc (.cells #[.int .i64 k,.int .i64 r,.int .i64 c,.int .i64 q] 23):=⟨_,rfl⟩
 have b0:Below w.heap.size w w0:=by rw [hw0]; exact bal _ _
 have z0:w0.heap.size=w.heap.size+1:=by rw [hw0]; simp
 obtain⟨w1,hw1⟩:∃ w1,w1=w0.alloc (.cells #[.int .i64 0,.int .i64 0,.int .i64 0,.int .i64 0,.slice none 0 0,.int .u8 0] 99):=⟨_,rfl⟩
 have b1:Below w0.heap.size w0 w1:=by rw [hw1]; exact bal _ _
 have B1:Hid (Below w.heap.size w w1):=bth b0 b1;have L0:Hid (∀ v,Below w1.heap.size w1 v->At w v w.heap.size #[.int .i64 k,.int .i64 r,.int .i64 c,.int .i64 q] 23):=fun v hv=>(at_made (Below.refl _ _) hw0).below (bth b1 hv);have L1:Hid (∀ v,Below w1.heap.size w1 v->At w v (w.heap.size+1) #[.int .i64 0,.int .i64 0,.int .i64 0,.int .i64 0,.slice none 0 0,.int .u8 0] 99):=fun v hv=>by rw [<- z0]; exact(at_made b0 hw1).below hv
 clear b0 b1 z0;have hk1:=kd_one kd;have hk2:=kd_two kd;unfold stv stz;by_cases hd:D=0
 ·subst hd;rw [if_pos rfl] at hE;obtain⟨y,hy⟩:∃ y,decide (1<=v/\v<=1073741824)=y:=⟨_,rfl⟩
  have HW:=fun w=>within2_any v 1 1073741824 w;rw [hy] at HW;have HE:Hid (((kd=1\/kd=2)->y=true->E=0)/\((kd=1\/kd=2)->y=false->E=2)/\(¬ (kd=1\/kd=2)->E=2)):=by
   refine⟨fun a b=>?_,fun a b=>?_,fun a=>?_⟩
   ·rw [if_pos ⟨a,of_decide_eq_true (hy.trans b)⟩] at hE; exact hE.symm
   ·rw [if_neg fun g=>of_decide_eq_false (hy.trans b) g.2] at hE; exact hE.symm
   ·rw [if_neg fun g=>a g.1] at hE; exact hE.symm
  clear hE hy;by_cases g1:kd=1
  ·subst g1;rw [show ((UInt8.toNat 1:Nat):Int)=1 from rfl];cases y
   ·obtain rfl:E=2:=HE.out.2.1 (.inl rfl) rfl;rw [if_neg (show ¬ (2:Int)=0 by decide)]
    (
      go_enter Tryz.func67,Tryz.ntmps67
      go_wp2_with fail
      rw [<- hw0,<- hw1];refine(HC.out _ B1.out).mono ?_;rintro e wa ⟨rfl,ha⟩;have q1:=L1.out wa ha;have t0:=q1.cell (i:=0) rfl;have t1:=q1.cell (i:=1) rfl;have t2:=q1.cell (i:=2) rfl;have t3:=q1.cell (i:=3) rfl;have t4:=q1.cell (i:=4) rfl;have t5:=q1.cell (i:=5) rfl;have tf:=q1.free;have HA:Hid (Below w1.heap.size w1 wa):=ha;clear q1 ha hw0 hw1;go_wp2_with (go_at_call 132; refine(HW _).mono ?_; rintro e w' ⟨rfl,hw'⟩; obtain rfl:=hw'.symm)
      refine bodyPost_ret (v:=.tuple #[.agg #[.int .i64 0,.int .i64 0,.int .i64 0,.int .i64 0,.slice none 0 0,.int .u8 0],.int .i64 2]) (by simp [results,Tryz.results67,go_sem,t0,t1,t2,t3,t4,t5]) rfl ⟨rfl,?_⟩;exact below_six (bth B1.out HA.out) (Nat.le_succ _) _ _ _ _ _ _)
   ·obtain rfl:E=0:=HE.out.1 (.inl rfl) rfl;rw [if_pos rfl]
    (
      go_enter Tryz.func67,Tryz.ntmps67
      go_wp2_with fail
      rw [<- hw0,<- hw1];refine(HC.out _ B1.out).mono ?_;rintro e wa ⟨rfl,ha⟩;have q0:=L0.out wa ha;have s0:=q0.cell (i:=0) rfl;have s1:=q0.cell (i:=1) rfl;have s2:=q0.cell (i:=2) rfl;have s3:=q0.cell (i:=3) rfl;have q1:=L1.out wa ha;have t0:=q1.cell (i:=0) rfl;have t1:=q1.cell (i:=1) rfl;have t2:=q1.cell (i:=2) rfl;have t3:=q1.cell (i:=3) rfl;have t4:=q1.cell (i:=4) rfl;have t5:=q1.cell (i:=5) rfl;have tf:=q1.free;have HA:Hid (Below w1.heap.size w1 wa):=ha;clear q0 q1 ha hw0 hw1;go_wp2_with (go_at_call 132; refine(HW _).mono ?_; rintro e w' ⟨rfl,hw'⟩; obtain rfl:=hw'.symm)
      refine bodyPost_ret (v:=.tuple #[.agg #[.int .i64 k,.int .i64 r,.int .i64 c,.int .i64 q,.slice ro rn rc,.int .u8 1],.int .i64 0]) (by simp [results,Tryz.results67,go_sem,t0,t1,t2,t3,t4,t5]) rfl ⟨rfl,?_⟩;exact below_six (bth B1.out HA.out) (Nat.le_succ _) _ _ _ _ _ _)
  ·by_cases g2:kd=2
   ·subst g2;rw [show ((UInt8.toNat 2:Nat):Int)=2 from rfl];cases y
    ·obtain rfl:E=2:=HE.out.2.1 (.inr rfl) rfl;rw [if_neg (show ¬ (2:Int)=0 by decide)]
     (
      go_enter Tryz.func67,Tryz.ntmps67
      go_wp2_with fail
      rw [<- hw0,<- hw1];refine(HC.out _ B1.out).mono ?_;rintro e wa ⟨rfl,ha⟩;have q1:=L1.out wa ha;have t0:=q1.cell (i:=0) rfl;have t1:=q1.cell (i:=1) rfl;have t2:=q1.cell (i:=2) rfl;have t3:=q1.cell (i:=3) rfl;have t4:=q1.cell (i:=4) rfl;have t5:=q1.cell (i:=5) rfl;have tf:=q1.free;have HA:Hid (Below w1.heap.size w1 wa):=ha;clear q1 ha hw0 hw1;go_wp2_with (go_at_call 132; refine(HW _).mono ?_; rintro e w' ⟨rfl,hw'⟩; obtain rfl:=hw'.symm)
      refine bodyPost_ret (v:=.tuple #[.agg #[.int .i64 0,.int .i64 0,.int .i64 0,.int .i64 0,.slice none 0 0,.int .u8 0],.int .i64 2]) (by simp [results,Tryz.results67,go_sem,t0,t1,t2,t3,t4,t5]) rfl ⟨rfl,?_⟩;exact below_six (bth B1.out HA.out) (Nat.le_succ _) _ _ _ _ _ _)
    ·obtain rfl:E=0:=HE.out.1 (.inr rfl) rfl;rw [if_pos rfl]
     (
      go_enter Tryz.func67,Tryz.ntmps67
      go_wp2_with fail
      rw [<- hw0,<- hw1];refine(HC.out _ B1.out).mono ?_;rintro e wa ⟨rfl,ha⟩;have q0:=L0.out wa ha;have s0:=q0.cell (i:=0) rfl;have s1:=q0.cell (i:=1) rfl;have s2:=q0.cell (i:=2) rfl;have s3:=q0.cell (i:=3) rfl;have q1:=L1.out wa ha;have t0:=q1.cell (i:=0) rfl;have t1:=q1.cell (i:=1) rfl;have t2:=q1.cell (i:=2) rfl;have t3:=q1.cell (i:=3) rfl;have t4:=q1.cell (i:=4) rfl;have t5:=q1.cell (i:=5) rfl;have tf:=q1.free;have HA:Hid (Below w1.heap.size w1 wa):=ha;clear q0 q1 ha hw0 hw1;go_wp2_with (go_at_call 132; refine(HW _).mono ?_; rintro e w' ⟨rfl,hw'⟩; obtain rfl:=hw'.symm)
      refine bodyPost_ret (v:=.tuple #[.agg #[.int .i64 k,.int .i64 r,.int .i64 c,.int .i64 q,.slice ro rn rc,.int .u8 2],.int .i64 0]) (by simp [results,Tryz.results67,go_sem,t0,t1,t2,t3,t4,t5]) rfl ⟨rfl,?_⟩;exact below_six (bth B1.out HA.out) (Nat.le_succ _) _ _ _ _ _ _)
   ·obtain rfl:E=2:=HE.out.2.2 fun a=>a.elim g1 g2;rw [if_neg (show ¬ (2:Int)=0 by decide)];have e1:¬ ((kd.toNat:Nat):Int)=1:=fun a=>g1 (hk1.1 a);have e2:¬ ((kd.toNat:Nat):Int)=2:=fun a=>g2 (hk2.1 a);generalize ((kd.toNat:Nat):Int)=kv at *
    clear hk1 hk2 g1 g2
    (
      go_enter Tryz.func67,Tryz.ntmps67
      go_wp2_with fail
      rw [<- hw0,<- hw1];refine(HC.out _ B1.out).mono ?_;rintro e wa ⟨rfl,ha⟩;have q1:=L1.out wa ha;have t0:=q1.cell (i:=0) rfl;have t1:=q1.cell (i:=1) rfl;have t2:=q1.cell (i:=2) rfl;have t3:=q1.cell (i:=3) rfl;have t4:=q1.cell (i:=4) rfl;have t5:=q1.cell (i:=5) rfl;have tf:=q1.free;have HA:Hid (Below w1.heap.size w1 wa):=ha;clear q1 ha hw0 hw1;go_wp2_with (go_at_call 132; refine(HW _).mono ?_; rintro e w' ⟨rfl,hw'⟩; obtain rfl:=hw'.symm)
      refine bodyPost_ret (v:=.tuple #[.agg #[.int .i64 0,.int .i64 0,.int .i64 0,.int .i64 0,.slice none 0 0,.int .u8 0],.int .i64 2]) (by simp [results,Tryz.results67,go_sem,t0,t1,t2,t3,t4,t5]) rfl ⟨rfl,?_⟩;exact below_six (bth B1.out HA.out) (Nat.le_succ _) _ _ _ _ _ _)
 ·rw [if_neg hd] at hE;subst hE;rw [if_neg hd];have e1:(D != 0)=true:=by simp [hd]
  go_enter Tryz.func67,Tryz.ntmps67
  go_wp2_with fail
  rw [<- hw0,<- hw1];refine(HC.out _ B1.out).mono ?_;rintro e wa ⟨rfl,ha⟩;have q1:=L1.out wa ha;have t0:=q1.cell (i:=0) rfl;have t1:=q1.cell (i:=1) rfl;have t2:=q1.cell (i:=2) rfl;have t3:=q1.cell (i:=3) rfl;have t4:=q1.cell (i:=4) rfl;have t5:=q1.cell (i:=5) rfl;have tf:=q1.free;have HA:Hid (Below w1.heap.size w1 wa):=ha;clear q1 ha hw0 hw1;go_wp2_with fail
  refine bodyPost_ret (v:=.tuple #[.agg #[.int .i64 0,.int .i64 0,.int .i64 0,.int .i64 0,.slice none 0 0,.int .u8 0],.int .i64 D]) (by simp [results,Tryz.results67,go_sem,t0,t1,t2,t3,t4,t5]) rfl ⟨rfl,?_⟩;exact below_six (bth B1.out HA.out) (Nat.le_succ _) _ _ _ _ _ _
theorem erR_zero{x:Int}{N:Nat}{c:Int}{rn:Nat}{L:Nat->Nat}(h:erR x N c rn L=0):x=0/\rn=N/\∀ j,j<2*rn->L j=0\/L j=sz N c:=by
 unfold erR at h;by_cases e:x=0
 ·rw [if_pos e] at h;by_cases g:rn=N/\∀ j,j<2*rn->L j=0\/L j=sz N c
  ·exact⟨e,g⟩
  ·rw [if_neg g] at h; exact absurd h (by decide)
 ·rw [if_neg e] at h; exact absurd h e
theorem erK_zero{x:Int}{N:Nat}{c:Int}{rn:Nat}{L:Nat->Nat}{kd:UInt8}{v:Int}(h:erK x N c rn L kd v=0):erR x N c rn L=0/\(kd=1\/kd=2)/\1<=v/\v<=1073741824:=by
 unfold erK at h;by_cases e:erR x N c rn L=0
 ·rw [if_pos e] at h;by_cases g:(kd=1\/kd=2)/\1<=v/\v<=1073741824
  ·exact⟨e,g⟩
  ·rw [if_neg g] at h; exact absurd h (by decide)
 ·rw [if_neg e] at h; exact absurd h e
end Go.Proofs.YtemlojjkokooeaaGreat
