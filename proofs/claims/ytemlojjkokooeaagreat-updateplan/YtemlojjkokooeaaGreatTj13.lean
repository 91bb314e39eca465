import Derived.Test.YtemlojjkokooeaaGreatTj10
set_option maxHeartbeats 1000000
set_option maxRecDepth 100000
namespace Go.Proofs.YtemlojjkokooeaaGreat
open Go.RowKit
theorem May_any(k r c q:Int)(w:World):
  Calls Tryz.prog 110 #[.agg #[.int .i64 k,.int .i64 r,.int .i64 c,.int .i64 q]] w fun e w'=>e=.returned (.bool (may k r c q))/\Below w.heap.size w w':=by
 have HW:Hid (1<=k->k<=12->8<=c->c<=64->wrap64 (k*c)=k*c):=wrap_wide;go_enter Tryz.func110,Tryz.ntmps110
 go_wp2;all_goals (go_ret; have:=HW.out; refine⟨ret_bool ?_,bal _ _⟩; rw [may_decide]; first | exact decide_eq_decide.2 (by omega) | exact(decide_eq_false (by omega)).symm)
theorem Version_any(v:Int)(w:World):Calls Tryz.prog 103 #[.int .i64 v] w fun e w'=>e=.returned (.bool (verB v))/\w'=w:=by
 have HV:Hid (verB v=decide (1<=v/\v<=1073741824)):=rfl;go_enter Tryz.func103,Tryz.ntmps103
 go_wp2;all_goals (go_ret; refine⟨ret_bool ?_,rfl⟩; rw [HV.out])
 ·by_cases h:v<=1073741824
  ·rw [decide_eq_true (p:=1<=v/\v<=1073741824) (by omega),decide_eq_true h]
  ·rw [decide_eq_false (p:=1<=v/\v<=1073741824) (by omega),decide_eq_false h]
 ·rw [decide_eq_false (by omega)]
theorem N_any{k r:Int}(c q:Int){N:Nat}(h:(N:Int)=k+r)(hk:N<=16)(w:World):
  Calls Tryz.prog 111 #[.agg #[.int .i64 k,.int .i64 r,.int .i64 c,.int .i64 q]] w fun e w'=>e=.returned (.int .i64 (N:Int))/\Below w.heap.size w w':=by
 have HN:Hid (k+r=(N:Int)):=h.symm;go_enter Tryz.func111,Tryz.ntmps111
 go_wp2;go_ret;exact⟨ret_int HN.out,bal _ _⟩
theorem Size6_any{k r c q:Int}{N W:Nat}(h:Par k r c q N W 0)(w:World):
  Calls Tryz.prog 263 #[.agg #[.int .i64 k,.int .i64 r,.int .i64 c,.int .i64 q]] w fun e w'=>e=.returned (.int .i64 ((sz N c:Nat):Int))/\Below w.heap.size w w':=by
 have hN:=h.few;have hc:=h.cell rfl;have HC:=fun w=>N_any c q h.sum hN w;have HS:Hid (12+4*(N:Int)+c=((sz N c:Nat):Int)):=by show _=_; unfold sz; omega
 have hc1:-1000<=c:=by omega
 have hc2:c<=1000:=by omega
 have e1:IntKind.i64.wrap (4*(N:Int))=4*(N:Int):=by rw [IntKind.wrap_i64]; omega
 have e2:IntKind.i64.wrap (12+4*(N:Int))=12+4*(N:Int):=by rw [IntKind.wrap_i64]; omega
 have e3:IntKind.i64.wrap (12+4*(N:Int)+c)=12+4*(N:Int)+c:=by rw [IntKind.wrap_i64]; omega
 clear h;obtain⟨w0,hw0⟩:∃ w0,w0=w.alloc (.cells #[.int .i64 k,.int .i64 r,.int .i64 c,.int .i64 q] 23):=⟨_,rfl⟩
 have b0:Below w.heap.size w w0:=by rw [hw0]; exact bal _ _
 obtain⟨s0,s1,s2,s3⟩:=par_held hw0 (Below.refl _ _);go_enter Tryz.func263,Tryz.ntmps263
 go_wp2_with fail
 rw [<- hw0];clear hw0;have SH:Hid (∀ v,Below w0.drew.heap.size w0.drew v->v.cell? ⟨w.heap.size,0,none⟩=some (.int .i64 k)/\v.cell? ⟨w.heap.size,1,none⟩=some (.int .i64 r)/\v.cell? ⟨w.heap.size,2,none⟩=some (.int .i64 c)/\v.cell? ⟨w.heap.size,3,none⟩=some (.int .i64 q)):=fun v hv=>have hv':=of_drew hv; ⟨held s0 hv',held s1 hv',held s2 hv',held s3 hv'⟩;go_region_held3 (fun v=>v.cell? ⟨w.heap.size,0,none⟩=some (.int .i64 k)/\v.cell? ⟨w.heap.size,1,none⟩=some (.int .i64 r)/\v.cell? ⟨w.heap.size,2,none⟩=some (.int .i64 c)/\v.cell? ⟨w.heap.size,3,none⟩=some (.int .i64 q)) (go_keep)
  ((go_at_call 111; refine(HC _).mono ?_; rintro e wa ⟨rfl,ha⟩; obtain⟨q0,q1,q2,q3⟩:=SH.out _ ha))
 all_goals (go_wp2; go_ret; exact⟨ret_int HS.out,bth b0.drew ha⟩)
theorem RLast_any{k r:Int}(c q:Int){N:Nat}(h:(N:Int)=k+r)(hk:N<=16)(w:World)(ao:Option Addr)(n ca:Nat)(R:Nat->Int)(hr:RdI w ao n R):
  Calls Tryz.prog 317 #[.agg #[.int .i64 k,.int .i64 r,.int .i64 c,.int .i64 q],.slice ao n ca] w fun e w'=>e=.returned (.int .i64 (if vok N n R=true then mx R n else 0))/\Below w.heap.size w w':=by
 have HD:=fun w=>N_any c q h hk w;have HR:Hid (RdI w ao n R):=hr;clear h hr;obtain⟨w0,hw0⟩:∃ w0,w0=w.alloc (.cells #[.int .i64 k,.int .i64 r,.int .i64 c,.int .i64 q] 23):=⟨_,rfl⟩
 have b0:Below w.heap.size w w0:=by rw [hw0]; exact bal _ _
 by_cases hnN:n=N
 ·by_cases hall:∀ i,i<n->1<=R i/\R i<=1073741824
  ·rw [show vok N n R=true from decide_eq_true ⟨hnN,hall⟩,if_pos rfl];have HA:Hid (∀ i,i<n->1<=R i/\R i<=1073741824):=hall;have HM:Hid (∀ i,mx R (i+1)=gr (mx R i) (R i)):=fun _=>rfl;have HM0:Hid (mx R 0=0):=rfl;clear hall;subst hnN;go_enter Tryz.func317,Tryz.ntmps317
   go_wp2_with fail
   rw [<- hw0];refine(HD _).mono ?_;rintro e wa ⟨rfl,ha⟩;have HB:Hid (Below w.heap.size w wa):=bth b0 ha;have HS:Hid (RdI wa ao n R):=HR.out.below HB.out;clear hw0 ha b0 HD;go_wp2_with fail
   go_loop [5,6] (fun v x=>∃ i:Nat,i<=n/\x=.int .i64 (i:Int)/\∃ y,v=.int .i64 y/\Hid (y=mx R i)) (fun _ x=>n-(intOf x).toNat)
   case atStart=>exact⟨0,Nat.zero_le _,rfl,0,rfl,HM0.out.symm⟩
   case round =>
    obtain⟨i,hi,rfl,y,rfl,hy⟩:=hrel;by_cases hlt:i<n
    ·obtain⟨b,off,rfl,hc⟩:=HS.out (by omega);have ck:=hc i hlt;have HV:=fun w=>Version_any (R i) w;rw [show verB (R i)=true from decide_eq_true (HA.out i hlt)] at HV;clear hc;have i1:(0:Int)<=(i:Int):=by omega
     have i2:(i:Int)<(n:Int):=by omega
     have HY:Hid (mx R (i+1)=gr y (R i)):=by show _=_; rw [HM.out i,<- hy.out]
     by_cases hg:y<R i
     ·have HY2:Hid (R i=mx R (i+1)):=by show _=_; rw [HY.out]; unfold gr; rw [if_pos hg]
      go_wp2_with fail
      refine(HV _).mono ?_;rintro e w' ⟨rfl,rfl⟩;go_wp2_with fail
      go_round
      case rel=>exact⟨i+1,by omega,by go_num,_,rfl,HY2.out⟩
      case measure=>simp [intOf]; omega
     ·have HY2:Hid (y=mx R (i+1)):=by show _=_; rw [HY.out]; unfold gr; rw [if_neg hg]
      go_wp2_with fail
      refine(HV _).mono ?_;rintro e w' ⟨rfl,rfl⟩;go_wp2_with fail
      go_round
      case rel=>exact⟨i+1,by omega,by go_num,_,rfl,HY2.out⟩
      case measure=>simp [intOf]; omega
    ·obtain rfl:i=n:=by omega
     go_wp2;go_ret;exact⟨ret_int hy.out,HB.out⟩
  ·rw [show vok N n R=false from decide_eq_false fun h=>hall h.2,if_neg (by decide)];obtain⟨p,hp,hne,heq⟩:=first_not hall;have HE:Hid (∀ i,i<p->verB (R i)=true):=fun i hi=>decide_eq_true (heq i hi);have HN:Hid (verB (R p)=false):=decide_eq_false hne;clear hall hne heq;subst hnN;go_enter Tryz.func317,Tryz.ntmps317
   go_wp2_with fail
   rw [<- hw0];refine(HD _).mono ?_;rintro e wa ⟨rfl,ha⟩;have HB:Hid (Below w.heap.size w wa):=bth b0 ha;have HS:Hid (RdI wa ao n R):=HR.out.below HB.out;clear hw0 ha b0 HD;go_wp2_with fail
   go_loop [5,6] (fun v x=>∃ i:Nat,i<=p/\x=.int .i64 (i:Int)/\∃ y:Int,v=.int .i64 y) (fun _ x=>n-(intOf x).toNat)
   case atStart=>exact⟨0,Nat.zero_le _,rfl,0,rfl⟩
   case round =>
    obtain⟨i,hi,rfl,y,rfl⟩:=hrel;have hlt:i<n:=by omega
    obtain⟨b,off,rfl,hc⟩:=HS.out (by omega);have ck:=hc i hlt;have HV:=fun w=>Version_any (R i) w;clear hc;have i1:(0:Int)<=(i:Int):=by omega
    have i2:(i:Int)<(n:Int):=by omega
    by_cases hiq:i<p
    ·rw [HE.out i hiq] at HV;by_cases hg:y<R i
     ·go_wp2_with fail
      refine(HV _).mono ?_;rintro e w' ⟨rfl,rfl⟩;go_wp2_with fail
      go_round
      case rel=>exact⟨i+1,by omega,by go_num,_,rfl⟩
      case measure=>simp [intOf]; omega
     ·go_wp2_with fail
      refine(HV _).mono ?_;rintro e w' ⟨rfl,rfl⟩;go_wp2_with fail
      go_round
      case rel=>exact⟨i+1,by omega,by go_num,_,rfl⟩
      case measure=>simp [intOf]; omega
    ·obtain rfl:i=p:=by omega
     rw [HN.out] at HV;go_wp2_with fail
     refine(HV _).mono ?_;rintro e w' ⟨rfl,rfl⟩;go_wp2_with fail
     go_ret;exact⟨rfl,HB.out⟩
 ·rw [show vok N n R=false from decide_eq_false fun h=>hnN h.1,if_neg (by decide)];go_enter Tryz.func317,Tryz.ntmps317
  go_wp2_with fail
  rw [<- hw0];refine(HD _).mono ?_;rintro e wa ⟨rfl,ha⟩;have HB:Hid (Below w.heap.size w wa):=bth b0 ha;clear hw0 ha b0 HD;go_wp2_with fail
  go_ret;exact⟨rfl,HB.out⟩
theorem number_any(w:World)(ao:Option Addr)(n ca at_:Nat)(F:Nat->UInt8)(hr:RdU w ao n F)(ha:at_+4<=n)(hn:n<=1000):
  Calls Tryz.prog 279 #[.slice ao n ca,.int .i64 (at_:Int)] w fun e w'=>e=.returned (.int .i64 ((nm F at_ 4:Nat):Int))/\Below w.heap.size w w':=by
 obtain⟨b,off,rfl,hc⟩:=hr (by omega);have c0:=hc at_ (by omega);have c1:=hc (at_+1) (by omega);have c2:=hc (at_+2) (by omega);have c3:=hc (at_+3) (by omega);have l0:(F at_).toNat<256:=(F at_).toNat_lt;have l1:(F (at_+1)).toNat<256:=(F (at_+1)).toNat_lt;have l2:(F (at_+2)).toNat<256:=(F (at_+2)).toNat_lt;have l3:(F (at_+3)).toNat<256:=(F (at_+3)).toNat_lt;have HN:Hid (nm F at_ 4=(((F at_).toNat*256+(F (at_+1)).toNat)*256+(F (at_+2)).toNat)*256+(F (at_+3)).toNat):=by show _=_; rw [nm,nm,nm,nm,nm]; simp
 obtain⟨u0,hu0⟩:∃ u:Nat,(F at_).toNat=u:=⟨_,rfl⟩
 obtain⟨u1,hu1⟩:∃ u:Nat,(F (at_+1)).toNat=u:=⟨_,rfl⟩
 obtain⟨u2,hu2⟩:∃ u:Nat,(F (at_+2)).toNat=u:=⟨_,rfl⟩
 obtain⟨u3,hu3⟩:∃ u:Nat,(F (at_+3)).toNat=u:=⟨_,rfl⟩
 rw [hu0] at c0 l0 HN;rw [hu1] at c1 l1 HN;rw [hu2] at c2 l2 HN;rw [hu3] at c3 l3 HN;clear hu0 hu1 hu2 hu3 hc hr;have i0:(0:Int)<=(at_:Int):=by omega
 have i1:(at_:Int)<(n:Int):=by omega
 have i2:(at_:Int)+1<(n:Int):=by omega
 have i3:(at_:Int)+2<(n:Int):=by omega
 have i4:(at_:Int)+3<(n:Int):=by omega
 go_enter Tryz.func279,Tryz.ntmps279
 go_wp2_with fail
 go_quiet (fail)
 go_wp2;go_ret;refine⟨ret_int ?_,below_drewN _ _ _⟩;rw [HN.out]
 trace_state
 omega
end Go.Proofs.YtemlojjkokooeaaGreat
