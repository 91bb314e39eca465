import Derived.Test.YtemlojjkokooeaaGreatTj19
import Derived.Test.YtemlojjkokooeaaGreatTj23
set_option maxHeartbeats 1000000
set_option maxRecDepth 100000
namespace Go.Proofs.YtemlojjkokooeaaGreat
def tB (y:Sl) (kd:UInt8) (v:Int):Bool:=decide (y.kd=kd/\y.st=v)
def tS (Y:Nat->Sl) (kd:UInt8) (v:Int):Nat->Sl
  | 0=>zSl
  | m+1=>if (tS Y kd v m).ce=0 then (if tB (Y m) kd v=true then Y m else zSl) else tS Y kd v m
def zz (Y:Nat->Sl) (kd:UInt8) (t:Sl) (i:Nat):Sl:=if t.ce=0 then zSl else fZ (Y (2*i)) (Y (2*i+1)) kd (t.V i)
def yy (N:Nat) (c:Int) (L:Nat->Nat) (F:Nat->Nat->UInt8) (j:Nat):Sl:=he 0 N c ((j / 2:Nat):Int) (L j) (F j)
def Is (N:Nat) (c:Int) (y:Sl) (i:Nat):Prop:=okS N c y=true/\y.ix=(i:Int)
def OkY (N:Nat) (c:Int) (Y:Nat->Sl):Prop:=∀ j,j<2*N->Y j=zSl\/Is N c (Y j) (j / 2)
theorem he_is(N:Nat)(c ix:Int)(n:Nat)(F:Nat->UInt8):he 0 N c ix n F=zSl\/(okS N c (he 0 N c ix n F)=true/\(he 0 N c ix n F).ix=ix/\isS N c n F=true/\he 0 N c ix n F=dec N c F):=by
 unfold he ofI slQ;rw [if_pos rfl];cases e:isS N c n F
 ·rw [if_neg Bool.false_ne_true];by_cases h:zSl.ix=ix
  ·rw [if_pos h]; exact .inl rfl
  ·rw [if_neg h]; exact .inl rfl
 ·rw [if_pos rfl];by_cases h:(dec N c F).ix=ix
  ·rw [if_pos h]; exact .inr ⟨(is_true e).2.2.2,h,rfl,rfl⟩
  ·rw [if_neg h]; exact .inl rfl
theorem yy_ok(N:Nat)(c:Int)(L:Nat->Nat)(F:Nat->Nat->UInt8):OkY N c (yy N c L F):=fun j _=>by
 rcases he_is N c ((j / 2:Nat):Int) (L j) (F j) with h | ⟨h1,h2,_⟩
 ·exact .inl h
 ·exact .inr ⟨h1,h2⟩
theorem mx_leq{R:Nat->Int}:∀ {n i:Nat},i<n->R i<=mx R n
 | 0,_,h=>absurd h (Nat.not_lt_zero _)
 | n+1,i,h=>by
  rw [mx,gr];by_cases e:i=n
  ·subst e; split <;> omega
  ·have:=mx_leq (R:=R) (n:=n) (i:=i) (by omega);split <;> omega
structure Ok (N:Nat) (c:Int) (s:Sl):Prop where
  vn:s.vn=N
  V:∀ i,i<N->1<=s.V i/\s.V i<=1073741824
  kd:s.kd=1\/s.kd=2
  ix:0<=s.ix/\s.ix<(N:Int)
  dn:(s.dn:Int)=c
  st:s.st=mx s.V N
  ce:s.ce=s.V s.ix.toNat
theorem ok_of{N:Nat}{c:Int}{s:Sl}(h:okS N c s=true):Ok N c s:=by
 obtain⟨⟨k1,k2⟩,k3,k4,k5,k6,k7,k8⟩:=okS_true h;subst k1;exact⟨rfl,k2,k3,⟨k4,k5⟩,k6,k7,k8⟩
theorem Ok.ok{N:Nat}{c:Int}{s:Sl}(h:Ok N c s):okS N c s=true:=by
 have h1:=h.vn;refine decide_eq_true ⟨⟨h1,fun i hi=>h.V i (by omega)⟩,h.kd,h.ix.1,by have:=h.ix.2; omega,h.dn,by rw [h1]; exact h.st,h.ce⟩
theorem Ok.ne{N:Nat}{c:Int}{s:Sl}(h:Ok N c s):s.ce ≠ 0:=by
 have:=h.V s.ix.toNat (by have:=h.ix; omega)
 have:=h.ce;omega
theorem tB_ne{N:Nat}{c:Int}{y:Sl}{i:Nat}{kd:UInt8}{v:Int}(hk:kd=1\/kd=2)(h:y=zSl\/Is N c y i)(ht:tB y kd v=true):Is N c y i:=by
 rcases h with rfl | h
 ·have:=(of_decide_eq_true ht).1;rcases hk with rfl | rfl <;> exact absurd this (by decide)
 ·exact h
theorem tS_stay{Y:Nat->Sl}{kd:UInt8}{v:Int}{m n:Nat}(h:(tS Y kd v m).ce ≠ 0)(hm:m<=n):tS Y kd v n=tS Y kd v m:=by
 induction n with
 | zero=>rw [show m=0 by omega]
 | succ n ih =>
  by_cases e:m=n+1
  ·rw [e]
  ·have:=ih (by omega);rw [tS,this,if_neg h]
theorem tS_is{N:Nat}{c:Int}{Y:Nat->Sl}{kd:UInt8}{v:Int}(hk:kd=1\/kd=2)(hY:OkY N c Y):∀ m,m<=2*N->(tS Y kd v m=zSl/\∀ j,j<m->tB (Y j) kd v=false)\/∃ j,j<m/\tS Y kd v m=Y j/\tB (Y j) kd v=true/\Is N c (Y j) (j / 2)/\∀ j',j'<j->tB (Y j') kd v=false
 | 0,_=>.inl ⟨rfl,fun j h=>absurd h (Nat.not_lt_zero j)⟩
 | m+1,hm=>by
  rcases tS_is hk hY m (by omega) with ⟨h1,h2⟩ | ⟨j,h1,h2,h3,h4,h5⟩
  ·rw [tS,h1,if_pos (show zSl.ce=0 from rfl)];cases e:tB (Y m) kd v
   ·rw [if_neg Bool.false_ne_true];refine .inl ⟨rfl,fun j hj=>?_⟩;by_cases g:j=m
    ·rw [g]; exact e
    ·exact h2 j (by omega)
   ·rw [if_pos rfl];exact .inr ⟨m,by omega,rfl,e,tB_ne hk (hY m (by omega)) e,h2⟩
  ·rw [tS,h2,if_neg (ok_of h4.1).ne];exact .inr ⟨j,by omega,rfl,h3,h4,h5⟩
theorem hB_true{y:Sl}{kd:UInt8}{v:Int}(h:hB y kd v=true):v ≠ 0/\y.kd=kd/\y.ce=v:=of_decide_eq_true h
theorem fZ_is{N:Nat}{c:Int}{y0 y1:Sl}{i:Nat}{kd:UInt8}{v:Int}(h0:y0=zSl\/Is N c y0 i)(h1:y1=zSl\/Is N c y1 i):(fZ y0 y1 kd v=zSl/\hB y0 kd v=false/\hB y1 kd v=false)\/(Is N c (fZ y0 y1 kd v) i/\(fZ y0 y1 kd v).kd=kd/\(fZ y0 y1 kd v).ce=v/\v ≠ 0):=by
 unfold fZ;cases e0:hB y0 kd v
 ·rw [if_neg Bool.false_ne_true];cases e1:hB y1 kd v
  ·rw [if_neg Bool.false_ne_true]; exact .inl ⟨rfl,rfl,rfl⟩
  ·rw [if_pos rfl];obtain⟨a,b,d⟩:=hB_true e1;refine .inr ⟨?_,b,d,a⟩;rcases h1 with rfl | h
   ·exact absurd d.symm a
   ·exact h
 ·rw [if_pos rfl];obtain⟨a,b,d⟩:=hB_true e0;refine .inr ⟨?_,b,d,a⟩;rcases h0 with rfl | h
  ·exact absurd d.symm a
  ·exact h
theorem pair_of{N:Nat}{c:Int}{Y:Nat->Sl}(hY:OkY N c Y){i:Nat}(hi:i<N):(Y (2*i)=zSl\/Is N c (Y (2*i)) i)/\(Y (2*i+1)=zSl\/Is N c (Y (2*i+1)) i):=by
 have h0:=hY (2*i) (by omega);have h1:=hY (2*i+1) (by omega);rw [show 2*i / 2=i by omega] at h0;rw [show (2*i+1) / 2=i by omega] at h1;exact⟨h0,h1⟩
theorem zz_is{N:Nat}{c:Int}{Y:Nat->Sl}{kd:UInt8}(hY:OkY N c Y)(t:Sl){i:Nat}(hi:i<N):zz Y kd t i=zSl\/(Is N c (zz Y kd t i) i/\(zz Y kd t i).kd=kd/\(zz Y kd t i).ce=t.V i/\t.ce ≠ 0):=by
 unfold zz;by_cases e:t.ce=0
 ·rw [if_pos e]; exact .inl rfl
 ·rw [if_neg e];obtain⟨h0,h1⟩:=pair_of hY hi;rcases fZ_is (kd:=kd) (v:=t.V i) h0 h1 with ⟨h,_⟩ | ⟨h,g,f,_⟩
  ·exact .inl h
  ·exact .inr ⟨h,g,f,e⟩
end Go.Proofs.YtemlojjkokooeaaGreat
namespace Go.Proofs.YtemlojjkokooeaaGreat
open Go.RowKit
structure Rw (w:World) (ro:Option Addr) (rn:Nat) (A:Nat->Option Addr) (L C:Nat->Nat) (F:Nat->Nat->UInt8):Prop where
  at_:0<rn->∃ b off,ro=some ⟨b,off,none⟩/\∀ i,i<rn->w.cell? ⟨b,off+i*2,none⟩=some (.slice (A (2*i)) (L (2*i)) (C (2*i)))/\w.cell? ⟨b,off+i*2+1,none⟩=some (.slice (A (2*i+1)) (L (2*i+1)) (C (2*i+1)))
  bec:∀ j,j<2*rn->Bec w (A j) (L j) (C j) (F j)
theorem Rw.below{w w':World}{ro:Option Addr}{rn:Nat}{A:Nat->Option Addr}{L C:Nat->Nat}{F:Nat->Nat->UInt8}(h:Rw w ro rn A L C F)(hb:Below w.heap.size w w'):Rw w' ro rn A L C F:=by
 refine⟨fun hp=>?_,fun j hj=>(h.bec j hj).below hb⟩;obtain⟨b,off,rfl,hc⟩:=h.at_ hp;exact⟨b,off,rfl,fun i hi=>⟨held (hc i hi).1 hb,held (hc i hi).2 hb⟩⟩
theorem within2_any(n a b:Int)(w:World):
  Calls Tryz.prog 132 #[.int .i64 n,.int .i64 a,.int .i64 b] w fun e w'=>e=.returned (.bool (decide (a<=n/\n<=b)))/\w'=w:=by
 rw [Bool.decide_and];go_enter Tryz.func132,Tryz.ntmps132
 go_wp2
 ·go_ret;exact⟨ret_bool (by rw [decide_eq_true (show a<=n by omega)]; rfl),rfl⟩
 ·go_ret;exact⟨ret_bool (by rw [decide_eq_false (show ¬ a<=n by omega)]; rfl),rfl⟩
def RuleC (w:World) (fn:Nat) (cp:Array Value) (n:Nat) (A:Nat->Option Addr) (L C:Nat->Nat) (P:Nat->Bool):Prop :=
  ∀ i,i<n->Calls Tryz.prog fn (#[.slice (A i) (L i) (C i)] ++ cp) w fun e w'=>e=.returned (.bool (P i))/\w'=w
def RdC (w:World) (ao:Option Addr) (n:Nat) (A:Nat->Option Addr) (L C:Nat->Nat):Prop:=0<n->∃ b off,ao=some ⟨b,off,none⟩/\∀ i,i<n->w.cell? ⟨b,off+i,none⟩=some (.slice (A i) (L i) (C i))
theorem indexC_any(w:World)(ao:Option Addr)(n ca fn:Nat)(cp:Array Value)(A:Nat->Option Addr)(L C:Nat->Nat)(P:Nat->Bool)(hn:n<=1000)(hfn:∀ xs w,(callFunc fn xs).run Tryz.prog w=.ok (.enter fn xs) w)(hr:RdC w ao n A L C)(hf:RuleC w fn cp n A L C P):
  Calls Tryz.prog 276 #[.slice ao n ca,.func (.func fn) #[] cp] w fun e w'=>∃ x:Int,e=.returned (.int .i64 x)/\decide (0<=x)=anyB n P/\w'=w:=by
 have HR:Hid (RdC w ao n A L C):=hr;have HF:Hid (RuleC w fn cp n A L C P):=hf;clear hr hf;by_cases hall:∀ i,i<n->P i=false
 ·have HB:Hid (anyB n P=false):=by show _=_; unfold anyB; rw [decide_eq_true hall]; rfl
  have HA:Hid (∀ i,i<n->P i=false):=hall;clear hall;go_enter Tryz.func276,Tryz.ntmps276
  go_wp2;go_loop [8] (fun x=>∃ i:Nat,i<=n/\x=.int .i64 i) (fun x=>n-(intOf x).toNat)
  case atStart=>exact⟨0,Nat.zero_le _,rfl⟩
  case round =>
   obtain⟨i,hi,rfl⟩:=hrel;by_cases hlt:i<n
   ·obtain⟨b,off,rfl,hc⟩:=HR.out (by omega);have ck:=hc i hlt;have HC:=HF.out i hlt;rw [HA.out i hlt] at HC;clear hc;have i1:(0:Int)<=(i:Int):=by omega
    have i2:(i:Int)<(n:Int):=by omega
    go_wp2_with fail
    refine HC.mono ?_;rintro e w' ⟨rfl,rfl⟩;go_wp2_with fail
    go_round
    case rel=>exact⟨i+1,by omega,by go_num⟩
    case measure=>simp [intOf]; omega
   ·go_wp2;go_ret;exact⟨_,rfl,by rw [HB.out]; rfl,rfl⟩
 ·have HB:Hid (anyB n P=true):=by show _=_; unfold anyB; rw [decide_eq_false hall]; rfl
  obtain⟨q,hq,hne,heq⟩:=first_not hall;have HE:Hid (∀ i,i<q->P i=false):=heq;have HN:Hid (P q=true):=by show _=_; cases h:P q; exact absurd h hne; rfl
  clear hall hne heq;go_enter Tryz.func276,Tryz.ntmps276
  go_wp2;go_loop [8] (fun x=>∃ i:Nat,i<=q/\x=.int .i64 i) (fun x=>n-(intOf x).toNat)
  case atStart=>exact⟨0,Nat.zero_le _,rfl⟩
  case round =>
   obtain⟨i,hi,rfl⟩:=hrel;have hlt:i<n:=by omega
   obtain⟨b,off,rfl,hc⟩:=HR.out (by omega);have ck:=hc i hlt;have HC:=HF.out i hlt;clear hc;have i1:(0:Int)<=(i:Int):=by omega
   have i2:(i:Int)<(n:Int):=by omega
   by_cases hiq:i<q
   ·rw [HE.out i hiq] at HC;go_wp2_with fail
    refine HC.mono ?_;rintro e w' ⟨rfl,rfl⟩;go_wp2_with fail
    go_round
    case rel=>exact⟨i+1,by omega,by go_num⟩
    case measure=>simp [intOf]; omega
   ·obtain rfl:i=q:=by omega
    rw [HN.out] at HC;go_wp2_with fail
    refine HC.mono ?_;rintro e w' ⟨rfl,rfl⟩;go_wp2_with fail
    go_ret;exact⟨_,rfl,by rw [HB.out]; simp,rfl⟩
theorem containsC_any(w:World)(ao:Option Addr)(n ca fn:Nat)(cp:Array Value)(A:Nat->Option Addr)(L C:Nat->Nat)(P:Nat->Bool)(hn:n<=1000)(hfn:∀ xs w,(callFunc fn xs).run Tryz.prog w=.ok (.enter fn xs) w)(hr:RdC w ao n A L C)(hf:RuleC w fn cp n A L C P):
  Calls Tryz.prog 200 #[.slice ao n ca,.func (.func fn) #[] cp] w fun e w'=>e=.returned (.bool (anyB n P))/\w'=w:=by
 have HX:=indexC_any w ao n ca fn cp A L C P hn hfn hr hf;clear hr hf hfn;go_enter Tryz.func200,Tryz.ntmps200
 go_wp2_with (go_at_call 276; refine HX.mono ?_; rintro e w' ⟨x,rfl,hx,rfl⟩)
 go_ret;exact⟨by rw [<- hx]; rfl,rfl⟩
def badL (z l:Nat):Bool:=decide (l ≠ 0/\l ≠ z)
theorem bad_any(w:World)(a:Option Addr)(l cp g z:Nat)(hg:w.cell? ⟨g,0,none⟩=some (.int .i64 (z:Int))):
  Calls Tryz.prog 201 #[.slice a l cp,.pointer (some ⟨g,0,none⟩)] w fun e w'=>e=.returned (.bool (badL z l))/\w'=w:=by
 have HV:Hid (badL z l=decide (l ≠ 0/\l ≠ z)):=rfl;by_cases h0:l=0
 ·have h1:((l:Int) != 0)=false:=by simp [h0]
  go_enter Tryz.func201,Tryz.ntmps201
  go_wp2;go_ret;refine⟨ret_bool ?_,rfl⟩;rw [HV.out,decide_eq_false (by omega)]
 ·have h1:((l:Int) != 0)=true:=by simp [h0]
  have h2:((l:Int) != (z:Int))=decide (l ≠ z):=by
   by_cases e:l=z
   ·subst e; simp
   ·rw [decide_eq_true e]; simp; omega
  go_enter Tryz.func201,Tryz.ntmps201
  go_wp2;go_ret;refine⟨ret_bool ?_,rfl⟩;rw [HV.out];first | (by_cases e:l=z; subst e; simp; simp [h0,e]; done) | simp [h0]
end Go.Proofs.YtemlojjkokooeaaGreat
