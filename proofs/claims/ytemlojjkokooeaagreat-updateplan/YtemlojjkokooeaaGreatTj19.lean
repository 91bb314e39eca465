import Derived.Test.YtemlojjkokooeaaGreatTj12
set_option maxHeartbeats 16000000
set_option maxRecDepth 100000
namespace Go.Proofs.YtemlojjkokooeaaGreat
open Go.RowKit
theorem oin_z(kd:UInt8)(v:Int):oN zSl zSl kd v=0:=by unfold oN; rw [hB_z]; rfl
theorem Older_any{k r c q:Int}{N W:Nat}{x:Int}(h:Par k r c q N W x)(w:World)(a0:Option Addr)(n0 c0:Nat)(F0:Nat->UInt8)(a1:Option Addr)(n1 c1:Nat)(F1:Nat->UInt8)(h0:Bec w a0 n0 c0 F0)(h1:Bec w a1 n1 c1 F1)(kd:UInt8)(ix v:Int)(E:Int)(hE:erO (erC x N c n0 n1 ((kd.toNat:Nat):Int) ix) v=E)(y0 y1:Sl)(hy0:he E N c ix n0 F0=y0)(hy1:he E N c ix n1 F1=y1):
  Calls Tryz.prog 150 #[.agg #[.int .i64 k,.int .i64 r,.int .i64 c,.int .i64 q],.agg #[.slice a0 n0 c0,.slice a1 n1 c1],.int .u8 ((kd.toNat:Nat):Int),.int .i64 ix,.int .i64 v] w fun e w'=>e=.returned (.tuple #[.int .i64 ((oN y0 y1 kd v:Nat):Int),.int .i64 E])/\Below w.heap.size w w':=by
 obtain⟨w0,hw0⟩:∃ w0,w0=w.alloc (.cells #[.int .i64 k,.int .i64 r,.int .i64 c,.int .i64 q] 23):=⟨_,rfl⟩
 have bw0:Below w.heap.size w w0:=by rw [hw0]; exact bal _ _
 have zw0:w0.heap.size=w.heap.size+1:=by rw [hw0]; simp
 obtain⟨w1,hw1⟩:∃ w1,w1=w0.alloc (.cells #[.slice a0 n0 c0,.slice a1 n1 c1] 97):=⟨_,rfl⟩
 have bw1:Below w0.heap.size w0 w1:=by rw [hw1]; exact bal _ _
 have zw1:w1.heap.size=w.heap.size+1+1:=by rw [hw1]; simp [zw0]
 have Bw:Hid (Below w.heap.size w w1):=(bth bw0 bw1)
 have Lw0:Hid (∀ v,Below w1.heap.size w1 v->At w v (w.heap.size) #[.int .i64 k,.int .i64 r,.int .i64 c,.int .i64 q] 23):=fun v hv=>by exact(at_made (Below.refl _ _) hw0).below (bth bw1 hv)
 have Lw1:Hid (∀ v,Below w1.heap.size w1 v->At w v (w.heap.size+1) #[.slice a0 n0 c0,.slice a1 n1 c1] 97):=fun v hv=>by rw [<- zw0]; exact(at_made bw0 hw1).below (bth (Below.refl _ _) hv)
 obtain⟨C,hC⟩:∃ C,erC x N c n0 n1 ((kd.toNat:Nat):Int) ix=C:=⟨_,rfl⟩
 obtain⟨s,hs⟩:∃ s,he C N c ix n0 F0=s:=⟨_,rfl⟩
 obtain⟨t,ht⟩:∃ t,he C N c ix n1 F1=t:=⟨_,rfl⟩
 have HR:Hid (∀ v,Below w.heap.size w v->Calls Tryz.prog 207 #[.agg #[.int .i64 k,.int .i64 r,.int .i64 c,.int .i64 q],.agg #[.slice a0 n0 c0,.slice a1 n1 c1],.int .u8 ((kd.toNat:Nat):Int),.int .i64 ix] v (AnsT v C s t)):=fun v hv=>checked_any h v a0 n0 c0 F0 a1 n1 c1 F1 (h0.below hv) (h1.below hv) ((kd.toNat:Nat):Int) ix C hC s t hs ht;have HS2:Hid (w1.heap.size=w.heap.size+1+1):=zw1;have HZ2:Hid (¬ E=0->y0=zSl/\y1=zSl):=fun e=>by
  rw [<- hy0,<- hy1]; unfold he; rw [if_neg e,if_neg e]; exact⟨rfl,rfl⟩
 have HZ0:Hid (E=0->C=0->s=y0/\t=y1):=fun e e2=>by
  rw [<- hy0,<- hy1,<- hs,<- ht,e,e2]; exact⟨rfl,rfl⟩
 have HEE:E=if C=0 then (if 0<=v/\v<=1073741824 then 0 else 2) else C:=by rw [<- hE,hC]; rfl
 clear hE hy0 hy1 hs ht hC h h0 h1;unfold AnsT bov at HR;by_cases eC:C=0
 ·subst eC;rw [if_pos rfl] at HEE;by_cases vv:0<=v/\v<=1073741824
  ·rw [if_pos vv] at HEE;subst HEE;obtain⟨v1,v2⟩:=vv;obtain⟨rfl,rfl⟩:=HZ0.out rfl rfl;have v3:¬ v<0:=by omega
   have v4:¬ 1073741824<v:=by omega
   have HON:Hid (∀ v (ao:Option Addr) (ca:Nat) (bo:Option Addr) (cb:Nat) (ao':Option Addr) (ca':Nat) (bo':Option Addr) (cb':Nat),Calls Tryz.prog 208 #[bov s ao ca bo cb t ao' ca' bo' cb',.int .u8 ((kd.toNat:Nat):Int)] v fun e w'=>e=.returned (bov (ofK kd s) (keA (s.kd == kd) ao) (keN (s.kd == kd) ca) (keA (s.kd == kd) bo) (keN (s.kd == kd) cb) (ofK kd t) (keA (t.kd == kd) ao') (keN (t.kd == kd) ca') (keA (t.kd == kd) bo') (keN (t.kd == kd) cb'))/\Below v.heap.size v w'):=fun v ao ca bo cb ao' ca' bo' cb'=>only_any v s t ao ca bo cb ao' ca' bo' cb' kd;have HLE0:Hid (∀ u (ao:Option Addr) (ca:Nat) (bo:Option Addr) (cb:Nat) (ao':Option Addr) (ca':Nat) (bo':Option Addr) (cb':Nat),Calls Tryz.prog 220 #[bov s ao ca bo cb t ao' ca' bo' cb'] u fun e w'=>e=.returned (.int .i64 (if t.ce<s.ce then 1 else 0))/\Below u.heap.size u w'):=fun u ao ca bo cb ao' ca' bo' cb'=>least_any u s t ao ca bo cb ao' ca' bo' cb';have HLE:Hid (∀ u (ao:Option Addr) (ca:Nat) (bo:Option Addr) (cb:Nat) (ao':Option Addr) (ca':Nat) (bo':Option Addr) (cb':Nat),Calls Tryz.prog 220 #[bov s ao ca bo cb t ao' ca' bo' cb'] u fun e w'=>e=.returned (.int .i64 ((if t.ce<s.ce then 1 else 0:Nat):Int))/\Below u.heap.size u w'):=fun u ao ca bo cb ao' ca' bo' cb'=>by
    refine(HLE0.out u ao ca bo cb ao' ca' bo' cb').mono ?_;rintro e w' ⟨rfl,hb⟩;refine⟨?_,hb⟩;split <;> rfl
   clear HLE0;have HFI0:Hid (∀ u (ao:Option Addr) (ca:Nat) (bo:Option Addr) (cb:Nat) (ao':Option Addr) (ca':Nat) (bo':Option Addr) (cb':Nat),Calls Tryz.prog 209 #[bov (ofK kd s) ao ca bo cb (ofK kd t) ao' ca' bo' cb',.int .i64 v] u fun e w'=>e=.returned (.tuple #[.int .i64 (if (ofK kd s).ce=v then 0 else if (ofK kd t).ce=v then 1 else 0),.bool (decide ((ofK kd s).ce=v) || decide ((ofK kd t).ce=v))])/\Below u.heap.size u w'):=fun u ao ca bo cb ao' ca' bo' cb'=>find_any u (ofK kd s) (ofK kd t) ao ca bo cb ao' ca' bo' cb' v;have hrs:oN s t kd v=(if hB s kd v=true then 1 else if hB t kd v=true then 0 else if t.ce<s.ce then 1 else 0):=rfl;unfold bov at HON HFI0 HLE;obtain⟨ls,hls⟩:∃ ls:Nat,ls=(if t.ce<s.ce then 1 else 0):=⟨_,rfl⟩
   rw [<- hls] at HLE hrs;clear hls HZ2 HZ0;by_cases v0:v=0
   ·rw [show hB s kd v=false from decide_eq_false fun h=>h.1 v0,show hB t kd v=false from decide_eq_false fun h=>h.1 v0] at hrs;simp only [Bool.false_eq_true,if_false] at hrs;have v5:(v != 0)=false:=by simp [v0]
    clear v0 v1 v2;obtain⟨i,hi⟩:∃ i,i=(decide ((ofK kd s).ce=v) || decide ((ofK kd t).ce=v)):=⟨_,rfl⟩
    obtain⟨m,hm⟩:∃ m:Int,m=(if (ofK kd s).ce=v then 0 else if (ofK kd t).ce=v then 1 else 0):=⟨_,rfl⟩
    rw [<- hi,<- hm] at HFI0;obtain⟨u,hu⟩:∃ u,u=ofK kd s:=⟨_,rfl⟩
    obtain⟨u2,hu2⟩:∃ u2,u2=ofK kd t:=⟨_,rfl⟩
    rw [<- hu,<- hu2] at HON HFI0;have HFI:=HFI0;have HRES:Hid _:=hrs;clear HFI0 hrs hi hm hu hu2;cases i
    ·skip
     go_enter Tryz.func150,Tryz.ntmps150
     go_wp2_with fail
     rw [<- hw0,<- hw1];clear hw0 bw0 zw0 hw1 bw1 zw1;refine(HR.out _ Bw.out).mono ?_;rintro e wa ⟨ao,ca,bo,cb,ao',ca',bo',cb',rfl,hga,hgb,ha⟩;have HGA:Hid (Got w1.heap.size wa s ao ca bo cb):=hga;have HGB:Hid (Got w1.heap.size wa t ao' ca' bo' cb'):=hgb;have HA:Hid (Below w1.heap.size w1 wa):=ha;clear hga hgb ha;obtain⟨wb,hwb⟩:∃ wb,wb=wa.alloc (.cells #[.int .u8 ((s.kd.toNat:Nat):Int),.int .i64 s.ix,.int .i64 s.ce,.int .i64 s.st,.slice ao s.vn ca,.slice bo s.dn cb,.int .u8 ((t.kd.toNat:Nat):Int),.int .i64 t.ix,.int .i64 t.ce,.int .i64 t.st,.slice ao' t.vn ca',.slice bo' t.dn cb'] 254):=⟨_,rfl⟩
     have HB:Hid (Below wa.heap.size wa wb):=by show Below _ _ _; rw [hwb]; exact bal _ _
     have HBK:Hid (At w wb wa.heap.size #[.int .u8 ((s.kd.toNat:Nat):Int),.int .i64 s.ix,.int .i64 s.ce,.int .i64 s.st,.slice ao s.vn ca,.slice bo s.dn cb,.int .u8 ((t.kd.toNat:Nat):Int),.int .i64 t.ix,.int .i64 t.ce,.int .i64 t.st,.slice ao' t.vn ca',.slice bo' t.dn cb'] 254):=at_made (bth Bw.out HA.out) hwb;go_wp2_with fail
     rw [<- hwb];clear hwb;refine(HON.out _ ao ca bo cb ao' ca' bo' cb').mono ?_;rintro e wc ⟨rfl,hc⟩;have HC:Hid (Below wb.heap.size wb wc):=hc;clear hc;obtain⟨fo,fa,go,gb,fo',fa',go',gb',hf⟩:∃ fo fa go gb fo' fa' go' gb',fo=keA (s.kd == kd) ao/\fa=keN (s.kd == kd) ca/\go=keA (s.kd == kd) bo/\gb=keN (s.kd == kd) cb/\fo'=keA (t.kd == kd) ao'/\fa'=keN (t.kd == kd) ca'/\go'=keA (t.kd == kd) bo'/\gb'=keN (t.kd == kd) cb':=⟨_,_,_,_,_,_,_,_,rfl,rfl,rfl,rfl,rfl,rfl,rfl,rfl⟩
     obtain⟨f1,f2,f3,f4,f5,f6,f7,f8⟩:=hf;rw [<- f1,<- f2,<- f3,<- f4,<- f5,<- f6,<- f7,<- f8];clear f1 f2 f3 f4 f5 f6 f7 f8;go_wp2_with fail
     refine(HFI.out _ fo fa go gb fo' fa' go' gb').mono ?_;rintro e wd ⟨rfl,hd⟩;have HD:Hid (Below wb.heap.size wb wd):=bth HC.out hd;clear hd HC;have q3:=HBK.out.below HD.out;have s0:=q3.cell (i:=0) rfl;have s1:=q3.cell (i:=1) rfl;have s2:=q3.cell (i:=2) rfl;have s3:=q3.cell (i:=3) rfl;have s4:=q3.cell (i:=4) rfl;have s5:=q3.cell (i:=5) rfl;have s6:=q3.cell (i:=6) rfl;have s7:=q3.cell (i:=7) rfl;have s8:=q3.cell (i:=8) rfl;have s9:=q3.cell (i:=9) rfl;have s10:=q3.cell (i:=10) rfl;have s11:=q3.cell (i:=11) rfl;clear q3;go_wp2_with fail
     refine(HLE.out _ ao ca bo cb ao' ca' bo' cb').mono ?_;rintro e we ⟨rfl,he⟩;have HE:Hid (Below wd.heap.size wd we):=he;clear he;go_wp2_with fail
     go_ret2;rw [HRES.out];exact⟨rfl,bth (bth (bth Bw.out HA.out) (bth HB.out HD.out)) HE.out⟩
    ·skip
     go_enter Tryz.func150,Tryz.ntmps150
     go_wp2_with fail
     rw [<- hw0,<- hw1];clear hw0 bw0 zw0 hw1 bw1 zw1;refine(HR.out _ Bw.out).mono ?_;rintro e wa ⟨ao,ca,bo,cb,ao',ca',bo',cb',rfl,hga,hgb,ha⟩;have HGA:Hid (Got w1.heap.size wa s ao ca bo cb):=hga;have HGB:Hid (Got w1.heap.size wa t ao' ca' bo' cb'):=hgb;have HA:Hid (Below w1.heap.size w1 wa):=ha;clear hga hgb ha;obtain⟨wb,hwb⟩:∃ wb,wb=wa.alloc (.cells #[.int .u8 ((s.kd.toNat:Nat):Int),.int .i64 s.ix,.int .i64 s.ce,.int .i64 s.st,.slice ao s.vn ca,.slice bo s.dn cb,.int .u8 ((t.kd.toNat:Nat):Int),.int .i64 t.ix,.int .i64 t.ce,.int .i64 t.st,.slice ao' t.vn ca',.slice bo' t.dn cb'] 254):=⟨_,rfl⟩
     have HB:Hid (Below wa.heap.size wa wb):=by show Below _ _ _; rw [hwb]; exact bal _ _
     have HBK:Hid (At w wb wa.heap.size #[.int .u8 ((s.kd.toNat:Nat):Int),.int .i64 s.ix,.int .i64 s.ce,.int .i64 s.st,.slice ao s.vn ca,.slice bo s.dn cb,.int .u8 ((t.kd.toNat:Nat):Int),.int .i64 t.ix,.int .i64 t.ce,.int .i64 t.st,.slice ao' t.vn ca',.slice bo' t.dn cb'] 254):=at_made (bth Bw.out HA.out) hwb;go_wp2_with fail
     rw [<- hwb];clear hwb;refine(HON.out _ ao ca bo cb ao' ca' bo' cb').mono ?_;rintro e wc ⟨rfl,hc⟩;have HC:Hid (Below wb.heap.size wb wc):=hc;clear hc;obtain⟨fo,fa,go,gb,fo',fa',go',gb',hf⟩:∃ fo fa go gb fo' fa' go' gb',fo=keA (s.kd == kd) ao/\fa=keN (s.kd == kd) ca/\go=keA (s.kd == kd) bo/\gb=keN (s.kd == kd) cb/\fo'=keA (t.kd == kd) ao'/\fa'=keN (t.kd == kd) ca'/\go'=keA (t.kd == kd) bo'/\gb'=keN (t.kd == kd) cb':=⟨_,_,_,_,_,_,_,_,rfl,rfl,rfl,rfl,rfl,rfl,rfl,rfl⟩
     obtain⟨f1,f2,f3,f4,f5,f6,f7,f8⟩:=hf;rw [<- f1,<- f2,<- f3,<- f4,<- f5,<- f6,<- f7,<- f8];clear f1 f2 f3 f4 f5 f6 f7 f8;go_wp2_with fail
     refine(HFI.out _ fo fa go gb fo' fa' go' gb').mono ?_;rintro e wd ⟨rfl,hd⟩;have HD:Hid (Below wb.heap.size wb wd):=bth HC.out hd;clear hd HC;have q3:=HBK.out.below HD.out;have s0:=q3.cell (i:=0) rfl;have s1:=q3.cell (i:=1) rfl;have s2:=q3.cell (i:=2) rfl;have s3:=q3.cell (i:=3) rfl;have s4:=q3.cell (i:=4) rfl;have s5:=q3.cell (i:=5) rfl;have s6:=q3.cell (i:=6) rfl;have s7:=q3.cell (i:=7) rfl;have s8:=q3.cell (i:=8) rfl;have s9:=q3.cell (i:=9) rfl;have s10:=q3.cell (i:=10) rfl;have s11:=q3.cell (i:=11) rfl;clear q3;go_wp2_with fail
     refine(HLE.out _ ao ca bo cb ao' ca' bo' cb').mono ?_;rintro e we ⟨rfl,he⟩;have HE:Hid (Below wd.heap.size wd we):=he;clear he;go_wp2_with fail
     go_ret2;rw [HRES.out];exact⟨rfl,bth (bth (bth Bw.out HA.out) (bth HB.out HD.out)) HE.out⟩
   ·have HFI1:Hid (∀ u (ao:Option Addr) (ca:Nat) (bo:Option Addr) (cb:Nat) (ao':Option Addr) (ca':Nat) (bo':Option Addr) (cb':Nat),Calls Tryz.prog 209 #[bov (ofK kd s) ao ca bo cb (ofK kd t) ao' ca' bo' cb',.int .i64 v] u fun e w'=>e=.returned (.tuple #[.int .i64 (if hB s kd v=true then 0 else if hB t kd v=true then 1 else 0),.bool (hB s kd v || hB t kd v)])/\Below u.heap.size u w'):=fun u ao ca bo cb ao' ca' bo' cb'=>by
     have hf:=find_any u (ofK kd s) (ofK kd t) ao ca bo cb ao' ca' bo' cb' v;rw [ofK_ce v0,ofK_ce v0] at hf;refine hf.mono ?_;rintro e w' ⟨rfl,hb⟩;refine⟨?_,hb⟩;rw [<- ofK_ce (y:=s) v0,<- ofK_ce (y:=t) v0];simp only [decide_eq_true_eq]
    unfold bov at HFI1;have v5:(v != 0)=true:=by simpa using v0
    clear HFI0 v0 v1 v2;obtain⟨u,hu⟩:∃ u,u=ofK kd s:=⟨_,rfl⟩
    obtain⟨u2,hu2⟩:∃ u2,u2=ofK kd t:=⟨_,rfl⟩
    rw [<- hu,<- hu2] at HON HFI1;clear hu hu2;cases hs0:hB s kd v
    ·rw [hs0] at HFI1 hrs;cases ht0:hB t kd v
     ·rw [ht0] at HFI1 hrs;simp only [Bool.false_eq_true,if_false,Bool.or_self] at HFI1 hrs;have HFI:=HFI1;have HRES:Hid _:=hrs;clear HFI1 hrs hs0 ht0;go_enter Tryz.func150,Tryz.ntmps150
      go_wp2_with fail
      rw [<- hw0,<- hw1];clear hw0 bw0 zw0 hw1 bw1 zw1;refine(HR.out _ Bw.out).mono ?_;rintro e wa ⟨ao,ca,bo,cb,ao',ca',bo',cb',rfl,hga,hgb,ha⟩;have HGA:Hid (Got w1.heap.size wa s ao ca bo cb):=hga;have HGB:Hid (Got w1.heap.size wa t ao' ca' bo' cb'):=hgb;have HA:Hid (Below w1.heap.size w1 wa):=ha;clear hga hgb ha;obtain⟨wb,hwb⟩:∃ wb,wb=wa.alloc (.cells #[.int .u8 ((s.kd.toNat:Nat):Int),.int .i64 s.ix,.int .i64 s.ce,.int .i64 s.st,.slice ao s.vn ca,.slice bo s.dn cb,.int .u8 ((t.kd.toNat:Nat):Int),.int .i64 t.ix,.int .i64 t.ce,.int .i64 t.st,.slice ao' t.vn ca',.slice bo' t.dn cb'] 254):=⟨_,rfl⟩
      have HB:Hid (Below wa.heap.size wa wb):=by show Below _ _ _; rw [hwb]; exact bal _ _
      have HBK:Hid (At w wb wa.heap.size #[.int .u8 ((s.kd.toNat:Nat):Int),.int .i64 s.ix,.int .i64 s.ce,.int .i64 s.st,.slice ao s.vn ca,.slice bo s.dn cb,.int .u8 ((t.kd.toNat:Nat):Int),.int .i64 t.ix,.int .i64 t.ce,.int .i64 t.st,.slice ao' t.vn ca',.slice bo' t.dn cb'] 254):=at_made (bth Bw.out HA.out) hwb;go_wp2_with fail
      rw [<- hwb];clear hwb;refine(HON.out _ ao ca bo cb ao' ca' bo' cb').mono ?_;rintro e wc ⟨rfl,hc⟩;have HC:Hid (Below wb.heap.size wb wc):=hc;clear hc;obtain⟨fo,fa,go,gb,fo',fa',go',gb',hf⟩:∃ fo fa go gb fo' fa' go' gb',fo=keA (s.kd == kd) ao/\fa=keN (s.kd == kd) ca/\go=keA (s.kd == kd) bo/\gb=keN (s.kd == kd) cb/\fo'=keA (t.kd == kd) ao'/\fa'=keN (t.kd == kd) ca'/\go'=keA (t.kd == kd) bo'/\gb'=keN (t.kd == kd) cb':=⟨_,_,_,_,_,_,_,_,rfl,rfl,rfl,rfl,rfl,rfl,rfl,rfl⟩
      obtain⟨f1,f2,f3,f4,f5,f6,f7,f8⟩:=hf;rw [<- f1,<- f2,<- f3,<- f4,<- f5,<- f6,<- f7,<- f8];clear f1 f2 f3 f4 f5 f6 f7 f8;go_wp2_with fail
      refine(HFI.out _ fo fa go gb fo' fa' go' gb').mono ?_;rintro e wd ⟨rfl,hd⟩;have HD:Hid (Below wb.heap.size wb wd):=bth HC.out hd;clear hd HC;have q3:=HBK.out.below HD.out;have s0:=q3.cell (i:=0) rfl;have s1:=q3.cell (i:=1) rfl;have s2:=q3.cell (i:=2) rfl;have s3:=q3.cell (i:=3) rfl;have s4:=q3.cell (i:=4) rfl;have s5:=q3.cell (i:=5) rfl;have s6:=q3.cell (i:=6) rfl;have s7:=q3.cell (i:=7) rfl;have s8:=q3.cell (i:=8) rfl;have s9:=q3.cell (i:=9) rfl;have s10:=q3.cell (i:=10) rfl;have s11:=q3.cell (i:=11) rfl;clear q3;go_wp2_with fail
      refine(HLE.out _ ao ca bo cb ao' ca' bo' cb').mono ?_;rintro e we ⟨rfl,he⟩;have HE:Hid (Below wd.heap.size wd we):=he;clear he;go_wp2_with fail
      go_ret2;rw [HRES.out];exact⟨rfl,bth (bth (bth Bw.out HA.out) (bth HB.out HD.out)) HE.out⟩
     ·rw [ht0] at HFI1 hrs;simp only [Bool.false_eq_true,if_false,if_true,Bool.or_true] at HFI1 hrs;have HFI:=HFI1;have HRES:Hid _:=hrs;clear HFI1 hrs hs0 ht0;go_enter Tryz.func150,Tryz.ntmps150
      go_wp2_with fail
      rw [<- hw0,<- hw1];clear hw0 bw0 zw0 hw1 bw1 zw1;refine(HR.out _ Bw.out).mono ?_;rintro e wa ⟨ao,ca,bo,cb,ao',ca',bo',cb',rfl,hga,hgb,ha⟩;have HGA:Hid (Got w1.heap.size wa s ao ca bo cb):=hga;have HGB:Hid (Got w1.heap.size wa t ao' ca' bo' cb'):=hgb;have HA:Hid (Below w1.heap.size w1 wa):=ha;clear hga hgb ha;obtain⟨wb,hwb⟩:∃ wb,wb=wa.alloc (.cells #[.int .u8 ((s.kd.toNat:Nat):Int),.int .i64 s.ix,.int .i64 s.ce,.int .i64 s.st,.slice ao s.vn ca,.slice bo s.dn cb,.int .u8 ((t.kd.toNat:Nat):Int),.int .i64 t.ix,.int .i64 t.ce,.int .i64 t.st,.slice ao' t.vn ca',.slice bo' t.dn cb'] 254):=⟨_,rfl⟩
      have HB:Hid (Below wa.heap.size wa wb):=by show Below _ _ _; rw [hwb]; exact bal _ _
      have HBK:Hid (At w wb wa.heap.size #[.int .u8 ((s.kd.toNat:Nat):Int),.int .i64 s.ix,.int .i64 s.ce,.int .i64 s.st,.slice ao s.vn ca,.slice bo s.dn cb,.int .u8 ((t.kd.toNat:Nat):Int),.int .i64 t.ix,.int .i64 t.ce,.int .i64 t.st,.slice ao' t.vn ca',.slice bo' t.dn cb'] 254):=at_made (bth Bw.out HA.out) hwb;go_wp2_with fail
      rw [<- hwb];clear hwb;refine(HON.out _ ao ca bo cb ao' ca' bo' cb').mono ?_;rintro e wc ⟨rfl,hc⟩;have HC:Hid (Below wb.heap.size wb wc):=hc;clear hc;obtain⟨fo,fa,go,gb,fo',fa',go',gb',hf⟩:∃ fo fa go gb fo' fa' go' gb',fo=keA (s.kd == kd) ao/\fa=keN (s.kd == kd) ca/\go=keA (s.kd == kd) bo/\gb=keN (s.kd == kd) cb/\fo'=keA (t.kd == kd) ao'/\fa'=keN (t.kd == kd) ca'/\go'=keA (t.kd == kd) bo'/\gb'=keN (t.kd == kd) cb':=⟨_,_,_,_,_,_,_,_,rfl,rfl,rfl,rfl,rfl,rfl,rfl,rfl⟩
      obtain⟨f1,f2,f3,f4,f5,f6,f7,f8⟩:=hf;rw [<- f1,<- f2,<- f3,<- f4,<- f5,<- f6,<- f7,<- f8];clear f1 f2 f3 f4 f5 f6 f7 f8;go_wp2_with fail
      refine(HFI.out _ fo fa go gb fo' fa' go' gb').mono ?_;rintro e wd ⟨rfl,hd⟩;have HD:Hid (Below wb.heap.size wb wd):=bth HC.out hd;clear hd HC;go_wp2_with fail
      go_ret2;rw [HRES.out];exact⟨rfl,bth (bth Bw.out HA.out) (bth HB.out HD.out)⟩
    ·rw [hs0] at HFI1 hrs;simp only [if_true,Bool.true_or] at HFI1 hrs;have HFI:=HFI1;have HRES:Hid _:=hrs;clear HFI1 hrs hs0;go_enter Tryz.func150,Tryz.ntmps150
     go_wp2_with fail
     rw [<- hw0,<- hw1];clear hw0 bw0 zw0 hw1 bw1 zw1;refine(HR.out _ Bw.out).mono ?_;rintro e wa ⟨ao,ca,bo,cb,ao',ca',bo',cb',rfl,hga,hgb,ha⟩;have HGA:Hid (Got w1.heap.size wa s ao ca bo cb):=hga;have HGB:Hid (Got w1.heap.size wa t ao' ca' bo' cb'):=hgb;have HA:Hid (Below w1.heap.size w1 wa):=ha;clear hga hgb ha;obtain⟨wb,hwb⟩:∃ wb,wb=wa.alloc (.cells #[.int .u8 ((s.kd.toNat:Nat):Int),.int .i64 s.ix,.int .i64 s.ce,.int .i64 s.st,.slice ao s.vn ca,.slice bo s.dn cb,.int .u8 ((t.kd.toNat:Nat):Int),.int .i64 t.ix,.int .i64 t.ce,.int .i64 t.st,.slice ao' t.vn ca',.slice bo' t.dn cb'] 254):=⟨_,rfl⟩
     have HB:Hid (Below wa.heap.size wa wb):=by show Below _ _ _; rw [hwb]; exact bal _ _
     have HBK:Hid (At w wb wa.heap.size #[.int .u8 ((s.kd.toNat:Nat):Int),.int .i64 s.ix,.int .i64 s.ce,.int .i64 s.st,.slice ao s.vn ca,.slice bo s.dn cb,.int .u8 ((t.kd.toNat:Nat):Int),.int .i64 t.ix,.int .i64 t.ce,.int .i64 t.st,.slice ao' t.vn ca',.slice bo' t.dn cb'] 254):=at_made (bth Bw.out HA.out) hwb;go_wp2_with fail
     rw [<- hwb];clear hwb;refine(HON.out _ ao ca bo cb ao' ca' bo' cb').mono ?_;rintro e wc ⟨rfl,hc⟩;have HC:Hid (Below wb.heap.size wb wc):=hc;clear hc;obtain⟨fo,fa,go,gb,fo',fa',go',gb',hf⟩:∃ fo fa go gb fo' fa' go' gb',fo=keA (s.kd == kd) ao/\fa=keN (s.kd == kd) ca/\go=keA (s.kd == kd) bo/\gb=keN (s.kd == kd) cb/\fo'=keA (t.kd == kd) ao'/\fa'=keN (t.kd == kd) ca'/\go'=keA (t.kd == kd) bo'/\gb'=keN (t.kd == kd) cb':=⟨_,_,_,_,_,_,_,_,rfl,rfl,rfl,rfl,rfl,rfl,rfl,rfl⟩
     obtain⟨f1,f2,f3,f4,f5,f6,f7,f8⟩:=hf;rw [<- f1,<- f2,<- f3,<- f4,<- f5,<- f6,<- f7,<- f8];clear f1 f2 f3 f4 f5 f6 f7 f8;go_wp2_with fail
     refine(HFI.out _ fo fa go gb fo' fa' go' gb').mono ?_;rintro e wd ⟨rfl,hd⟩;have HD:Hid (Below wb.heap.size wb wd):=bth HC.out hd;clear hd HC;go_wp2_with fail
     go_ret2;rw [HRES.out];exact⟨rfl,bth (bth Bw.out HA.out) (bth HB.out HD.out)⟩
  ·rw [if_neg vv] at HEE;subst HEE;by_cases v1:v<0
   ·clear vv;go_enter Tryz.func150,Tryz.ntmps150
    go_wp2_with fail
    rw [<- hw0,<- hw1];clear hw0 bw0 zw0 hw1 bw1 zw1;refine(HR.out _ Bw.out).mono ?_;rintro e wa ⟨ao,ca,bo,cb,ao',ca',bo',cb',rfl,hga,hgb,ha⟩;have HGA:Hid (Got w1.heap.size wa s ao ca bo cb):=hga;have HGB:Hid (Got w1.heap.size wa t ao' ca' bo' cb'):=hgb;have HA:Hid (Below w1.heap.size w1 wa):=ha;clear hga hgb ha;go_wp2_with fail
    obtain⟨rfl,rfl⟩:=HZ2.out (by first | assumption | decide | trivial);go_ret2;rw [oin_z];exact⟨rfl,b_alloc (bth Bw.out HA.out) _⟩
   ·have v2:1073741824<v:=by omega
    clear vv;go_enter Tryz.func150,Tryz.ntmps150
    go_wp2_with fail
    rw [<- hw0,<- hw1];clear hw0 bw0 zw0 hw1 bw1 zw1;refine(HR.out _ Bw.out).mono ?_;rintro e wa ⟨ao,ca,bo,cb,ao',ca',bo',cb',rfl,hga,hgb,ha⟩;have HGA:Hid (Got w1.heap.size wa s ao ca bo cb):=hga;have HGB:Hid (Got w1.heap.size wa t ao' ca' bo' cb'):=hgb;have HA:Hid (Below w1.heap.size w1 wa):=ha;clear hga hgb ha;go_wp2_with fail
    obtain⟨rfl,rfl⟩:=HZ2.out (by first | assumption | decide | trivial);go_ret2;rw [oin_z];exact⟨rfl,b_alloc (bth Bw.out HA.out) _⟩
 ·rw [if_neg eC] at HEE;subst HEE;have hq:(E != 0)=true:=by simpa using eC
  go_enter Tryz.func150,Tryz.ntmps150
  go_wp2_with fail
  rw [<- hw0,<- hw1];clear hw0 bw0 zw0 hw1 bw1 zw1;refine(HR.out _ Bw.out).mono ?_;rintro e wa ⟨ao,ca,bo,cb,ao',ca',bo',cb',rfl,hga,hgb,ha⟩;have HGA:Hid (Got w1.heap.size wa s ao ca bo cb):=hga;have HGB:Hid (Got w1.heap.size wa t ao' ca' bo' cb'):=hgb;have HA:Hid (Below w1.heap.size w1 wa):=ha;clear hga hgb ha;go_wp2_with fail
  obtain⟨rfl,rfl⟩:=HZ2.out (by first | assumption | decide | trivial);go_ret2;rw [oin_z];exact⟨rfl,b_alloc (bth Bw.out HA.out) _⟩
end Go.Proofs.YtemlojjkokooeaaGreat
