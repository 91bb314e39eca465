import Derived.Test.YtemlojjkokooeaaGreatTj4
set_option maxHeartbeats 4000000
set_option maxRecDepth 100000
namespace Go.Proofs.YtemlojjkokooeaaGreat
open Go.RowKit
theorem Size_any{k r c q:Int}{N W:Nat}{x:Int}(h:Par k r c q N W x)(w:World):
  Calls Tryz.prog 199 #[.agg #[.int .i64 k,.int .i64 r,.int .i64 c,.int .i64 q]] w fun e w'=>e=.returned (.tuple #[.int .i64 ((szE x N c:Nat):Int),.int .i64 x])/\Below w.heap.size w w':=by
 have HD:=fun w=>Drives_any h w;have hN:=h.few;have hc:=fun e=>h.cell e;have hx:=h.err;clear h;obtain⟨w0,hw0⟩:∃ w0,w0=w.alloc (.cells #[.int .i64 k,.int .i64 r,.int .i64 c,.int .i64 q] 23):=⟨_,rfl⟩
 have b0:Below w.heap.size w w0:=by rw [hw0]; exact bal _ _
 rcases hx with rfl | rfl
 ·have hc':=hc rfl;clear hc;have HE:Hid (12+4*(N:Int)+c=((szE 0 N c:Nat):Int)):=by show _=_; unfold szE sz; rw [if_pos rfl]; omega
  go_enter Tryz.func199,Tryz.ntmps199
  go_wp2_with fail
  rw [<- hw0];refine(HD _).mono ?_;rintro e wa ⟨rfl,ha⟩;obtain⟨s0,s1,s2,s3⟩:=par_held hw0 ha;have hb:=bth b0 ha;clear hw0;go_wp2_with fail
  go_ret2;exact⟨by rw [<- HE.out]; rfl,hb⟩
 ·have HE:Hid (szE 2 N c=0):=by show _=_; unfold szE; rw [if_neg (by decide)]
  go_enter Tryz.func199,Tryz.ntmps199
  go_wp2_with fail
  rw [<- hw0];refine(HD _).mono ?_;rintro e wa ⟨rfl,ha⟩;have hb:=bth b0 ha;clear hw0;go_wp2_with fail
  go_ret2;exact⟨by rw [HE.out]; rfl,hb⟩
theorem kd_one(u:UInt8):((u.toNat:Nat):Int)=1 ↔ u=1:=by
 constructor
 ·intro h; exact UInt8.toNat_inj.1 (by have:(1:UInt8).toNat=1:=rfl; omega)
 ·rintro rfl; rfl
theorem kd_two(u:UInt8):((u.toNat:Nat):Int)=2 ↔ u=2:=by
 constructor
 ·intro h; exact UInt8.toNat_inj.1 (by have:(2:UInt8).toNat=2:=rfl; omega)
 ·rintro rfl; rfl
theorem mayBe_any{k r c q:Int}{N W:Nat}(h:Par k r c q N W 0)(w:World)(s:Sl)(ao:Option Addr)(ca:Nat)(bo:Option Addr)(cb:Nat)(hs:Has w s ao ca bo cb)(y:Bool)(hy:okS N c s=y):
  Calls Tryz.prog 204 #[.agg #[.int .i64 k,.int .i64 r,.int .i64 c,.int .i64 q],slv s ao ca bo cb] w fun e w'=>e=.returned (.bool y)/\Below w.heap.size w w':=by
 obtain⟨E,hE⟩:∃ E,erV 0 N s.vn s.V=E:=⟨_,rfl⟩
 have HL:=fun w (hv:Vec w ao s.vn ca s.V)=>Last_any h w ao s.vn ca s.V hv E hE;have hN:=h.few;obtain⟨kd,ix,ce,st,vn,V,dn,D⟩:=s;simp only [slv] at *;have HV:Hid (Vec w ao vn ca V):=hs.vec;obtain⟨kn,hkn⟩:∃ kn:Int,kn=((kd.toNat:Nat):Int):=⟨_,rfl⟩
 have HK:Hid (decide (kd=1\/kd=2)=decide (kn=1\/kn=2)):=by
  show _=_;apply decide_eq_decide.2
  rw [hkn,kd_one,kd_two]
 have HO:Hid (okS N c ⟨kd,ix,ce,st,vn,V,dn,D⟩=y):=hy;rw [<- hkn];clear hkn hs h hy;obtain⟨w0,hw0⟩:∃ w0,w0=w.alloc (.cells #[.int .i64 k,.int .i64 r,.int .i64 c,.int .i64 q] 23):=⟨_,rfl⟩
 obtain⟨w1,hw1⟩:∃ w1,w1=w0.alloc (.cells #[.int .u8 kn,.int .i64 ix,.int .i64 ce,.int .i64 st,.slice ao vn ca,.slice bo dn cb] 107):=⟨_,rfl⟩
 have b0:Below w.heap.size w w0:=by rw [hw0]; exact bal _ _
 have b1:Below w0.heap.size w0 w1:=by rw [hw1]; exact bal _ _
 have z0:w0.heap.size=w.heap.size+1:=by rw [hw0]; simp
 unfold TellI at HL;by_cases h1:E=0
 ·subst h1;obtain⟨_,h3,h4⟩:=erV_of hE;rw [if_pos rfl] at HL;have HVV:Hid (∀ i,i<vn->1<=V i/\V i<=1073741824):=h4;obtain⟨m,hm⟩:∃ m,mx V vn=m:=⟨_,rfl⟩
  rw [hm] at HL;have HM:Hid (mx V vn=m):=hm;have HN:Hid (vn=N):=h3;clear hm h4 hE h3;by_cases hk:kn=1\/kn=2
  ·by_cases hi:0<=ix/\ix<(vn:Int)
   ·by_cases hd:(dn:Int)=c
    ·have HY:Hid (y=decide (st=m/\ce=V ix.toNat)):=by
      show _=_;rw [<- HO.out];unfold okS;apply decide_eq_decide.2
      simp only;rw [HM.out];constructor
      ·rintro⟨_,_,_,_,_,p,q⟩; exact⟨p,q⟩
      ·rintro⟨p,q⟩; exact⟨⟨HN.out,HVV.out⟩,of_decide_eq_true (by rw [HK.out]; exact decide_eq_true hk),hi.1,hi.2,hd,p,q⟩
     go_enter Tryz.func204,Tryz.ntmps204
     go_wp2_with fail
     rw [<- hw0,<- hw1];refine(HL _ (HV.out.below (bth b0 b1))).mono ?_;rintro e wa ⟨rfl,ha⟩;obtain⟨s0,s1,s2,s3⟩:=par_held hw0 (bth b1 ha);obtain⟨m0,m1,m2,m3,m4,m5⟩:=slo_held hw1 ha;rw [z0] at m0 m1 m2 m3 m4 m5;have hb:=bth (bth b0 b1) ha;obtain⟨b,off,rfl,hcc⟩:=(HV.out.below hb).rd (by omega);have ck:=hcc ix.toNat (by omega)
     obtain⟨t,ht⟩:∃ t:Nat,ix=(t:Int):=⟨ix.toNat,by omega⟩
     subst ht;rw [Int.toNat_natCast] at ck;obtain⟨vt,hvt⟩:∃ vt,V t=vt:=⟨_,rfl⟩
     rw [hvt] at ck;have HT:Hid (V t=vt):=hvt;have HBB:Hid (Below w.heap.size w wa):=hb;clear hw0 hw1 hb ha b0 b1 z0 hcc hvt HL;rcases hk with rfl | rfl
     all_goals (
      go_wp2_with fail
      by_cases hst:st=m
      ·go_quiet (fail)
       go_wp2;go_ret;refine⟨ret_bool ?_,HBB.out.trans (below_drewN _ _ _)⟩;rw [HY.out,Int.toNat_natCast,HT.out];by_cases hce:ce=vt
       ·rw [decide_eq_true (show st=m/\ce=vt from⟨hst,hce⟩)]; simp [hce]
       ·rw [decide_eq_false (show ¬ (st=m/\ce=vt) from fun h=>hce h.2)]; simp [hce]
      ·go_quiet (fail)
       go_wp2;go_ret;refine⟨ret_bool ?_,HBB.out.trans (below_drewN _ _ _)⟩;rw [HY.out,decide_eq_false (show ¬ (st=m/\ce=V (t:Int).toNat) from fun h=>hst h.1)])
    ·have HY:Hid (y=false):=by
      show _=_;rw [<- HO.out];exact decide_eq_false fun⟨p1,p2,p3,p4,p5,p6,p7⟩=>hd p5
     have hd2:((dn:Int) != c)=true:=by simpa using hd
     go_enter Tryz.func204,Tryz.ntmps204
     go_wp2_with fail
     rw [<- hw0,<- hw1];refine(HL _ (HV.out.below (bth b0 b1))).mono ?_;rintro e wa ⟨rfl,ha⟩;obtain⟨s0,s1,s2,s3⟩:=par_held hw0 (bth b1 ha);obtain⟨m0,m1,m2,m3,m4,m5⟩:=slo_held hw1 ha;rw [z0] at m0 m1 m2 m3 m4 m5;have HBB:Hid (Below w.heap.size w wa):=bth (bth b0 b1) ha;clear hw0 hw1 ha b0 b1 z0 HL;rcases hk with rfl | rfl
     all_goals (
      go_wp2_with fail
      go_ret;exact⟨ret_bool HY.out.symm,HBB.out⟩)
   ·have HY:Hid (y=false):=by
     show _=_;rw [<- HO.out];exact decide_eq_false fun⟨p1,p2,p3,p4,p5,p6,p7⟩=>hi ⟨p3,p4⟩
    go_enter Tryz.func204,Tryz.ntmps204
    go_wp2_with fail
    rw [<- hw0,<- hw1];refine(HL _ (HV.out.below (bth b0 b1))).mono ?_;rintro e wa ⟨rfl,ha⟩;obtain⟨s0,s1,s2,s3⟩:=par_held hw0 (bth b1 ha);obtain⟨m0,m1,m2,m3,m4,m5⟩:=slo_held hw1 ha;rw [z0] at m0 m1 m2 m3 m4 m5;have HBB:Hid (Below w.heap.size w wa):=bth (bth b0 b1) ha;clear hw0 hw1 ha b0 b1 z0 HL;have hi2:ix<0\/(0<=ix/\(vn:Int)<=ix):=by omega
    clear hi;rcases hk with rfl | rfl <;> rcases hi2 with hi2 | ⟨hi2,hi3⟩
    all_goals (
     go_wp2_with fail
     go_ret;exact⟨ret_bool HY.out.symm,HBB.out⟩)
  ·have HY:Hid (y=false):=by
    show _=_;rw [<- HO.out];exact decide_eq_false fun⟨p1,p2,p3,p4,p5,p6,p7⟩=>hk (of_decide_eq_true (by rw [<- HK.out]; exact decide_eq_true p2))
   have hk1:¬ kn=1:=fun h=>hk (.inl h);have hk2:¬ kn=2:=fun h=>hk (.inr h);have hk3:(kn != 1)=true:=by simpa using hk1
   have hk4:(kn != 2)=true:=by simpa using hk2
   clear hk;go_enter Tryz.func204,Tryz.ntmps204
   go_wp2_with fail
   rw [<- hw0,<- hw1];refine(HL _ (HV.out.below (bth b0 b1))).mono ?_;rintro e wa ⟨rfl,ha⟩;obtain⟨s0,s1,s2,s3⟩:=par_held hw0 (bth b1 ha);obtain⟨m0,m1,m2,m3,m4,m5⟩:=slo_held hw1 ha;rw [z0] at m0 m1 m2 m3 m4 m5;have HBB:Hid (Below w.heap.size w wa):=bth (bth b0 b1) ha;clear hw0 hw1 ha b0 b1 z0 HL;go_wp2_with fail
   go_ret;exact⟨ret_bool HY.out.symm,HBB.out⟩
 ·have hne:(E != 0)=true:=by simpa using h1
  rw [if_neg h1] at HL;have HY:Hid (y=false):=by
   show _=_;rw [<- HO.out];exact decide_eq_false fun⟨p1,p2,p3,p4,p5,p6,p7⟩=>h1 (by rw [<- hE]; exact erV_ok p1.1 p1.2)
  clear hE;go_enter Tryz.func204,Tryz.ntmps204
  go_wp2_with fail
  rw [<- hw0,<- hw1];refine(HL _ (HV.out.below (bth b0 b1))).mono ?_;rintro e wa ⟨rfl,ha⟩;obtain⟨s0,s1,s2,s3⟩:=par_held hw0 (bth b1 ha);obtain⟨m0,m1,m2,m3,m4,m5⟩:=slo_held hw1 ha;rw [z0] at m0 m1 m2 m3 m4 m5;have HBB:Hid (Below w.heap.size w wa):=bth (bth b0 b1) ha;clear hw0 hw1 ha b0 b1 z0 HL;go_wp2_with fail
  go_ret;exact⟨ret_bool HY.out.symm,HBB.out⟩
theorem of_drew'{w v:World}(h:Below w.drew.heap.size w.drew v):Below w.heap.size w v:=bth (bdw _ _) h
def erS (x:Int) (N:Nat) (c:Int) (s:Sl):Int:=if x=0 then (if okS N c s=true then 0 else 100) else x
def AnsB (w:World) (E:Int) (n:Nat) (F:Nat->UInt8) (e:Ending) (w':World):Prop :=
  ∃ ao cap,e=.returned (.tuple #[.slice ao (lenE E n) cap,.int .i64 E])/\OwU w.heap.size w' ao (lenE E n) cap F/\Below w.heap.size w w'
theorem made_byF(n:Nat):madeCells #[.int .u8 0] n=(byF n (fun _=>0)).toArray:=by
 apply Array.ext'
 unfold byF madeCells;apply List.ext_getElem?
 intro i;by_cases h:i<n
 ·simp [h,Nat.mod_one]
 ·simp [h]
theorem Vec.blk{w:World}{ao:Option Addr}{n cap:Nat}{R:Nat->Int}(h:Vec w ao n cap R)(hn:0<n){a:Addr}(ha:ao=some a):a.block<w.heap.size:=by
 obtain⟨b,off,e,hc⟩:=h.rd hn;subst ha; cases e;exact World.block_lt_of_cell? w _ (hc 0 hn)
theorem Bec.blk{w:World}{ao:Option Addr}{n cap:Nat}{F:Nat->UInt8}(h:Bec w ao n cap F)(hn:0<n){a:Addr}(ha:ao=some a):a.block<w.heap.size:=by
 obtain⟨b,off,e,hc⟩:=h.rd hn;subst ha; cases e;exact World.block_lt_of_cell? w _ (hc 0 hn)
theorem Bytes_any{k r c q:Int}{N W:Nat}{x:Int}(h:Par k r c q N W x)(w:World)(s:Sl)(ao:Option Addr)(ca:Nat)(bo:Option Addr)(cb:Nat)(hs:Has w s ao ca bo cb)(E:Int)(hE:erS x N c s=E):
  Calls Tryz.prog 159 #[.agg #[.int .i64 k,.int .i64 r,.int .i64 c,.int .i64 q],slv s ao ca bo cb] w (AnsB w E (sz N c) (enc s)):=by
 have HZ:=fun w=>Size_any h w;have hx:=h.err;have hN:=h.few;obtain⟨w0,hw0⟩:∃ w0,w0=w.alloc (.cells #[.int .i64 k,.int .i64 r,.int .i64 c,.int .i64 q] 23):=⟨_,rfl⟩
 obtain⟨w1,hw1⟩:∃ w1,w1=w0.alloc (.cells #[.int .u8 ((s.kd.toNat:Nat):Int),.int .i64 s.ix,.int .i64 s.ce,.int .i64 s.st,.slice ao s.vn ca,.slice bo s.dn cb] 107):=⟨_,rfl⟩
 have b0:Below w.heap.size w w0:=by rw [hw0]; exact bal _ _
 have b1:Below w0.heap.size w0 w1:=by rw [hw1]; exact bal _ _
 have z0:w0.heap.size=w.heap.size+1:=by rw [hw0]; simp
 have C0:Hid (Cel w1 w.heap.size [.int .i64 k,.int .i64 r,.int .i64 c,.int .i64 q]):=(cel_new hw0).below b1;have C1:Hid (Cel w1 (w.heap.size+1) [.int .u8 ((s.kd.toNat:Nat):Int),.int .i64 s.ix,.int .i64 s.ce,.int .i64 s.st,.slice ao s.vn ca,.slice bo s.dn cb]):=by show Cel _ _ _; rw [<- z0]; exact cel_new hw1
 have HB1:Hid (Below w.heap.size w w1):=bth b0 b1;have HH:Hid (Has w s ao ca bo cb):=hs;unfold AnsB;rcases hx with rfl | rfl
 ·have HM:=fun w hs y hy=>mayBe_any h w s ao ca bo cb hs y hy;have hN1:=h.some rfl;have hc:=h.cell rfl;have hzE:szE 0 N c=sz N c:=by unfold szE; rw [if_pos rfl]
  rw [hzE] at HZ;obtain⟨n,hn⟩:∃ n,n=sz N c:=⟨_,rfl⟩
  have hn2:n=12+4*N+c.toNat:=hn;have hnb:n<=1000:=by omega
  by_cases hok:okS N c s=true
  ·obtain rfl:E=0:=by rw [<- hE]; unfold erS; rw [if_pos rfl,if_pos hok]
   have HM':=fun w hs=>HM w hs true hok;have HW:Hid (∀ v g G,Bk v g n G->Has v s ao ca bo cb->(∀ a,ao=some a->¬ a.block=g)->(∀ a,bo=some a->¬ a.block=g)->Calls Tryz.prog 231 #[.agg (prt g 0 (4*N) c.toNat),slv s ao ca bo cb] v fun e w'=>e=.returned (.tuple #[])/\Bk w' g n (enc s)/\Only (fun b=>b=g) v w'):=fun v g G hg hv ha hb=>by
    have:=write_any v g s ao ca bo cb G hN1 hN hc.1 hc.2 (by rw [<- hn]; exact hg) hv hok ha hb
    rwa [<- hn] at this
   have HCU:=fun v g=>cut_any v k r c q g 0 n n N hn2 (Nat.le_refl _) hN1 hN hc.1 hc.2;obtain⟨⟨k1,k2⟩,k3,k4,k5,k6,k7,k8⟩:=okS_true hok;have HVB:Hid (∀ a,ao=some a->a.block<w.heap.size):=fun a ha=>hs.vec.blk (by omega) ha;have HBB:Hid (∀ a,bo=some a->a.block<w.heap.size):=fun a ha=>hs.bec.blk (by omega) ha;have hq2:=run_make_row' (P:=Tryz.prog) 36 5 (.int .u8 0) 1 Tryz.underlying36 info5 rfl .i64 .i64 n (by omega) (by omega);rw [made_byF] at hq2;obtain⟨Z,hZ⟩:∃ Z,Z=(byF n (fun _=>0)).toArray:=⟨_,rfl⟩
   have hmk:∀ w,(Instr.makeSlice 36 (.int .i64 (n:Int)) (.int .i64 (n:Int))).run Tryz.prog w=.ok (.slice (some ⟨w.heap.size,0,none⟩) n n) (w.alloc (.cells Z 5)):=fun w=>by rw [hZ]; exact hq2 w
   have HZZ:Hid (∀ v:World,Bk (v.alloc (.cells Z 5)) v.heap.size n (fun _=>0)):=fun v=>by unfold Bk; rw [hZ]; exact heap_alloc_new v _
   rw [show lenE 0 (sz N c)=n from hn.symm];rw [<- hn] at HZ;unfold slv at HM' HW ⊢;have HWW:=HW;clear HM hE hn hn2 hok k1 k2 k3 k4 k5 k6 k7 k8 hs hzE hZ hq2 hc HW h;go_enter Tryz.func159,Tryz.ntmps159
   go_wp2_with fail
   rw [<- hw0,<- hw1];refine(HZ _).mono ?_;rintro e wa ⟨rfl,ha⟩;have ba:=bth HB1.out ha;have pa:=C0.out.below ha;have sa:=C1.out.below ha;have p0:=pa 0 _ rfl;have p1:=pa 1 _ rfl;have p2:=pa 2 _ rfl;have p3:=pa 3 _ rfl;have s0:=sa 0 _ rfl;have s1:=sa 1 _ rfl;have s2:=sa 2 _ rfl;have s3:=sa 3 _ rfl;have s4:=sa 4 _ rfl;have s5:=sa 5 _ rfl;clear hw0 hw1 b0 b1 z0 HZ;go_wp2_with fail
   refine(HM' _ (HH.out.below ba)).mono ?_;rintro e wb ⟨rfl,hb⟩;have bb:=bth ba hb;have HPB:Hid (Cel wb w.heap.size [.int .i64 k,.int .i64 r,.int .i64 c,.int .i64 q]):=pa.below hb;have HSB:Hid (Cel wb (w.heap.size+1) [.int .u8 ((s.kd.toNat:Nat):Int),.int .i64 s.ix,.int .i64 s.ce,.int .i64 s.st,.slice ao s.vn ca,.slice bo s.dn cb]):=sa.below hb;have HBBW:Hid (Below w.heap.size w wb):=bb;have HB1b:Hid (Below w1.heap.size w1 wb):=bth ha hb;obtain⟨wz,hwz⟩:∃ wz,wz=wb.alloc (.cells Z 5):=⟨_,rfl⟩
   have hmk2:(Instr.makeSlice 36 (.int .i64 (n:Int)) (.int .i64 (n:Int))).run Tryz.prog wb=.ok (.slice (some ⟨wb.heap.size,0,none⟩) n n) wz:=by rw [hwz]; exact hmk wb
   have HBKZ:Hid (Bk wz wb.heap.size n (fun _=>0)):=by show Bk _ _ _ _; rw [hwz]; exact HZZ.out wb
   have HBZ:Hid (Below wb.heap.size wb wz):=by show Below _ _ _; rw [hwz]; exact bal _ _
   have gw1:w.heap.size+2<=wb.heap.size:=by
    have h1:=HB1b.out.size;have h2:=World.block_lt_of_cell? wb _ (HSB.out 0 _ rfl);simp only at h2;omega
   clear p0 p1 p2 p3 s0 s1 s2 s3 s4 s5 pa sa hb ba bb ha hmk HZZ HM' hwz;go_wp2_with fail
   have pz:=HPB.out.below HBZ.out;have sz':=HSB.out.below HBZ.out;have p0:=pz 0 _ rfl;have p1:=pz 1 _ rfl;have p2:=pz 2 _ rfl;have p3:=pz 3 _ rfl;have s0:=sz' 0 _ rfl;have s1:=sz' 1 _ rfl;have s2:=sz' 2 _ rfl;have s3:=sz' 3 _ rfl;have s4:=sz' 4 _ rfl;have s5:=sz' 5 _ rfl;have HPZ:Hid (Cel wz w.heap.size [.int .i64 k,.int .i64 r,.int .i64 c,.int .i64 q]):=pz;have HSZ:Hid (Cel wz (w.heap.size+1) [.int .u8 ((s.kd.toNat:Nat):Int),.int .i64 s.ix,.int .i64 s.ce,.int .i64 s.st,.slice ao s.vn ca,.slice bo s.dn cb]):=sz';have KS:Hid (∀ v,Only (fun b=>b=wb.heap.size) wz v->(v.cell? ⟨w.heap.size,0,none⟩=some (.int .i64 k)/\v.cell? ⟨w.heap.size,1,none⟩=some (.int .i64 r)/\v.cell? ⟨w.heap.size,2,none⟩=some (.int .i64 c)/\v.cell? ⟨w.heap.size,3,none⟩=some (.int .i64 q)/\v.cell? ⟨w.heap.size+1,0,none⟩=some (.int .u8 ((s.kd.toNat:Nat):Int))/\v.cell? ⟨w.heap.size+1,1,none⟩=some (.int .i64 s.ix)/\v.cell? ⟨w.heap.size+1,2,none⟩=some (.int .i64 s.ce)/\v.cell? ⟨w.heap.size+1,3,none⟩=some (.int .i64 s.st)/\v.cell? ⟨w.heap.size+1,4,none⟩=some (.slice ao s.vn ca)/\v.cell? ⟨w.heap.size+1,5,none⟩=some (.slice bo s.dn cb))):=fun v hv=>by
    have cp:=HPZ.out.only hv (by omega);have cs:=HSZ.out.only hv (by omega);exact⟨cp 0 _ rfl,cp 1 _ rfl,cp 2 _ rfl,cp 3 _ rfl,cs 0 _ rfl,cs 1 _ rfl,cs 2 _ rfl,cs 3 _ rfl,cs 4 _ rfl,cs 5 _ rfl⟩
   clear pz sz' hmk2;have HHz:Hid (Has wz s ao ca bo cb):=HH.out.below (bth HBBW.out HBZ.out);have HVN:Hid (∀ a,ao=some a->¬ a.block=wb.heap.size):=fun a ha=>by have:=HVB.out a ha; omega
   have HBN:Hid (∀ a,bo=some a->¬ a.block=wb.heap.size):=fun a ha=>by have:=HBB.out a ha; omega
   go_region_held3 (fun v=>v.cell? ⟨w.heap.size,0,none⟩=some (.int .i64 k)/\v.cell? ⟨w.heap.size,1,none⟩=some (.int .i64 r)/\v.cell? ⟨w.heap.size,2,none⟩=some (.int .i64 c)/\v.cell? ⟨w.heap.size,3,none⟩=some (.int .i64 q)/\v.cell? ⟨w.heap.size+1,0,none⟩=some (.int .u8 ((s.kd.toNat:Nat):Int))/\v.cell? ⟨w.heap.size+1,1,none⟩=some (.int .i64 s.ix)/\v.cell? ⟨w.heap.size+1,2,none⟩=some (.int .i64 s.ce)/\v.cell? ⟨w.heap.size+1,3,none⟩=some (.int .i64 s.st)/\v.cell? ⟨w.heap.size+1,4,none⟩=some (.slice ao s.vn ca)/\v.cell? ⟨w.heap.size+1,5,none⟩=some (.slice bo s.dn cb)) (go_keep)
    ((first | (go_at_call 202; refine(HCU _ _).mono ?_; rintro e wc ⟨rfl,hc⟩; have HC:Hid (Below wz.heap.size wz wc):=of_drew' hc; clear hc; obtain⟨q0,q1,q2,q3,q4,q5,q6,q7,q8,q9⟩:=KS.out _ (.of_below HC.out)) | (go_at_call 231; refine(HWW.out _ _ _ (HBKZ.out.below HC.out) (HHz.out.below HC.out) HVN.out HBN.out).mono ?_; rintro e wd ⟨rfl,gd,od⟩; have HD:Hid (Only (fun b=>b=wb.heap.size) wz wd):=(Only.of_below HC.out).trans od; have GD:Hid (Bk wd wb.heap.size n (enc s)):=gd; clear gd od; obtain⟨t0,t1,t2,t3,t4,t5,t6,t7,t8,t9⟩:=KS.out _ HD.out)))
   all_goals (
    go_wp2_with fail
    go_ret2;refine⟨_,_,rfl,GD.out.own (by omega) hnb,?_⟩;have o1:=HD.out.below (B:=w.heap.size) (fun i hi=>by omega) (Nat.le_trans HBBW.out.size HBZ.out.size);exact(bth HBBW.out HBZ.out).trans o1)
  ·obtain rfl:E=100:=by rw [<- hE]; unfold erS; rw [if_pos rfl,if_neg hok]
   have hok2:okS N c s=false:=by cases h:okS N c s; rfl; exact absurd h hok
   have HM':=fun w hs=>HM w hs false hok2;rw [show lenE 100 (sz N c)=0 from rfl];rw [<- hn] at HZ;unfold slv at HM' ⊢;clear HM hE hn hn2 hok hok2 hs hzE h;go_enter Tryz.func159,Tryz.ntmps159
   go_wp2_with fail
   rw [<- hw0,<- hw1];refine(HZ _).mono ?_;rintro e wa ⟨rfl,ha⟩;have ba:=bth HB1.out ha;have pa:=C0.out.below ha;have sa:=C1.out.below ha;have p0:=pa 0 _ rfl;have p1:=pa 1 _ rfl;have p2:=pa 2 _ rfl;have p3:=pa 3 _ rfl;have s0:=sa 0 _ rfl;have s1:=sa 1 _ rfl;have s2:=sa 2 _ rfl;have s3:=sa 3 _ rfl;have s4:=sa 4 _ rfl;have s5:=sa 5 _ rfl;clear hw0 hw1 b0 b1 z0 HZ pa sa;go_wp2_with fail
   refine(HM' _ (HH.out.below ba)).mono ?_;rintro e wb ⟨rfl,hb⟩;go_wp2_with fail
   go_ret2;exact⟨_,_,rfl,owu_nil _ _ _,bth ba hb⟩
 ·obtain rfl:E=2:=by rw [<- hE]; unfold erS; rw [if_neg (by decide)]
  rw [show lenE 2 (sz N c)=0 from rfl];unfold slv;clear hE hs h;go_enter Tryz.func159,Tryz.ntmps159
  go_wp2_with fail
  rw [<- hw0,<- hw1];refine(HZ _).mono ?_;rintro e wa ⟨rfl,ha⟩;have ba:=bth HB1.out ha;clear hw0 hw1 b0 b1 z0 HZ;go_wp2_with fail
  go_ret2;exact⟨_,_,rfl,owu_nil _ _ _,ba⟩
end Go.Proofs.YtemlojjkokooeaaGreat
