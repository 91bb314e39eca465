import Derived.Test.YtemlojjkokooeaaGreatTj18
import Derived.Test.YtemlojjkokooeaaGreatTj27
set_option maxHeartbeats 8000000
set_option maxRecDepth 100000
namespace Go.Proofs.YtemlojjkokooeaaGreat
open Go.RowKit
def hN (y0 y1:Sl) (kd:UInt8) (v:Int):Int:=if hB y0 kd v=true then 0 else if hB y1 kd v=true then 1 else -1
theorem hB_tests(y:Sl)(kd:UInt8)(v:Int):(hB y kd v=false/\decide (¬ y.ce=0)=false)\/(hB y kd v=false/\decide (¬ y.ce=0)=true/\(((y.kd.toNat:Nat):Int) == ((kd.toNat:Nat):Int))=false)\/(hB y kd v=false/\decide (¬ y.ce=0)=true/\(((y.kd.toNat:Nat):Int) == ((kd.toNat:Nat):Int))=true/\(y.ce == v)=false)\/(hB y kd v=true/\decide (¬ y.ce=0)=true/\(((y.kd.toNat:Nat):Int) == ((kd.toNat:Nat):Int))=true/\(y.ce == v)=true):=by
 unfold hB;by_cases h1:y.ce=0
 ·exact .inl ⟨decide_eq_false fun h=>h.1 (by rw [<- h.2.2]; exact h1),decide_eq_false fun h=>h h1⟩
 ·by_cases h2:y.kd=kd
  ·have e2:(((y.kd.toNat:Nat):Int) == ((kd.toNat:Nat):Int))=true:=by rw [h2]; simp
   by_cases h3:y.ce=v
   ·exact .inr (.inr (.inr ⟨decide_eq_true ⟨by rw [<- h3]; exact h1,h2,h3⟩,decide_eq_true h1,e2,by simpa using h3⟩))
   ·exact .inr (.inr (.inl ⟨decide_eq_false fun h=>h3 h.2.2,decide_eq_true h1,e2,by simpa using h3⟩))
  ·refine .inr (.inl ⟨decide_eq_false fun h=>h2 h.2.1,decide_eq_true h1,?_⟩);simp only [beq_eq_false_iff_ne,ne_eq,Int.natCast_inj];exact fun e=>h2 (UInt8.toNat_inj.1 e)
theorem hreg(w1:World)(k r c q ix:Int)(g0 g1 i:Nat)(hi:(0:Int)<=(i:Int))(hi2:(i:Int)<2)(a0:Option Addr)(n0 c0:Nat)(y:Sl)(b:Bool)(x0 x1 x2 x4 x7 x8 x9 x10 x12 x13 x14 x15 x16 x17 x18 x19 x20 x21 x22 x23 x24 x25 x26 x27 x28 x29 x30 x31 x32 x33 x34 x35 x36 x37 x38 x39 x40:Value)
  (HS:Hid (∀ v,Below w1.heap.size w1 v->(v.cell? ⟨g0,0,none⟩=some (.int .i64 k)/\v.cell? ⟨g0,1,none⟩=some (.int .i64 r)/\v.cell? ⟨g0,2,none⟩=some (.int .i64 c)/\v.cell? ⟨g0,3,none⟩=some (.int .i64 q)/\v.cell? ⟨g1,i,none⟩=some (.slice a0 n0 c0))))
  (HP1:Hid (∀ v,Below w1.heap.size w1 v->Calls Tryz.prog 135 #[.agg #[.int .i64 k,.int .i64 r,.int .i64 c,.int .i64 q],.slice a0 n0 c0,.int .i64 ix] v fun e w'=>∃ ao ca bo cb,e=.returned (.tuple #[.agg #[.int .u8 ((y.kd.toNat:Nat):Int),.int .i64 y.ix,.int .i64 y.ce,.int .i64 y.st,.slice ao y.vn ca,.slice bo y.dn cb],.bool b])/\Got v.heap.size w' y ao ca bo cb/\Below v.heap.size v w'))
  (Q:Exit->Act->World->Prop) (HQ:Hid (∀ v g ao ca bo cb,Below w1.heap.size w1 v->At w1 v g #[.int .u8 ((y.kd.toNat:Nat):Int),.int .i64 y.ix,.int .i64 y.ce,.int .i64 y.st,.slice ao y.vn ca,.slice bo y.dn cb] 107->Q .normal { tmps:=#[x0,x1,x2,.int .i64 ix,x4,.pointer (some ⟨g0,0,none⟩),.pointer (some ⟨g1,0,none⟩),x7,x8,x9,x10,.int .i64 (i:Int),.pointer (some ⟨g,0,none⟩),.bool b,x14,x15,x16,x17,.tuple #[.agg #[.int .u8 ((y.kd.toNat:Nat):Int),.int .i64 y.ix,.int .i64 y.ce,.int .i64 y.st,.slice ao y.vn ca,.slice bo y.dn cb],.bool b],.agg #[.int .i64 k,.int .i64 r,.int .i64 c,.int .i64 q],.int .i64 (i:Int),.pointer (some ⟨g1,i,none⟩),.slice a0 n0 c0,.int .i64 ix,.tuple #[.agg #[.int .u8 ((y.kd.toNat:Nat):Int),.int .i64 y.ix,.int .i64 y.ce,.int .i64 y.st,.slice ao y.vn ca,.slice bo y.dn cb],.bool b],.agg #[.int .u8 ((y.kd.toNat:Nat):Int),.int .i64 y.ix,.int .i64 y.ce,.int .i64 y.st,.slice ao y.vn ca,.slice bo y.dn cb],.bool b,x27,x28,x29,x30,x31,x32,x33,x34,x35,x36,x37,x38,x39,x40],defers:=[]} v)) :
  Code.wp Tryz.prog (Code.region 4 #[{dst:=some 19,op:=.load 23 (.tmp 5),type:=23,pos := "ref.go:51", after:=#[],guard:=none},{dst:=some 20,op:=.move (.tmp 11),type:=3,pos := "ref.go:51", after:=#[],guard:=none},{dst:=some 21,op:=.indexAddr 97 (.tmp 6) (.tmp 20),type:=0,pos := "ref.go:51", after:=#[{on:=1,ground:=.data}],guard:=none},{dst:=some 22,op:=.load 36 (.tmp 21),type:=36,pos := "ref.go:51", after:=#[{on:=2,ground:=.data}],guard:=none},{dst:=some 23,op:=.move (.tmp 3),type:=3,pos := "ref.go:51", after:=#[],guard:=none},{dst:=some 24,op:=.call { callee:=.value (.func 135),args:=#[.tmp 19,.tmp 22,.tmp 23],argTypes:=#[23,36,3]},type:=170,pos := "ref.go:51", after:=#[{on:=0,ground:=.data},{on:=3,ground:=.data},{on:=4,ground:=.data}],guard:=none},{dst:=some 18,op:=.move (.tmp 24),type:=170,pos := "ref.go:51", after:=#[{on:=5,ground:=.data}],guard:=none},{dst:=some 25,op:=.extract (.tmp 18) 0,type:=107,pos := "ref.go:51", after:=#[{on:=6,ground:=.data}],guard:=none},{dst:=some 26,op:=.extract (.tmp 18) 1,type:=4,pos := "ref.go:51", after:=#[{on:=6,ground:=.data},{on:=10,ground:=Ground.gcOnly Departure.lateStores}],guard:=none},{dst:=some 12,op:=.alloc 107,type:=0,pos := "ref.go:51", after:=#[],guard:=none},{dst:=none,op:=.store 107 (.tmp 12) (.tmp 25),type:=0,pos := "ref.go:51", after:=#[{on:=9,ground:=.data},{on:=7,ground:=.data},{on:=5,ground:=.chain},{on:=0,ground:=.phase},{on:=1,ground:=.phase},{on:=2,ground:=.phase},{on:=3,ground:=.phase},{on:=4,ground:=.phase},{on:=5,ground:=.phase},{on:=6,ground:=.phase},{on:=7,ground:=.phase},{on:=8,ground:=Ground.textOnly Departure.lateStores},{on:=9,ground:=.phase}],guard:=none},{dst:=some 13,op:=.assign (.tmp 26),type:=4,pos := "ref.go:51", after:=#[{on:=8,ground:=.data},{on:=10,ground:=.chain},{on:=0,ground:=.phase},{on:=1,ground:=.phase},{on:=2,ground:=.phase},{on:=3,ground:=.phase},{on:=4,ground:=.phase},{on:=5,ground:=.phase},{on:=6,ground:=.phase},{on:=7,ground:=.phase},{on:=8,ground:=.phase},{on:=9,ground:=.phase},{on:=10,ground:=.phase}],guard:=none}] true) Q { tmps:=#[x0,x1,x2,.int .i64 ix,x4,.pointer (some ⟨g0,0,none⟩),.pointer (some ⟨g1,0,none⟩),x7,x8,x9,x10,.int .i64 (i:Int),x12,x13,x14,x15,x16,x17,x18,x19,x20,x21,x22,x23,x24,x25,x26,x27,x28,x29,x30,x31,x32,x33,x34,x35,x36,x37,x38,x39,x40],defers:=[]} w1:=by
 obtain⟨s0,s1,s2,s3,s4⟩:=HS.out w1 (Below.refl _ _);have hd0:Below w1.heap.size w1 w1.drew:=bdw _ _;have hda:∀ o,Below w1.heap.size w1 (w1.alloc o).drew:=fun o=>b_drew (b_alloc (Below.refl _ _) o);go_region_held3 (fun v=>v.cell? ⟨g0,0,none⟩=some (.int .i64 k)/\v.cell? ⟨g0,1,none⟩=some (.int .i64 r)/\v.cell? ⟨g0,2,none⟩=some (.int .i64 c)/\v.cell? ⟨g0,3,none⟩=some (.int .i64 q)/\v.cell? ⟨g1,i,none⟩=some (.slice a0 n0 c0)) ((refine HS.out _ ?_; first | with_reducible exact hd0 | with_reducible exact hda _ | with_reducible exact hb' | with_reducible exact b_alloc hb' _ | with_reducible exact below_six hb' hgg _ _ _ _ _ _ | with_reducible exact below_six (b_alloc hb' _) hb'.size _ _ _ _ _ _)) ((first
  | (go_at_call 135; refine(HP1.out _ (hda _)).mono ?_; rintro e w' ⟨ao,ca,bo,cb,rfl,hv,hw'⟩; have hb':=bth (hda _) hw'; have hat:At w1 w' w1.heap.size #[.int .u8 0,.int .i64 0,.int .i64 0,.int .i64 0,.slice none 0 0,.slice none 0 0] 107:=(at_new (a:=w1) (Below.refl _ _) _ 107).drew.below hw'; have hgg:=hat.1; have c0:=hat.cell (i:=0) rfl; have c1:=hat.cell (i:=1) rfl; have c2:=hat.cell (i:=2) rfl; have c3:=hat.cell (i:=3) rfl; have c4:=hat.cell (i:=4) rfl; have c5:=hat.cell (i:=5) rfl; have cf:=hat.free; clear hw')
  | (go_at_call 135; refine(HP1.out _ hd0).mono ?_; rintro e w' ⟨ao,ca,bo,cb,rfl,hv,hw'⟩; have hb':=bth hd0 hw'; clear hw')))
 ·refine HQ.out _ _ ao ca bo cb ?_ ?_
  ·exact b_alloc hb' _
  ·exact at_new hb' _ _
 ·refine HQ.out _ _ ao ca bo cb ?_ ?_
  ·exact below_six hb' hgg _ _ _ _ _ _
  ·exact at_six hat _ _ _ _ _ _
theorem Holds_any{k r c q:Int}{N W:Nat}(h:Par k r c q N W 0)(w:World)(a0:Option Addr)(n0 c0:Nat)(F0:Nat->UInt8)(a1:Option Addr)(n1 c1:Nat)(F1:Nat->UInt8)(h0:Bec w a0 n0 c0 F0)(h1:Bec w a1 n1 c1 F1)(l0:n0<=9223372036854775807)(l1:n1<=9223372036854775807)(kd:UInt8)(ix v:Int)(y0 y1:Sl)(hy0:he 0 N c ix n0 F0=y0)(hy1:he 0 N c ix n1 F1=y1):
  Calls Tryz.prog 137 #[.agg #[.int .i64 k,.int .i64 r,.int .i64 c,.int .i64 q],.agg #[.slice a0 n0 c0,.slice a1 n1 c1],.int .u8 ((kd.toNat:Nat):Int),.int .i64 ix,.int .i64 v] w fun e w'=>e=.returned (.int .i64 (hN y0 y1 kd v))/\Below w.heap.size w w':=by
 obtain⟨w0,hw0⟩:∃ w0,w0=w.alloc (.cells #[.int .i64 k,.int .i64 r,.int .i64 c,.int .i64 q] 23):=⟨_,rfl⟩
 have bw0:Below w.heap.size w w0:=by rw [hw0]; exact bal _ _
 have zw0:w0.heap.size=w.heap.size+1:=by rw [hw0]; simp
 obtain⟨w1,hw1⟩:∃ w1,w1=w0.alloc (.cells #[.slice a0 n0 c0,.slice a1 n1 c1] 97):=⟨_,rfl⟩
 have bw1:Below w0.heap.size w0 w1:=by rw [hw1]; exact bal _ _
 have zw1:w1.heap.size=w.heap.size+1+1:=by rw [hw1]; simp [zw0]
 have Bw:Hid (Below w.heap.size w w1):=(bth bw0 bw1)
 have Lw0:Hid (∀ v,Below w1.heap.size w1 v->At w v (w.heap.size) #[.int .i64 k,.int .i64 r,.int .i64 c,.int .i64 q] 23):=fun v hv=>by exact(at_made (Below.refl _ _) hw0).below (bth bw1 hv)
 have Lw1:Hid (∀ v,Below w1.heap.size w1 v->At w v (w.heap.size+1) #[.slice a0 n0 c0,.slice a1 n1 c1] 97):=fun v hv=>by rw [<- zw0]; exact(at_made bw0 hw1).below (bth (Below.refl _ _) hv)
 have HO0:Hid (∀ v,Below w.heap.size w v->Calls Tryz.prog 135 #[.agg #[.int .i64 k,.int .i64 r,.int .i64 c,.int .i64 q],.slice a0 n0 c0,.int .i64 ix] v fun e w'=>∃ ao ca bo cb,e=.returned (.tuple #[slv y0 ao ca bo cb,.bool (decide (¬ y0.ce=0))])/\Got v.heap.size w' y0 ao ca bo cb/\Below v.heap.size v w'):=fun v hv=>Of_any h v a0 n0 c0 F0 (h0.below hv) l0 ix y0 hy0;have HO1:Hid (∀ v,Below w.heap.size w v->Calls Tryz.prog 135 #[.agg #[.int .i64 k,.int .i64 r,.int .i64 c,.int .i64 q],.slice a1 n1 c1,.int .i64 ix] v fun e w'=>∃ ao ca bo cb,e=.returned (.tuple #[slv y1 ao ca bo cb,.bool (decide (¬ y1.ce=0))])/\Got v.heap.size w' y1 ao ca bo cb/\Below v.heap.size v w'):=fun v hv=>Of_any h v a1 n1 c1 F1 (h1.below hv) l1 ix y1 hy1;have HO:Hid (∀ i:Nat,i<2->∃ a n cc y,((i=0/\a=a0/\n=n0/\cc=c0/\y=y0)\/(i=1/\a=a1/\n=n1/\cc=c1/\y=y1))/\(∀ v,Below w1.heap.size w1 v->v.cell? ⟨w.heap.size,0,none⟩=some (.int .i64 k)/\v.cell? ⟨w.heap.size,1,none⟩=some (.int .i64 r)/\v.cell? ⟨w.heap.size,2,none⟩=some (.int .i64 c)/\v.cell? ⟨w.heap.size,3,none⟩=some (.int .i64 q)/\v.cell? ⟨w.heap.size+1,i,none⟩=some (.slice a n cc))/\(∀ v,Below w.heap.size w v->Calls Tryz.prog 135 #[.agg #[.int .i64 k,.int .i64 r,.int .i64 c,.int .i64 q],.slice a n cc,.int .i64 ix] v fun e w'=>∃ ao ca bo cb,e=.returned (.tuple #[slv y ao ca bo cb,.bool (decide (¬ y.ce=0))])/\Got v.heap.size w' y ao ca bo cb/\Below v.heap.size v w')):=fun i hi=>by
  rcases (show i=0\/i=1 by omega) with rfl | rfl
  ·refine⟨a0,n0,_,y0,.inl ⟨rfl,rfl,rfl,rfl,rfl⟩,fun v hv=>?_,HO0.out⟩;have p0:=Lw0.out v hv;exact⟨p0.cell (i:=0) rfl,p0.cell (i:=1) rfl,p0.cell (i:=2) rfl,p0.cell (i:=3) rfl,(Lw1.out v hv).cell (i:=0) rfl⟩
  ·refine⟨a1,n1,_,y1,.inr ⟨rfl,rfl,rfl,rfl,rfl⟩,fun v hv=>?_,HO1.out⟩;have p0:=Lw0.out v hv;exact⟨p0.cell (i:=0) rfl,p0.cell (i:=1) rfl,p0.cell (i:=2) rfl,p0.cell (i:=3) rfl,(Lw1.out v hv).cell (i:=1) rfl⟩
 clear h h0 h1 l0 l1 hy0 hy1 HO0 HO1 Lw0 Lw1;unfold slv at HO;go_enter Tryz.func137,Tryz.ntmps137
 go_wp2_with fail
 rw [<- hw0,<- hw1];clear hw0 bw0 zw0 hw1 bw1 zw1;go_loopw [11] (fun y wr=>∃ i:Nat,i<=2/\y=.int .i64 (i:Int)/\Hid (Below w1.heap.size w1 wr)/\Hid ((0<i->hB y0 kd v=false)/\(1<i->hB y1 kd v=false))) (fun y _=>2-(intOf y).toNat)
 case atStart=>exact⟨0,Nat.zero_le _,rfl,Below.refl _ _,fun hh=>absurd hh (by omega),fun hh=>absurd hh (by omega)⟩
 case round =>
  obtain⟨i,hi,rfl,hbw,hno⟩:=hrel;by_cases hlt:i<2
  ·have i1:(0:Int)<=(i:Int):=by omega
   have i2:(i:Int)<2:=by omega
   obtain⟨a,n,cc,y,hwh,hs,hp⟩:=HO.out i hlt;have HWH:Hid ((hB y kd v=true->hN y0 y1 kd v=(i:Int))/\(hB y kd v=false->(0<i+1->hB y0 kd v=false)/\(1<i+1->hB y1 kd v=false))):=by
    show _/\_;rcases hwh with ⟨rfl,_,_,_,rfl⟩ | ⟨rfl,_,_,_,rfl⟩
    ·refine⟨fun hh=>by unfold hN; rw [if_pos hh]; rfl,fun hh=>⟨fun _=>hh,fun h2=>absurd h2 (by omega)⟩⟩
    ·have h3:=hno.out.1 (by omega);refine⟨fun hh=>by unfold hN; rw [if_neg (by rw [h3]; exact Bool.false_ne_true),if_pos hh]; rfl,fun hh=>⟨fun _=>h3,fun _=>hh⟩⟩
   have HS:Hid (∀ u,Below wr.heap.size wr u->u.cell? ⟨w.heap.size,0,none⟩=some (.int .i64 k)/\u.cell? ⟨w.heap.size,1,none⟩=some (.int .i64 r)/\u.cell? ⟨w.heap.size,2,none⟩=some (.int .i64 c)/\u.cell? ⟨w.heap.size,3,none⟩=some (.int .i64 q)/\u.cell? ⟨w.heap.size+1,i,none⟩=some (.slice a n cc)):=fun u hu=>hs u (bth hbw.out hu);have HP:=fun u (hu:Below wr.heap.size wr u)=>hp u (bth Bw.out (bth hbw.out hu));clear hs hp hwh hno;go_wp2_with fail
   refine hreg wr k r c q ix w.heap.size (w.heap.size+1) i i1 i2 a n cc y (decide (¬ y.ce=0)) _ _ _ _ _ _ _ _ _ _ _ _ _ _ _ _ _ _ _ _ _ _ _ _ _ _ _ _ _ _ _ _ _ _ _ _ _ HS HP _ (fun v' g ao ca bo cb hb3 hat=>?_);have HB3:Hid (Below w1.heap.size w1 v'):=bth hbw.out hb3;have c0:=hat.cell (i:=0) rfl;have c2:=hat.cell (i:=2) rfl;clear hat hb3 HP HS HO;rcases hB_tests y kd v with ⟨e0,e1⟩ | ⟨e0,e1,e2⟩ | ⟨e0,e1,e2,e3⟩ | ⟨e0,e1,e2,e3⟩
   ·rw [e1];go_wp2_with fail
    go_roundw
    case rel=>exact⟨i+1,by omega,by go_num,HB3.out,HWH.out.2 e0⟩
    case measure=>simp [intOf]; omega
   ·rw [e1];go_wp2_with fail
    go_roundw
    case rel=>exact⟨i+1,by omega,by go_num,HB3.out,HWH.out.2 e0⟩
    case measure=>simp [intOf]; omega
   ·rw [e1];go_wp2_with fail
    go_roundw
    case rel=>exact⟨i+1,by omega,by go_num,HB3.out,HWH.out.2 e0⟩
    case measure=>simp [intOf]; omega
   ·rw [e1];go_wp2_with fail
    go_ret;exact⟨by rw [HWH.out.1 e0]; rfl,bth Bw.out HB3.out⟩
  ·have hi2:i=2:=by omega
   subst hi2;go_wp2_with fail
   go_ret;refine⟨?_,bth Bw.out hbw.out⟩;unfold hN;rw [if_neg (by rw [hno.out.1 (by omega)]; exact Bool.false_ne_true),if_neg (by rw [hno.out.2 (by omega)]; exact Bool.false_ne_true)];rfl
theorem RRow_any{k r c q:Int}{N W:Nat}(h:Par k r c q N W 0)(w:World)(ro:Option Addr)(rn rc:Nat)(A:Nat->Option Addr)(L C:Nat->Nat)(F:Nat->Nat->UInt8)(hr:Rw w ro rn A L C F)(y:Bool)(hy:decide (rn=N/\∀ j,j<2*rn->L j=0\/L j=sz N c)=y):
  Calls Tryz.prog 134 #[.agg #[.int .i64 k,.int .i64 r,.int .i64 c,.int .i64 q],.slice ro rn rc] w fun e w'=>e=.returned (.bool y)/\Below w.heap.size w w':=by
 obtain⟨w0,hw0⟩:∃ w0,w0=w.alloc (.cells #[.int .i64 k,.int .i64 r,.int .i64 c,.int .i64 q] 23):=⟨_,rfl⟩
 have B0:Hid (Below w.heap.size w w0):=by show Below _ _ _; rw [hw0]; exact bal _ _
 have L0:Hid (∀ v,Below w0.heap.size w0 v->At w v w.heap.size #[.int .i64 k,.int .i64 r,.int .i64 c,.int .i64 q] 23):=fun v hv=>(at_made (Below.refl _ _) hw0).below hv;have hle:=h.le;have HN:Hid (∀ v,Calls Tryz.prog 111 #[.agg #[.int .i64 k,.int .i64 r,.int .i64 c,.int .i64 q]] v fun e w'=>e=.returned (.int .i64 (N:Int))/\Below v.heap.size v w'):=fun v=>N_any c q h.sum hle v;by_cases hn:rn=N
 ·subst hn;have hnn:((rn:Int) != (rn:Int))=false:=by simp
  obtain⟨z,hz⟩:∃ z,z=sz rn c:=⟨_,rfl⟩
  have HP:Hid (∀ v a0 n0 c0 a1 n1 c1,Calls Tryz.prog 205 #[.agg #[.int .i64 k,.int .i64 r,.int .i64 c,.int .i64 q],.agg #[.slice a0 n0 c0,.slice a1 n1 c1]] v fun e w'=>e=.returned (.bool (decide ((n0=0\/n0=z)/\(n1=0\/n1=z))))/\Below v.heap.size v w'):=fun v a0 n0 c0 a1 n1 c1=>by rw [hz]; exact RPair_any h v a0 n0 c0 a1 n1 c1
  rw [<- hz] at hy;have HE:Hid ((∀ j,j<2*rn->L j=0\/L j=z)/\y=true\/¬ (∀ j,j<2*rn->L j=0\/L j=z)/\y=false):=by
   by_cases g:∀ j,j<2*rn->L j=0\/L j=z
   ·exact .inl ⟨g,by rw [<- hy]; exact decide_eq_true ⟨rfl,g⟩⟩
   ·exact .inr ⟨g,by rw [<- hy]; exact decide_eq_false fun a=>g a.2⟩
  have HR:Hid (Rw w ro rn A L C F):=hr;clear hy hr hz h;go_enter Tryz.func134,Tryz.ntmps134
  go_wp2_with fail
  rw [<- hw0];clear hw0;refine(HN.out _).mono ?_;rintro e wa ⟨rfl,ha⟩;have BA:Hid (Below w0.heap.size w0 wa):=ha;clear ha;go_wp2_with fail
  go_loopw [5] (fun x wr=>∃ i:Nat,i<=rn/\x=.int .i64 (i:Int)/\Hid (Below wa.heap.size wa wr)/\Hid (∀ j,j<2*i->L j=0\/L j=z)) (fun x _=>rn-(intOf x).toNat)
  case atStart=>exact⟨0,Nat.zero_le _,rfl,Below.refl _ _,fun j hj=>absurd hj (by omega)⟩
  case round =>
   obtain⟨i,hi,rfl,hb,hall⟩:=hrel;have BR:Hid (Below w0.heap.size w0 wr):=bth BA.out hb.out;by_cases hlt:i<rn
   ·obtain⟨b,off,rfl,hcc⟩:=HR.out.at_ (by omega);have c0:wr.cell? ⟨b,off+i*2,none⟩=some (.slice (A (2*i)) (L (2*i)) (C (2*i))):=held (hcc i hlt).1 (bth B0.out BR.out);have c1:wr.cell? ⟨b,off+i*2+1,none⟩=some (.slice (A (2*i+1)) (L (2*i+1)) (C (2*i+1))):=held (hcc i hlt).2 (bth B0.out BR.out);clear hcc;have i1:(0:Int)<=(i:Int):=by omega
    have i2:(i:Int)<(rn:Int):=by omega
    have pq:=L0.out wr BR.out;have s0:=pq.cell (i:=0) rfl;have s1:=pq.cell (i:=1) rfl;have s2:=pq.cell (i:=2) rfl;have s3:=pq.cell (i:=3) rfl;clear pq;have hPA:=fun v=>HP.out v (A (2*i)) (L (2*i)) (C (2*i)) (A (2*i+1)) (L (2*i+1)) (C (2*i+1));have CH:Hid (∀ v,Below wr.heap.size wr v->v.cell? ⟨w.heap.size,0,none⟩=some (.int .i64 k)/\v.cell? ⟨w.heap.size,1,none⟩=some (.int .i64 r)/\v.cell? ⟨w.heap.size,2,none⟩=some (.int .i64 c)/\v.cell? ⟨w.heap.size,3,none⟩=some (.int .i64 q)/\v.cell? ⟨b,off+i*2,none⟩=some (.slice (A (2*i)) (L (2*i)) (C (2*i)))/\v.cell? ⟨b,off+i*2+1,none⟩=some (.slice (A (2*i+1)) (L (2*i+1)) (C (2*i+1)))):=fun v hv=>by
     have pq:=L0.out v (bth BR.out hv);exact⟨pq.cell (i:=0) rfl,pq.cell (i:=1) rfl,pq.cell (i:=2) rfl,pq.cell (i:=3) rfl,held c0 hv,held c1 hv⟩
    by_cases g:(L (2*i)=0\/L (2*i)=z)/\(L (2*i+1)=0\/L (2*i+1)=z)
    ·rw [decide_eq_true g] at hPA;have HPA:Hid (∀ v,Calls Tryz.prog 205 #[.agg #[.int .i64 k,.int .i64 r,.int .i64 c,.int .i64 q],.agg #[.slice (A (2*i)) (L (2*i)) (C (2*i)),.slice (A (2*i+1)) (L (2*i+1)) (C (2*i+1))]] v fun e w'=>e=.returned (.bool true)/\Below v.heap.size v w'):=hPA;have HALL:Hid (∀ j,j<2*(i+1)->L j=0\/L j=z):=fun j hj=>by
      by_cases e1:j=2*i
      ·rw [e1]; exact g.1
      ·by_cases e2:j=2*i+1
       ·rw [e2]; exact g.2
       ·exact hall.out j (by omega)
     clear hPA g;go_wp2_with fail
     go_region_held3 (fun v=>v.cell? ⟨w.heap.size,0,none⟩=some (.int .i64 k)/\v.cell? ⟨w.heap.size,1,none⟩=some (.int .i64 r)/\v.cell? ⟨w.heap.size,2,none⟩=some (.int .i64 c)/\v.cell? ⟨w.heap.size,3,none⟩=some (.int .i64 q)/\v.cell? ⟨b,off+i*2,none⟩=some (.slice (A (2*i)) (L (2*i)) (C (2*i)))/\v.cell? ⟨b,off+i*2+1,none⟩=some (.slice (A (2*i+1)) (L (2*i+1)) (C (2*i+1)))) (go_keep) ((go_at_call 205; refine(HPA.out _).mono ?_; rintro e wf ⟨rfl,hf⟩; have HFB:Hid (Below wr.heap.size wr wf):=of_drew' hf; obtain⟨e0,e1,e2,e3,e4,e5⟩:=CH.out wf HFB.out; clear hf))
     all_goals (
      go_wp2_with fail
      go_roundw
      case rel=>exact⟨i+1,by omega,by go_num,bth hb.out HFB.out,HALL.out⟩
      case measure=>simp [intOf]; omega)
    ·rw [decide_eq_false g] at hPA;have HPA:Hid (∀ v,Calls Tryz.prog 205 #[.agg #[.int .i64 k,.int .i64 r,.int .i64 c,.int .i64 q],.agg #[.slice (A (2*i)) (L (2*i)) (C (2*i)),.slice (A (2*i+1)) (L (2*i+1)) (C (2*i+1))]] v fun e w'=>e=.returned (.bool false)/\Below v.heap.size v w'):=hPA;obtain rfl:y=false:=by
      rcases HE.out with ⟨a,_⟩ | ⟨_,a⟩
      ·exact absurd ⟨a _ (by omega),a _ (by omega)⟩ g
      ·exact a
     clear hPA g;go_wp2_with fail
     go_region_held3 (fun v=>v.cell? ⟨w.heap.size,0,none⟩=some (.int .i64 k)/\v.cell? ⟨w.heap.size,1,none⟩=some (.int .i64 r)/\v.cell? ⟨w.heap.size,2,none⟩=some (.int .i64 c)/\v.cell? ⟨w.heap.size,3,none⟩=some (.int .i64 q)/\v.cell? ⟨b,off+i*2,none⟩=some (.slice (A (2*i)) (L (2*i)) (C (2*i)))/\v.cell? ⟨b,off+i*2+1,none⟩=some (.slice (A (2*i+1)) (L (2*i+1)) (C (2*i+1)))) (go_keep) ((go_at_call 205; refine(HPA.out _).mono ?_; rintro e wf ⟨rfl,hf⟩; have HFB:Hid (Below wr.heap.size wr wf):=of_drew' hf; obtain⟨e0,e1,e2,e3,e4,e5⟩:=CH.out wf HFB.out; clear hf))
     all_goals (
      go_wp2_with fail
      go_ret;exact⟨rfl,bth (bth B0.out BR.out) HFB.out⟩)
   ·obtain rfl:i=rn:=by omega
    obtain rfl:y=true:=by
     rcases HE.out with ⟨_,a⟩ | ⟨a,_⟩
     ·exact a
     ·exact absurd hall.out a
    go_wp2_with fail
    go_ret;exact⟨rfl,bth B0.out BR.out⟩
 ·have hnn:((rn:Int) != (N:Int))=true:=by simp; omega
  obtain rfl:y=false:=by rw [<- hy]; exact decide_eq_false fun a=>hn a.1
  clear hr h hn;go_enter Tryz.func134,Tryz.ntmps134
  go_wp2_with fail
  rw [<- hw0];clear hw0;refine(HN.out _).mono ?_;rintro e wa ⟨rfl,ha⟩;go_wp2_with fail
  go_ret;exact⟨rfl,bth B0.out ha⟩
theorem erR_two{x:Int}{N:Nat}{c:Int}{rn:Nat}{L:Nat->Nat}(h:x=2):erR x N c rn L=2:=by unfold erR; rw [h]; rfl
end Go.Proofs.YtemlojjkokooeaaGreat
