import Derived.Test.YtemlojjkokooeaaGreatTj28
set_option maxHeartbeats 8000000
set_option maxRecDepth 100000
namespace Go.Proofs.YtemlojjkokooeaaGreat
open Go.RowKit
theorem told_reg(w1:World)(k r c q:Int)(g0 rb ro rn rc i:Nat)(s:Nat)(hs:s<2)(hi:(0:Int)<=(i:Int))(hi2:(i:Int)<(rn:Int))(a0:Option Addr)(n0 c0:Nat)(y:Sl)(b:Bool)(x0 x2 x3 x5 x6 x7 x8 x11 x12 x13 x14 x15 x16 x17 x18 x19 x20 x21 x22 x23 x24 x25 x26 x27 x28 x29 x30 x31 x32 x33 x34 x35 x36 x37 x38 x39 x40 x41 x42 x43 x44 x45 x46 x47 x48 x49:Value)
  (HS:Hid (∀ v,Below w1.heap.size w1 v->(v.cell? ⟨g0,0,none⟩=some (.int .i64 k)/\v.cell? ⟨g0,1,none⟩=some (.int .i64 r)/\v.cell? ⟨g0,2,none⟩=some (.int .i64 c)/\v.cell? ⟨g0,3,none⟩=some (.int .i64 q)/\v.cell? ⟨rb,ro+i*2+s,none⟩=some (.slice a0 n0 c0))))
  (HP1:Hid (∀ v,Below w1.heap.size w1 v->Calls Tryz.prog 135 #[.agg #[.int .i64 k,.int .i64 r,.int .i64 c,.int .i64 q],.slice a0 n0 c0,.int .i64 (i:Int)] v fun e w'=>∃ ao ca bo cb,e=.returned (.tuple #[.agg #[.int .u8 ((y.kd.toNat:Nat):Int),.int .i64 y.ix,.int .i64 y.ce,.int .i64 y.st,.slice ao y.vn ca,.slice bo y.dn cb],.bool b])/\Got v.heap.size w' y ao ca bo cb/\Below v.heap.size v w'))
  (Q:Exit->Act->World->Prop) (HQ:Hid (∀ v g ao ca bo cb,Below w1.heap.size w1 v->At w1 v g #[.int .u8 ((y.kd.toNat:Nat):Int),.int .i64 y.ix,.int .i64 y.ce,.int .i64 y.st,.slice ao y.vn ca,.slice bo y.dn cb] 107->Got w1.heap.size v y ao ca bo cb->Q .normal { tmps:=#[x0,.slice (some ⟨rb,ro,none⟩) rn rc,x2,x3,.pointer (some ⟨g0,0,none⟩),x5,x6,x7,x8,.int .i64 (i:Int),.int .i64 (s:Int),.pointer (some ⟨g,0,none⟩),.bool b,x13,x14,x15,x16,x17,x18,x19,x20,x21,x22,.tuple #[.agg #[.int .u8 ((y.kd.toNat:Nat):Int),.int .i64 y.ix,.int .i64 y.ce,.int .i64 y.st,.slice ao y.vn ca,.slice bo y.dn cb],.bool b],.agg #[.int .i64 k,.int .i64 r,.int .i64 c,.int .i64 q],.slice (some ⟨rb,ro,none⟩) rn rc,.int .i64 (i:Int),.int .i64 (s:Int),.pointer (some ⟨rb,ro+i*2,none⟩),.pointer (some ⟨rb,ro+i*2+s,none⟩),.slice a0 n0 c0,.int .i64 (i:Int),.tuple #[.agg #[.int .u8 ((y.kd.toNat:Nat):Int),.int .i64 y.ix,.int .i64 y.ce,.int .i64 y.st,.slice ao y.vn ca,.slice bo y.dn cb],.bool b],.agg #[.int .u8 ((y.kd.toNat:Nat):Int),.int .i64 y.ix,.int .i64 y.ce,.int .i64 y.st,.slice ao y.vn ca,.slice bo y.dn cb],.bool b,x35,x36,x37,x38,x39,x40,x41,x42,x43,x44,x45,x46,x47,x48,x49],defers:=[]} v)) :
  Code.wp Tryz.prog (Code.region 7 #[{dst:=some 24,op:=.load 23 (.tmp 4),type:=23,pos := "ref.go:50", after:=#[],guard:=none},{dst:=some 25,op:=.move (.tmp 1),type:=24,pos := "ref.go:50", after:=#[],guard:=none},{dst:=some 26,op:=.move (.tmp 9),type:=3,pos := "ref.go:50", after:=#[],guard:=none},{dst:=some 27,op:=.move (.tmp 10),type:=3,pos := "ref.go:50", after:=#[],guard:=none},{dst:=some 28,op:=.indexAddr 24 (.tmp 25) (.tmp 26),type:=0,pos := "ref.go:50", after:=#[{on:=1,ground:=.data},{on:=2,ground:=.data}],guard:=none},{dst:=some 29,op:=.indexAddr 97 (.tmp 28) (.tmp 27),type:=0,pos := "ref.go:50", after:=#[{on:=4,ground:=.data},{on:=3,ground:=.data}],guard:=none},{dst:=some 30,op:=.load 36 (.tmp 29),type:=36,pos := "ref.go:50", after:=#[{on:=5,ground:=.data}],guard:=none},{dst:=some 31,op:=.move (.tmp 9),type:=3,pos := "ref.go:50", after:=#[],guard:=none},{dst:=some 32,op:=.call { callee:=.value (.func 135),args:=#[.tmp 24,.tmp 30,.tmp 31],argTypes:=#[23,36,3]},type:=170,pos := "ref.go:50", after:=#[{on:=0,ground:=.data},{on:=6,ground:=.data},{on:=7,ground:=.data}],guard:=none},{dst:=some 23,op:=.move (.tmp 32),type:=170,pos := "ref.go:50", after:=#[{on:=8,ground:=.data}],guard:=none},{dst:=some 33,op:=.extract (.tmp 23) 0,type:=107,pos := "ref.go:50", after:=#[{on:=9,ground:=.data}],guard:=none},{dst:=some 34,op:=.extract (.tmp 23) 1,type:=4,pos := "ref.go:50", after:=#[{on:=9,ground:=.data},{on:=13,ground:=Ground.gcOnly Departure.lateStores}],guard:=none},{dst:=some 11,op:=.alloc 107,type:=0,pos := "ref.go:50", after:=#[],guard:=none},{dst:=none,op:=.store 107 (.tmp 11) (.tmp 33),type:=0,pos := "ref.go:50", after:=#[{on:=12,ground:=.data},{on:=10,ground:=.data},{on:=8,ground:=.chain},{on:=0,ground:=.phase},{on:=1,ground:=.phase},{on:=2,ground:=.phase},{on:=3,ground:=.phase},{on:=4,ground:=.phase},{on:=5,ground:=.phase},{on:=6,ground:=.phase},{on:=7,ground:=.phase},{on:=8,ground:=.phase},{on:=9,ground:=.phase},{on:=10,ground:=.phase},{on:=11,ground:=Ground.textOnly Departure.lateStores},{on:=12,ground:=.phase}],guard:=none},{dst:=some 12,op:=.assign (.tmp 34),type:=4,pos := "ref.go:50", after:=#[{on:=11,ground:=.data},{on:=13,ground:=.chain},{on:=0,ground:=.phase},{on:=1,ground:=.phase},{on:=2,ground:=.phase},{on:=3,ground:=.phase},{on:=4,ground:=.phase},{on:=5,ground:=.phase},{on:=6,ground:=.phase},{on:=7,ground:=.phase},{on:=8,ground:=.phase},{on:=9,ground:=.phase},{on:=10,ground:=.phase},{on:=11,ground:=.phase},{on:=12,ground:=.phase},{on:=13,ground:=.phase}],guard:=none}] true) Q { tmps:=#[x0,.slice (some ⟨rb,ro,none⟩) rn rc,x2,x3,.pointer (some ⟨g0,0,none⟩),x5,x6,x7,x8,.int .i64 (i:Int),.int .i64 (s:Int),x11,x12,x13,x14,x15,x16,x17,x18,x19,x20,x21,x22,x23,x24,x25,x26,x27,x28,x29,x30,x31,x32,x33,x34,x35,x36,x37,x38,x39,x40,x41,x42,x43,x44,x45,x46,x47,x48,x49],defers:=[]} w1:=by
 obtain⟨s0,s1,s2,s3,s4⟩:=HS.out w1 (Below.refl _ _);have hs0:(0:Int)<=(s:Int):=by omega
 have hs2:(s:Int)<2:=by omega
 have hd0:Below w1.heap.size w1 w1.drew:=bdw _ _;have hda:∀ o,Below w1.heap.size w1 (w1.alloc o).drew:=fun o=>b_drew (b_alloc (Below.refl _ _) o);go_region_held3 (fun v=>v.cell? ⟨g0,0,none⟩=some (.int .i64 k)/\v.cell? ⟨g0,1,none⟩=some (.int .i64 r)/\v.cell? ⟨g0,2,none⟩=some (.int .i64 c)/\v.cell? ⟨g0,3,none⟩=some (.int .i64 q)/\v.cell? ⟨rb,ro+i*2+s,none⟩=some (.slice a0 n0 c0)) ((refine HS.out _ ?_; first | with_reducible exact hd0 | with_reducible exact hda _ | with_reducible exact hb' | with_reducible exact b_alloc hb' _ | with_reducible exact below_six hb' hgg _ _ _ _ _ _ | with_reducible exact below_six (b_alloc hb' _) hb'.size _ _ _ _ _ _)) ((first
  | (go_at_call 135; refine(HP1.out _ (hda _)).mono ?_; rintro e w' ⟨ao,ca,bo,cb,rfl,hv,hw'⟩; have hb':=bth (hda _) hw'; have hat:At w1 w' w1.heap.size #[.int .u8 0,.int .i64 0,.int .i64 0,.int .i64 0,.slice none 0 0,.slice none 0 0] 107:=(at_new (a:=w1) (Below.refl _ _) _ 107).drew.below hw'; have hgg:=hat.1; have c0:=hat.cell (i:=0) rfl; have c1:=hat.cell (i:=1) rfl; have c2:=hat.cell (i:=2) rfl; have c3:=hat.cell (i:=3) rfl; have c4:=hat.cell (i:=4) rfl; have c5:=hat.cell (i:=5) rfl; have cf:=hat.free; clear hw')
  | (go_at_call 135; refine(HP1.out _ hd0).mono ?_; rintro e w' ⟨ao,ca,bo,cb,rfl,hv,hw'⟩; have hb':=bth hd0 hw'; clear hw')))
 ·refine HQ.out _ _ ao ca bo cb ?_ ?_ ?_
  ·exact b_alloc hb' _
  ·exact at_new hb' _ _
  ·exact hv.below (bal _ _)
 ·refine HQ.out _ _ ao ca bo cb ?_ ?_ ?_
  ·exact below_six hb' hgg _ _ _ _ _ _
  ·exact at_six hat _ _ _ _ _ _
  ·exact(Got.stay hv (only_six w' w1.heap.size _ _ _ _ _ _) (by show w1.heap.size<(w1.alloc _).heap.size; simp)).mono (by show w1.heap.size<=(w1.alloc _).heap.size; simp)
theorem there_reg(w1:World)(k r c q:Int)(g0 rb ro rn rc i:Nat)(s:Nat)(hs:s<2)(hi:(0:Int)<=(i:Int))(hi2:(i:Int)<(rn:Int))(a0:Option Addr)(n0 c0:Nat)(y:Sl)(b:Bool)(x0 x2 x3 x5 x6 x7 x8 x9 x10 x11 x12 x15 x16 x17 x18 x19 x20 x21 x22 x23 x24 x25 x26 x27 x28 x29 x30 x31 x32 x33 x34 x35 x36 x37 x38 x39 x40 x41 x42 x43 x44 x45 x46 x47 x48 x49 x50 x51 x52 x53 x54 x55 x56 x57 x58 x59 x60 x61 x62 x63 x64 x65:Value)
  (HS:Hid (∀ v,Below w1.heap.size w1 v->(v.cell? ⟨g0,0,none⟩=some (.int .i64 k)/\v.cell? ⟨g0,1,none⟩=some (.int .i64 r)/\v.cell? ⟨g0,2,none⟩=some (.int .i64 c)/\v.cell? ⟨g0,3,none⟩=some (.int .i64 q)/\v.cell? ⟨rb,ro+i*2+s,none⟩=some (.slice a0 n0 c0))))
  (HP1:Hid (∀ v,Below w1.heap.size w1 v->Calls Tryz.prog 135 #[.agg #[.int .i64 k,.int .i64 r,.int .i64 c,.int .i64 q],.slice a0 n0 c0,.int .i64 (i:Int)] v fun e w'=>∃ ao ca bo cb,e=.returned (.tuple #[.agg #[.int .u8 ((y.kd.toNat:Nat):Int),.int .i64 y.ix,.int .i64 y.ce,.int .i64 y.st,.slice ao y.vn ca,.slice bo y.dn cb],.bool b])/\Got v.heap.size w' y ao ca bo cb/\Below v.heap.size v w'))
  (Q:Exit->Act->World->Prop) (HQ:Hid (∀ v g ao ca bo cb,Below w1.heap.size w1 v->At w1 v g #[.int .u8 ((y.kd.toNat:Nat):Int),.int .i64 y.ix,.int .i64 y.ce,.int .i64 y.st,.slice ao y.vn ca,.slice bo y.dn cb] 107->Got w1.heap.size v y ao ca bo cb->Q .normal { tmps:=#[x0,.slice (some ⟨rb,ro,none⟩) rn rc,x2,x3,.pointer (some ⟨g0,0,none⟩),x5,x6,x7,x8,x9,x10,x11,x12,.int .i64 (i:Int),.int .i64 (s:Int),.pointer (some ⟨g,0,none⟩),.bool b,x17,x18,x19,x20,x21,x22,x23,x24,x25,x26,x27,x28,x29,x30,x31,x32,x33,x34,x35,x36,x37,x38,x39,x40,x41,x42,x43,x44,.tuple #[.agg #[.int .u8 ((y.kd.toNat:Nat):Int),.int .i64 y.ix,.int .i64 y.ce,.int .i64 y.st,.slice ao y.vn ca,.slice bo y.dn cb],.bool b],.agg #[.int .i64 k,.int .i64 r,.int .i64 c,.int .i64 q],.slice (some ⟨rb,ro,none⟩) rn rc,.int .i64 (i:Int),.int .i64 (s:Int),.pointer (some ⟨rb,ro+i*2,none⟩),.pointer (some ⟨rb,ro+i*2+s,none⟩),.slice a0 n0 c0,.int .i64 (i:Int),.tuple #[.agg #[.int .u8 ((y.kd.toNat:Nat):Int),.int .i64 y.ix,.int .i64 y.ce,.int .i64 y.st,.slice ao y.vn ca,.slice bo y.dn cb],.bool b],.agg #[.int .u8 ((y.kd.toNat:Nat):Int),.int .i64 y.ix,.int .i64 y.ce,.int .i64 y.st,.slice ao y.vn ca,.slice bo y.dn cb],.bool b,x57,x58,x59,x60,x61,x62,x63,x64,x65],defers:=[]} v)) :
  Code.wp Tryz.prog (Code.region 9 #[{dst:=some 46,op:=.load 23 (.tmp 4),type:=23,pos := "ref.go:67", after:=#[],guard:=none},{dst:=some 47,op:=.move (.tmp 1),type:=24,pos := "ref.go:67", after:=#[],guard:=none},{dst:=some 48,op:=.move (.tmp 13),type:=3,pos := "ref.go:67", after:=#[],guard:=none},{dst:=some 49,op:=.move (.tmp 14),type:=3,pos := "ref.go:67", after:=#[],guard:=none},{dst:=some 50,op:=.indexAddr 24 (.tmp 47) (.tmp 48),type:=0,pos := "ref.go:67", after:=#[{on:=1,ground:=.data},{on:=2,ground:=.data}],guard:=none},{dst:=some 51,op:=.indexAddr 97 (.tmp 50) (.tmp 49),type:=0,pos := "ref.go:67", after:=#[{on:=4,ground:=.data},{on:=3,ground:=.data}],guard:=none},{dst:=some 52,op:=.load 36 (.tmp 51),type:=36,pos := "ref.go:67", after:=#[{on:=5,ground:=.data}],guard:=none},{dst:=some 53,op:=.move (.tmp 13),type:=3,pos := "ref.go:67", after:=#[],guard:=none},{dst:=some 54,op:=.call { callee:=.value (.func 135),args:=#[.tmp 46,.tmp 52,.tmp 53],argTypes:=#[23,36,3]},type:=170,pos := "ref.go:67", after:=#[{on:=0,ground:=.data},{on:=6,ground:=.data},{on:=7,ground:=.data}],guard:=none},{dst:=some 45,op:=.move (.tmp 54),type:=170,pos := "ref.go:67", after:=#[{on:=8,ground:=.data}],guard:=none},{dst:=some 55,op:=.extract (.tmp 45) 0,type:=107,pos := "ref.go:67", after:=#[{on:=9,ground:=.data}],guard:=none},{dst:=some 56,op:=.extract (.tmp 45) 1,type:=4,pos := "ref.go:67", after:=#[{on:=9,ground:=.data},{on:=13,ground:=Ground.gcOnly Departure.lateStores}],guard:=none},{dst:=some 15,op:=.alloc 107,type:=0,pos := "ref.go:67", after:=#[],guard:=none},{dst:=none,op:=.store 107 (.tmp 15) (.tmp 55),type:=0,pos := "ref.go:67", after:=#[{on:=12,ground:=.data},{on:=10,ground:=.data},{on:=8,ground:=.chain},{on:=0,ground:=.phase},{on:=1,ground:=.phase},{on:=2,ground:=.phase},{on:=3,ground:=.phase},{on:=4,ground:=.phase},{on:=5,ground:=.phase},{on:=6,ground:=.phase},{on:=7,ground:=.phase},{on:=8,ground:=.phase},{on:=9,ground:=.phase},{on:=10,ground:=.phase},{on:=11,ground:=Ground.textOnly Departure.lateStores},{on:=12,ground:=.phase}],guard:=none},{dst:=some 16,op:=.assign (.tmp 56),type:=4,pos := "ref.go:67", after:=#[{on:=11,ground:=.data},{on:=13,ground:=.chain},{on:=0,ground:=.phase},{on:=1,ground:=.phase},{on:=2,ground:=.phase},{on:=3,ground:=.phase},{on:=4,ground:=.phase},{on:=5,ground:=.phase},{on:=6,ground:=.phase},{on:=7,ground:=.phase},{on:=8,ground:=.phase},{on:=9,ground:=.phase},{on:=10,ground:=.phase},{on:=11,ground:=.phase},{on:=12,ground:=.phase},{on:=13,ground:=.phase}],guard:=none}] true) Q { tmps:=#[x0,.slice (some ⟨rb,ro,none⟩) rn rc,x2,x3,.pointer (some ⟨g0,0,none⟩),x5,x6,x7,x8,x9,x10,x11,x12,.int .i64 (i:Int),.int .i64 (s:Int),x15,x16,x17,x18,x19,x20,x21,x22,x23,x24,x25,x26,x27,x28,x29,x30,x31,x32,x33,x34,x35,x36,x37,x38,x39,x40,x41,x42,x43,x44,x45,x46,x47,x48,x49,x50,x51,x52,x53,x54,x55,x56,x57,x58,x59,x60,x61,x62,x63,x64,x65],defers:=[]} w1:=by
 obtain⟨s0,s1,s2,s3,s4⟩:=HS.out w1 (Below.refl _ _);have hs0:(0:Int)<=(s:Int):=by omega
 have hs2:(s:Int)<2:=by omega
 have hd0:Below w1.heap.size w1 w1.drew:=bdw _ _;have hda:∀ o,Below w1.heap.size w1 (w1.alloc o).drew:=fun o=>b_drew (b_alloc (Below.refl _ _) o);go_region_held3 (fun v=>v.cell? ⟨g0,0,none⟩=some (.int .i64 k)/\v.cell? ⟨g0,1,none⟩=some (.int .i64 r)/\v.cell? ⟨g0,2,none⟩=some (.int .i64 c)/\v.cell? ⟨g0,3,none⟩=some (.int .i64 q)/\v.cell? ⟨rb,ro+i*2+s,none⟩=some (.slice a0 n0 c0)) ((refine HS.out _ ?_; first | with_reducible exact hd0 | with_reducible exact hda _ | with_reducible exact hb' | with_reducible exact b_alloc hb' _ | with_reducible exact below_six hb' hgg _ _ _ _ _ _ | with_reducible exact below_six (b_alloc hb' _) hb'.size _ _ _ _ _ _)) ((first
  | (go_at_call 135; refine(HP1.out _ (hda _)).mono ?_; rintro e w' ⟨ao,ca,bo,cb,rfl,hv,hw'⟩; have hb':=bth (hda _) hw'; have hat:At w1 w' w1.heap.size #[.int .u8 0,.int .i64 0,.int .i64 0,.int .i64 0,.slice none 0 0,.slice none 0 0] 107:=(at_new (a:=w1) (Below.refl _ _) _ 107).drew.below hw'; have hgg:=hat.1; have c0:=hat.cell (i:=0) rfl; have c1:=hat.cell (i:=1) rfl; have c2:=hat.cell (i:=2) rfl; have c3:=hat.cell (i:=3) rfl; have c4:=hat.cell (i:=4) rfl; have c5:=hat.cell (i:=5) rfl; have cf:=hat.free; clear hw')
  | (go_at_call 135; refine(HP1.out _ hd0).mono ?_; rintro e w' ⟨ao,ca,bo,cb,rfl,hv,hw'⟩; have hb':=bth hd0 hw'; clear hw')))
 ·refine HQ.out _ _ ao ca bo cb ?_ ?_ ?_
  ·exact b_alloc hb' _
  ·exact at_new hb' _ _
  ·exact hv.below (bal _ _)
 ·refine HQ.out _ _ ao ca bo cb ?_ ?_ ?_
  ·exact below_six hb' hgg _ _ _ _ _ _
  ·exact at_six hat _ _ _ _ _ _
  ·exact(Got.stay hv (only_six w' w1.heap.size _ _ _ _ _ _) (by show w1.heap.size<(w1.alloc _).heap.size; simp)).mono (by show w1.heap.size<=(w1.alloc _).heap.size; simp)
def AnsW (w:World) (t:Sl) (e:Ending) (w':World):Prop:=∃ ao ca,e=.returned (.slice ao t.vn ca)/\Own w.heap.size w' ao t.vn ca t.V/\Below w.heap.size w w'
theorem Told_any{k r c q:Int}{N W:Nat}(h:Par k r c q N W 0)(w:World)(ro:Option Addr)(rc:Nat)(A:Nat->Option Addr)(L C:Nat->Nat)(F:Nat->Nat->UInt8)(hr:Rw w ro N A L C F)(hL:∀ j,j<2*N->L j=0\/L j=sz N c)(kd:UInt8)(hk:kd=1\/kd=2)(v:Int)(t:Sl)(ht:tS (yy N c L F) kd v (2*N)=t):
  Calls Tryz.prog 70 #[.agg #[.int .i64 k,.int .i64 r,.int .i64 c,.int .i64 q],.slice ro N rc,.int .u8 ((kd.toNat:Nat):Int),.int .i64 v] w (AnsW w t):=by
 have hle:=h.le;have hsz:sz N c<=1000:=by
  rcases h with ⟨hm,_⟩ | ⟨_,_,_,e⟩
  ·obtain⟨h1,h2,h3,h4,h5,h6,h7,h8,h9⟩:=may_true hm; unfold sz; omega
  ·exact absurd e (by decide)
 obtain⟨Z,hZ⟩:∃ Z,Z=yy N c L F:=⟨_,rfl⟩
 rw [<- hZ] at ht;have HOK:Hid (∀ j,j<2*N->(Z j).ce=0->tB (Z j) kd v=false):=fun j hj e=>by
  rw [hZ] at e ⊢;rcases yy_ok N c L F j hj with a | a
  ·rw [a]; unfold tB zSl;exact decide_eq_false fun b=>by rcases hk with rfl | rfl <;> exact absurd b.1 (by decide)
  ·exact absurd e (ok_of a.1).ne
 have HNO:Hid ((∀ j,j<2*N->tB (Z j) kd v=false)->t=zSl):=fun g=>by
  rw [<- ht,hZ];rcases tS_is (v:=v) hk (yy_ok N c L F) (2*N) (Nat.le_refl _) with ⟨a,_⟩ | ⟨j,hj,_,a3,_⟩
  ·exact a
  ·rw [<- hZ] at a3; rw [g j hj] at a3; cases a3
 have HYES:Hid (∀ j,j<2*N->(∀ l,l<j->tB (Z l) kd v=false)->tB (Z j) kd v=true->t=Z j):=fun j hj g1 g2=>by
  rw [<- ht];have e:tS Z kd v (j+1)=Z j:=by
   have hz:∀ m,m<=j->tS Z kd v m=zSl:=fun m=>by
    induction m with
    | zero=>exact fun _=>rfl
    | succ m ih=>intro hm; rw [tS,ih (by omega),if_pos (show zSl.ce=0 from rfl),if_neg (by rw [g1 m (by omega)]; decide)]
   rw [tS,hz j (Nat.le_refl _),if_pos (show zSl.ce=0 from rfl),if_pos g2]
  rw [tS_stay (m:=j+1) ?_ (by omega),e];rw [e];intro a;have:=HOK.out j hj a;rw [g2] at this; cases this
 have HP:Hid (∀ i s,i<N->s<2->∀ u,Below w.heap.size w u->Calls Tryz.prog 135 #[.agg #[.int .i64 k,.int .i64 r,.int .i64 c,.int .i64 q],.slice (A (2*i+s)) (L (2*i+s)) (C (2*i+s)),.int .i64 (i:Int)] u fun e w'=>∃ ao ca bo cb,e=.returned (.tuple #[.agg #[.int .u8 (((Z (2*i+s)).kd.toNat:Nat):Int),.int .i64 (Z (2*i+s)).ix,.int .i64 (Z (2*i+s)).ce,.int .i64 (Z (2*i+s)).st,.slice ao (Z (2*i+s)).vn ca,.slice bo (Z (2*i+s)).dn cb],.bool (decide (¬ (Z (2*i+s)).ce=0))])/\Got u.heap.size w' (Z (2*i+s)) ao ca bo cb/\Below u.heap.size u w'):=fun i s hi hs u hu=>by
  have hl:L (2*i+s)<=9223372036854775807:=by have:=hL (2*i+s) (by omega); omega
  have:=Of_any h u _ _ _ _ ((hr.bec (2*i+s) (by omega)).below hu) hl (i:Int) (Z (2*i+s)) (by rw [hZ]; unfold yy; rw [show (2*i+s) / 2=i by omega]);unfold slv at this;exact this
 obtain⟨w0,hw0⟩:∃ w0,w0=w.alloc (.cells #[.int .i64 k,.int .i64 r,.int .i64 c,.int .i64 q] 23):=⟨_,rfl⟩
 have B0:Hid (Below w.heap.size w w0):=by show Below _ _ _; rw [hw0]; exact bal _ _
 have L0:Hid (∀ v,Below w0.heap.size w0 v->At w v w.heap.size #[.int .i64 k,.int .i64 r,.int .i64 c,.int .i64 q] 23):=fun v hv=>(at_made (Below.refl _ _) hw0).below hv;have HR:Hid (Rw w ro N A L C F):=hr;clear h hr hL ht hZ hsz hk;unfold AnsW;go_enter Tryz.func70,Tryz.ntmps70
 go_wp2_with fail
 rw [<- hw0];clear hw0;go_loopw [9] (fun y wr=>∃ i:Nat,i<=N/\y=.int .i64 (i:Int)/\Hid (Below w0.heap.size w0 wr)/\Hid (∀ j,j<2*i->tB (Z j) kd v=false)) (fun y _=>N-(intOf y).toNat)
 case atStart=>exact⟨0,Nat.zero_le _,rfl,Below.refl _ _,fun j hj=>absurd hj (by omega)⟩
 case round =>
  obtain⟨i,hi,rfl,hbw,hno⟩:=hrel;by_cases hlt:i<N
  ·obtain⟨b,off,rfl,hcc⟩:=HR.out.at_ (by omega);have i1:(0:Int)<=(i:Int):=by omega
   have i2:(i:Int)<(N:Int):=by omega
   have HCC:Hid (w.cell? ⟨b,off+i*2,none⟩=some (.slice (A (2*i)) (L (2*i)) (C (2*i)))/\w.cell? ⟨b,off+i*2+1,none⟩=some (.slice (A (2*i+1)) (L (2*i+1)) (C (2*i+1)))):=hcc i hlt;have HBW:Hid (Below w0.heap.size w0 wr):=hbw.out;clear hcc;go_wp2_with fail
   obtain⟨wm,hwm⟩:∃ x,x=wr:=⟨wr,rfl⟩
   rw [<- hwm] at HBW ⊢;clear hwm hbw wr;go_loopw [10] (fun y wr=>∃ s:Nat,s<=2/\y=.int .i64 (s:Int)/\Hid (Below w0.heap.size w0 wr)/\Hid (∀ j,j<2*i+s->tB (Z j) kd v=false)) (fun y _=>2-(intOf y).toNat)
   case atStart=>exact⟨0,Nat.zero_le _,rfl,HBW.out,fun j hj=>hno.out j (by omega)⟩
   case round =>
    obtain⟨s,hs,rfl,hbs,hns⟩:=hrel;by_cases hs2:s<2
    ·have CHH:Hid (∀ v,Below wr.heap.size wr v->(v.cell? ⟨w.heap.size,0,none⟩=some (.int .i64 k)/\v.cell? ⟨w.heap.size,1,none⟩=some (.int .i64 r)/\v.cell? ⟨w.heap.size,2,none⟩=some (.int .i64 c)/\v.cell? ⟨w.heap.size,3,none⟩=some (.int .i64 q)/\v.cell? ⟨b,off+i*2+s,none⟩=some (.slice (A (2*i+s)) (L (2*i+s)) (C (2*i+s))))):=fun v hv=>by
      have p:=L0.out v (bth hbs.out hv);refine⟨p.cell (i:=0) rfl,p.cell (i:=1) rfl,p.cell (i:=2) rfl,p.cell (i:=3) rfl,?_⟩;refine held ?_ (bth (bth B0.out hbs.out) hv);rcases (show s=0\/s=1 by omega) with rfl | rfl
      ·exact HCC.out.1
      ·exact HCC.out.2
     have j1:(s:Int)<2:=by omega
     have hP:=fun u (hu:Below wr.heap.size wr u)=>HP.out i s hlt hs2 u (bth (bth B0.out hbs.out) hu);obtain⟨y,hy⟩:∃ y,y=Z (2*i+s):=⟨_,rfl⟩
     rw [<- hy] at hP;have HY:Hid (y=Z (2*i+s)):=hy;have nxt:tB y kd v=false->Hid (∀ j,j<2*i+(s+1)->tB (Z j) kd v=false):=fun e j hj=>by
      by_cases g:j=2*i+s
      ·rw [g,<- HY.out]; exact e
      ·exact hns.out j (by omega)
     have z0:y.ce=0->tB y kd v=false:=fun e=>by rw [hy] at e ⊢; exact HOK.out _ (by omega) e
     clear hy;go_wp2_with fail
     refine told_reg wr k r c q w.heap.size b off N rc i s hs2 i1 i2 (A (2*i+s)) (L (2*i+s)) (C (2*i+s)) y (decide (¬ y.ce=0)) _ _ _ _ _ _ _ _ _ _ _ _ _ _ _ _ _ _ _ _ _ _ _ _ _ _ _ _ _ _ _ _ _ _ _ _ _ _ _ _ _ _ _ _ _ _ CHH hP _ (fun v' g ao ca bo cb hb3 hat hgot=>?_);have t0:=hat.cell (i:=0) rfl;have t3:=hat.cell (i:=3) rfl;have t4:=hat.cell (i:=4) rfl;have HB3:Hid (Below w0.heap.size w0 v'):=bth hbs.out hb3;have HG:Hid (Own wr.heap.size v' ao y.vn ca y.V):=hgot.vec;have HS3:Hid (w.heap.size<=wr.heap.size):=(bth B0.out hbs.out).size;clear hat hb3 hgot hP;by_cases z:y.ce=0
     ·have X:=nxt (z0 z);rw [decide_eq_false (fun a=>a z)];clear nxt z0 z;go_wp2_with fail
      go_roundw
      case rel=>exact⟨s+1,by omega,by go_num,HB3.out,X.out⟩
      case measure=>simp [intOf]; omega
     ·rw [decide_eq_true z];have e1:=kd_beq y.kd kd;by_cases g1:y.kd=kd
      ·rw [decide_eq_true g1] at e1;by_cases g2:y.st=v
       ·have e2:(y.st == v)=true:=by simp [g2]
        obtain rfl:t=y:=by
         rw [HY.out];exact HYES.out (2*i+s) (by omega) hns.out (by rw [<- HY.out]; exact decide_eq_true ⟨g1,g2⟩)
        clear nxt z0 z g1 g2;go_wp2_with fail
        go_ret;exact⟨ao,ca,rfl,HG.out.mono HS3.out,bth B0.out HB3.out⟩
       ·have e2:(y.st == v)=false:=by simp [g2]
        have X:=nxt (decide_eq_false fun a=>g2 a.2);clear nxt z0 z g1 g2;go_wp2_with fail
        go_roundw
        case rel=>exact⟨s+1,by omega,by go_num,HB3.out,X.out⟩
        case measure=>simp [intOf]; omega
      ·rw [decide_eq_false g1] at e1;have X:=nxt (decide_eq_false fun a=>g1 a.1);clear nxt z0 z g1;go_wp2_with fail
       go_roundw
       case rel=>exact⟨s+1,by omega,by go_num,HB3.out,X.out⟩
       case measure=>simp [intOf]; omega
    ·have j1:¬ (s:Int)<2:=by omega
     obtain rfl:s=2:=by omega
     go_wp2_with fail
     go_roundw
     case rel=>exact⟨i+1,by omega,by go_num,hbs.out,fun j hj=>hns.out j (by omega)⟩
     case measure=>simp [intOf]; omega
  ·obtain rfl:i=N:=by omega
   obtain rfl:t=zSl:=HNO.out hno.out;go_wp2_with fail
   go_ret;exact⟨none,0,rfl,own_nil _ _ _,bth B0.out hbw.out⟩
end Go.Proofs.YtemlojjkokooeaaGreat
