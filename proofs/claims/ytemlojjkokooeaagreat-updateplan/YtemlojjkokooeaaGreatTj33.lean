import Derived.Test.YtemlojjkokooeaaGreatTj32
set_option maxHeartbeats 4000000
set_option maxRecDepth 100000
namespace Go.Proofs.YtemlojjkokooeaaGreat.Cod.Gf
theorem inv_unique(a b:Nat)(ha:a<256)(hb:b<256)(h:mul a b=1):b=pw a 254:=by
 have h0:a ≠ 0:=by intro e; rw [e,zero_mul] at h; exact absurd h (by decide)
 have e1:mul (pw a 254) (mul a b)=pw a 254:=by rw [h]; exact mul_one _ (pw_lt a 254)
 rw [<- mul_assoc _ _ _ (pw_lt a 254) ha hb,mul_comm _ _ (pw_lt a 254) ha,mul_inv a ha h0,one_mul b hb] at e1;exact e1
theorem pw_ne_zero(a n:Nat)(ha:a<256)(h:a ≠ 0):pw a n ≠ 0:=by
 obtain⟨i,_,rfl⟩:=exists_E a ha h;rw [pw_E]; exact E_ne_zero _
def longTo:Nat->Nat->Nat->Nat
  | 0,_,_=>0
  | k+1,a,b=>longTo k a b ^^^ pick (b.testBit k) (a <<< k)
def redStep (x i:Nat):Nat:=x ^^^ pick (x.testBit (i+8)) (285 <<< i)
def redTo:Nat->Nat->Nat
  | 0,x=>x
  | k+1,x=>redStep (redTo k x) (6-k)
theorem redStep_xor(x y i:Nat):redStep (x ^^^ y) i=redStep x i ^^^ redStep y i:=by
 unfold redStep; rw [Nat.testBit_xor,pick_bxor,xor4]
theorem redTo_xor(k x y:Nat):redTo k (x ^^^ y)=redTo k x ^^^ redTo k y:=by
 induction k with
 | zero=>rfl
 | succ k ih=>show redStep (redTo k (x ^^^ y)) _=redStep _ _ ^^^ redStep _ _; rw [ih,redStep_xor]
theorem redTo_zero(k:Nat):redTo k 0=0:=by
 induction k with
 | zero=>rfl
 | succ k ih=>show redStep (redTo k 0) _=0; rw [ih]; unfold redStep; rw [Nat.zero_testBit]; exact Nat.xor_self 0
theorem redTo_pick(k:Nat)(c:Bool)(x:Nat):redTo k (pick c x)=pick c (redTo k x):=by
 cases c
 ·exact redTo_zero k
 ·rfl
theorem red_shift(k a:Nat)(hk:k<8)(ha:a<256):redTo 7 (a <<< k)=dblTo k a:=by
 have:=all256 (p:=fun a=>(List.range 8).all fun k=>redTo 7 (a <<< k) == dblTo k a) (by decide +kernel) a ha;exact eq_of_beq (List.all_eq_true.1 this k (List.mem_range.2 hk))
theorem red_longTo(k a b:Nat)(hk:k<=8)(ha:a<256):redTo 7 (longTo k a b)=sumTo k a b:=by
 induction k with
 | zero=>exact redTo_zero 7
 | succ k ih =>
  show redTo 7 (longTo k a b ^^^ pick _ _)=sumTo k a b ^^^ pick _ _;rw [redTo_xor,ih (by omega),redTo_pick,red_shift k a (by omega) ha]
theorem red_long(a b:Nat)(ha:a<256):redTo 7 (longTo 8 a b)=mul a b:=red_longTo 8 a b (by decide) ha
theorem longTo_lt(k a b:Nat)(hk:k<=8)(ha:a<256):longTo k a b<32768:=by
 induction k with
 | zero=>show 0<32768; decide
 | succ k ih =>
  refine Nat.xor_lt_two_pow (n:=15) (ih (by omega)) ?_;unfold pick;split
  ·rw [Nat.shiftLeft_eq];have h1:2 ^ k<=2 ^ 7:=Nat.pow_le_pow_right (by decide) (by omega);have h2:a*2 ^ k<=255*2 ^ 7:=Nat.mul_le_mul (by omega) h1;omega
  ·decide
theorem redTo_lt(k x:Nat)(hx:x<32768):redTo k x<32768:=by
 induction k with
 | zero=>exact hx
 | succ k ih =>
  refine Nat.xor_lt_two_pow (n:=15) ih ?_;unfold pick;split
  ·rw [Nat.shiftLeft_eq];have h1:2 ^ (6-k)<=2 ^ 6:=Nat.pow_le_pow_right (by decide) (by omega);have h2:285*2 ^ (6-k)<=285*2 ^ 6:=Nat.mul_le_mul (by omega) h1;omega
  ·decide
end Go.Proofs.YtemlojjkokooeaaGreat.Cod.Gf
namespace Go.Proofs.YtemlojjkokooeaaGreat.Cod
open Go.RowKit
theorem pow_cast(k:Nat):((2:Int) ^ k)=((2 ^ k:Nat):Int):=by rw [Int.natCast_pow]; rfl
theorem div_cast(m k:Nat):(m:Int) / 2 ^ k=((m / 2 ^ k:Nat):Int):=by rw [pow_cast,Int.natCast_ediv]
theorem bit_u8(m k:Nat)(hm:m<256):(bits .and .u8 ((m:Int) / 2 ^ k) 1 == 1)=m.testBit k:=by
 have h1:m / 2 ^ k<256:=Nat.lt_of_le_of_lt (Nat.div_le_self _ _) hm;rw [div_cast,show (1:Int)=((1:Nat):Int) from rfl,u8_and_nat _ _ h1 (by decide),nat_mask1,Nat.testBit_eq_decide_div_mod_eq];by_cases h:m / 2 ^ k % 2=1
 ·rw [h,decide_eq_true rfl]; rfl
 ·rw [decide_eq_false h,show m / 2 ^ k % 2=0 by omega]; rfl
theorem bit_u32(m k:Nat)(hm:m<32768):(bits .and .u32 ((m:Int) / 2 ^ k) 1 == 1)=m.testBit k:=by
 have h1:m / 2 ^ k<32768:=Nat.lt_of_le_of_lt (Nat.div_le_self _ _) hm;rw [div_cast,show (1:Int)=((1:Nat):Int) from rfl,u32_and_nat _ _ (by omega) (by decide),nat_mask1,Nat.testBit_eq_decide_div_mod_eq];by_cases h:m / 2 ^ k % 2=1
 ·rw [h,decide_eq_true rfl]; rfl
 ·rw [decide_eq_false h,show m / 2 ^ k % 2=0 by omega]; rfl
theorem shl_u32(L n k:Nat)(hL:L<32768)(hn:n<512)(hk:k<8):bits .xor .u32 (L:Int) ((n:Int)*2 ^ k % 4294967296)=((L ^^^ n <<< k:Nat):Int):=by
 have h1:2 ^ k<=2 ^ 7:=Nat.pow_le_pow_right (by decide) (by omega);have h2:n*2 ^ k<=511*2 ^ 7:=Nat.mul_le_mul (by omega) h1;have h3:(n:Int)*2 ^ k % 4294967296=((n <<< k:Nat):Int):=by
  rw [pow_cast,Nat.shiftLeft_eq,<- Int.natCast_mul]; omega
 rw [h3,u32_xor_nat _ _ (by omega) (by rw [Nat.shiftLeft_eq]; omega)]
theorem rmul_n(n m:Nat)(w:World)(hn:n<256)(hm:m<256):
  Calls Tryz.prog 321 #[.int .u8 (n:Int),.int .u8 (m:Int)] w fun e w'=>e=.returned (.int .u8 ((Gf.mul n m:Nat):Int))/\w'=w:=by
 go_enter Tryz.func321,Tryz.ntmps321
 go_wp2;go_loop [5,6] (fun x i=>∃ k:Nat,k<=8/\i=.int .u64 k/\x=.int .u32 ((Gf.longTo k n m:Nat):Int)) (fun _ i=>8-(intOf i).toNat)
 case atStart=>exact⟨0,Nat.zero_le _,rfl,rfl⟩
 case round =>
  obtain⟨k,hk,rfl,rfl⟩:=hrel;have hl:Gf.longTo k n m<32768:=Gf.longTo_lt k n m hk hn;by_cases hlt:k<8
  ·have hbit:=bit_u8 m k hm;have HX:Hid (bits .xor .u32 ((Gf.longTo k n m:Nat):Int) ((n:Int)*2 ^ k % 4294967296)=((Gf.longTo k n m ^^^ n <<< k:Nat):Int)):=shl_u32 _ n k hl (by omega) hlt;cases hb:m.testBit k
   ·have HB:Hid (m.testBit k=false):=hb;rw [hb] at hbit;clear hb;go_wp2;go_round
    case rel=>exact⟨k+1,by omega,by go_num,by rw [Gf.longTo,HB.out]; exact congrArg (fun q:Nat=>Value.int .u32 (q:Int)) (Nat.xor_zero _).symm⟩
    case measure=>simp [intOf]; omega
   ·have HB:Hid (m.testBit k=true):=hb;rw [hb] at hbit;clear hb;go_wp2;go_round
    case rel=>exact⟨k+1,by omega,by go_num,by rw [HX.out,Gf.longTo,HB.out]; rfl⟩
    case measure=>simp [intOf]; omega
  ·obtain rfl:k=8:=by omega
   have hL:Gf.longTo 8 n m<32768:=hl;go_wp2;go_loop [5,7] (fun x i=>∃ k:Nat,k<=7/\i=.int .i64 (14-k:Int)/\x=.int .u32 ((Gf.redTo k (Gf.longTo 8 n m):Nat):Int)) (fun _ i=>((intOf i)-7).toNat)
   case atStart=>exact⟨0,Nat.zero_le _,rfl,rfl⟩
   case round =>
    obtain⟨j,hj,rfl,rfl⟩:=hrel;have hR:Gf.redTo j (Gf.longTo 8 n m)<32768:=Gf.redTo_lt j _ hL;by_cases hlt:j<7
    ·have hbit:=bit_u32 (Gf.redTo j (Gf.longTo 8 n m)) (14-j) hR;have HX:Hid (bits .xor .u32 ((Gf.redTo j (Gf.longTo 8 n m):Nat):Int) (285*2 ^ (14-j-8) % 4294967296)=((Gf.redTo j (Gf.longTo 8 n m) ^^^ 285 <<< (14-j-8):Nat):Int)):=shl_u32 _ 285 (14-j-8) hR (by omega) (by omega);have e1:14-j=6-j+8:=by omega
     have e2:14-j-8=6-j:=by omega
     have HE1:Hid (14-j=6-j+8):=e1;have HE2:Hid (14-j-8=6-j):=e2;clear e1 e2;cases hb:(Gf.redTo j (Gf.longTo 8 n m)).testBit (14-j)
     ·have HB:Hid ((Gf.redTo j (Gf.longTo 8 n m)).testBit (14-j)=false):=hb;rw [hb] at hbit;clear hb;go_wp2;go_round
      case rel=>exact⟨j+1,by omega,congrArg (Value.int .i64) (by omega),by
       rw [Gf.redTo,Gf.redStep,<- HE1.out,HB.out]; exact congrArg (fun q:Nat=>Value.int .u32 (q:Int)) (Nat.xor_zero _).symm⟩
      case measure=>simp [intOf]; omega
     ·have HB:Hid ((Gf.redTo j (Gf.longTo 8 n m)).testBit (14-j)=true):=hb;rw [hb] at hbit;clear hb;go_wp2;go_round
      case rel=>exact⟨j+1,by omega,congrArg (Value.int .i64) (by omega),by
       rw [HX.out,HE2.out,Gf.redTo,Gf.redStep,<- HE1.out,HB.out]; rfl⟩
      case measure=>simp [intOf]; omega
    ·obtain rfl:j=7:=by omega
     have HM:Hid (Gf.redTo 7 (Gf.longTo 8 n m)=Gf.mul n m):=Gf.red_long n m hn;have hml:Gf.mul n m<256:=Gf.mul_lt n m hn;go_wp2;go_ret;exact⟨ret_int (by rw [HM.out]; omega),rfl⟩
theorem rinv_n(x:Nat)(w:World)(hx:x<256)(h:x ≠ 0):
  Calls Tryz.prog 319 #[.int .u8 (x:Int)] w fun e w'=>e=.returned (.tuple #[.int .u8 ((Gf.pw x 254:Nat):Int),.int .i64 0])/\w'=w:=by
 obtain⟨v,hv⟩:∃ v,v=Gf.pw x 254:=⟨_,rfl⟩
 have hv1:v<256:=by rw [hv]; exact Gf.pw_lt _ _
 have hv0:1<=v:=by have:=Gf.pw_ne_zero x 254 hx h; omega
 have HI:Hid (Gf.mul x v=1):=by rw [hv]; exact Gf.mul_inv x hx h
 have HU:Hid (∀ b,b<256->Gf.mul x b=1->b=v):=fun b hb e=>by rw [hv]; exact Gf.inv_unique x b hx hb e
 rw [<- hv];clear hv h;go_enter Tryz.func319,Tryz.ntmps319
 go_wp2;go_loop [4] (fun i=>∃ b:Nat,1<=b/\b<=v/\i=.int .i64 b) (fun i=>256-(intOf i).toNat)
 case atStart=>exact⟨1,Nat.le_refl _,hv0,rfl⟩
 case round =>
  obtain⟨b,hb1,hb2,rfl⟩:=hrel;by_cases he:b=v
  ·have hbit:(((Gf.mul x b:Nat):Int) == 1)=true:=by rw [he,HI.out]; rfl
   have HE:Hid (b=v):=he;clear he;go_wp2_with (go_at_call 321; refine(rmul_n _ _ _ (by omega) (by omega)).mono ?_; rintro e w' ⟨rfl,rfl⟩)
   go_ret2;rw [<- HE.out];exact⟨rfl,rfl⟩
  ·have hbit:(((Gf.mul x b:Nat):Int) == 1)=false:=beq_eq_false_iff_ne.2 (fun e=>he (HU.out b (by omega) (by omega)));go_wp2_with (go_at_call 321; refine(rmul_n _ _ _ (by omega) (by omega)).mono ?_; rintro e w' ⟨rfl,rfl⟩)
   go_round
   case rel=>exact⟨b+1,by omega,by omega,by go_num⟩
   case measure=>simp [intOf]; omega
theorem rdiv_n(x y:Nat)(w:World)(hx:x<256)(hy:y<256)(h:y ≠ 0):
  Calls Tryz.prog 288 #[.int .u8 (x:Int),.int .u8 (y:Int)] w fun e w'=>e=.returned (.tuple #[.int .u8 ((Gf.mul x (Gf.pw y 254):Nat):Int),.int .i64 0])/\w'=w:=by
 have H:Hid (y ≠ 0):=h;clear h;have hp:Gf.pw y 254<256:=Gf.pw_lt _ _;go_enter Tryz.func288,Tryz.ntmps288
 go_wp2_with (first | (go_at_call 319; refine(rinv_n _ _ hy H.out).mono ?_; rintro e w' ⟨rfl,rfl⟩) | (go_at_call 321; refine(rmul_n _ _ _ (by omega) (by omega)).mono ?_; rintro e w' ⟨rfl,rfl⟩))
 go_ret2;exact⟨rfl,rfl⟩
end Go.Proofs.YtemlojjkokooeaaGreat.Cod
namespace Go.Proofs.YtemlojjkokooeaaGreat.Cod
theorem Red.full{z:Bool}{n c b:Nat}{A P:M}(h:Red z n A c b P)(hb:n<=b)(k:Nat):Red z n A (c+k) b P:=by
 induction k with
 | zero=>exact h
 | succ k ih=>exact ih.skip fun i h1 h2=>by omega
theorem Red.take0{n c b i0:Nat}{A P:M}(h:Red false n A c b P)(h1:b<=i0)(h2:i0<n)(hne:P i0 c ≠ 0):
  Red false n A (c+1) (b+1) (clr b 1 (fun i=>(K.mul (swp b i0 P i c) ((P i0 c).inv))) (swp b i0 P)) :=
 h.take h1 h2 _ K.one_ne_zero _ hne (fun e=>by cases e) fun i _ _=>by rw [K.mul_assoc,K.inv_mul hne,K.mul_one,K.add_self]
end Go.Proofs.YtemlojjkokooeaaGreat.Cod
namespace Go.Proofs.YtemlojjkokooeaaGreat.Cod
open Go.RowKit
theorem Lst.len{w:World}{lo:Option Addr}{ll n:Nat}{A:Nat->Option Addr}{C L:Nat->Nat}{H:M}(h:Lst w lo ll A C L H)(e:∀ i,i<ll->L i=n):Lst w lo ll A C (fun _=>n) H:=by
 refine⟨fun i hi=>by have:=h.rd i hi; rwa [e i hi] at this,fun hp=>?_⟩;obtain⟨b,off,rfl,hc⟩:=h.at_ hp;exact⟨b,off,rfl,fun i hi=>by rw [hc i hi,e i hi]⟩
theorem drewN_below{w w':World}(h:∃ q,w'=w.drewN q):Below w.heap.size w w':=by obtain⟨q,rfl⟩:=h; exact below_drewN _ _ _
theorem size_set(w:World)(a:Addr)(v:Value):(w.setCell a v).heap.size=w.heap.size:=by simp [World.setCell]
theorem rows_mat{w:World}{B k cols l cap:Nat}{G:Nat->Nat}{H:M}(h:Rows0 w B k cols (.slice (some ⟨l,0,none⟩) k cap) G H):Mat w B w.heap.size l cap k cols G (fun _=>cols) H:=by
 rcases h.lst.2 with ⟨h1,_⟩ | ⟨g,cap',cur,h1,h2,h3,h4,h5,h6,h7⟩
 ·cases h1
 ·cases h1
  have hlt:=(h.lst.lt l rfl).2;refine⟨⟨fun i=>cur.getD i (.slice none 0 0),⟨cur,h3,by rw [h6,Nat.mul_one],fun i hi=>?_⟩,fun i hi=>?_⟩,h4,h.row,h2,hlt,h.los,fun i hi=>(h.row i hi).lt,h.apart⟩
  ·have:i<cur.size:=by omega
   simp [this]
  ·have e:=rowsOf_get k (fun i=>some ⟨G i,0,none⟩) (fun _=>cols) (fun _=>cols) i hi;rw [<- h7,Nat.mul_one,List.getElem?_take_of_lt hi,Array.getElem?_toList] at e;have hc:i<cur.size:=by omega
   rw [Array.getElem?_eq_getElem hc] at e;simp only [Array.getD,hc,dif_pos];exact Option.some.inj e
theorem blank_any(w:World)(rows cols:Nat)(hr:rows<=1000)(hc:cols<=1000):
  Calls Tryz.prog 286 #[.int .i64 (rows:Int),.int .i64 (cols:Int)] w fun e w'=>∃ ao cap,e=.returned (.slice ao rows cap)/\(∃ G,Rows0 w' w.heap.size rows cols (.slice ao rows cap) G (fun _ _=>0))/\Below w.heap.size w w':=by
 obtain⟨j0,hj,hj0,hj1,hj2⟩:=info_parts info34;have hm2:=run_make_row' (P:=Tryz.prog) 36 5 (.int .u8 0) 1 Tryz.underlying36 info5 rfl .i64 .i64 cols (by omega) (by omega);go_enter Tryz.func286,Tryz.ntmps286
 go_wp2;go_loopw [5,6] (fun v i wr=>∃ k:Nat,k<=rows/\i=.int .i64 k/\(∃ ao cap,v=.slice ao k cap)/\Hid (∃ G,Rows0 wr w.heap.size k cols v G (fun _ _=>0))/\Hid (Below w.heap.size w wr)) (fun _ i _=>rows-(intOf i).toNat)
 case atStart=>exact⟨0,Nat.zero_le _,rfl,⟨none,0,rfl⟩,⟨fun _=>0,World.ownsRow_nil _ _ _ _,fun i hi=>absurd hi (Nat.not_lt_zero i),fun i hi=>absurd hi (Nat.not_lt_zero i),fun i j hi=>absurd hi (Nat.not_lt_zero i)⟩,Below.refl _ _⟩
 case round =>
  obtain⟨k,hk,rfl,⟨ao,cap,rfl⟩,hrows,hbel⟩:=hrel;by_cases hlt:k<rows
  ·obtain⟨G,hrr⟩:=hrows.out;have HRR:Hid (Rows0 wr w.heap.size k cols (.slice ao k cap) G (fun _ _=>0)):=hrr;have hs1:=hbel.out.size;obtain⟨wa,hwa⟩:∃ wa,wa=wr.alloc (.cells (madeCells #[.int .u8 0] cols) 5):=⟨_,rfl⟩
   have hmk:=hm2 wr;rw [<- hwa] at hmk;have HSA:Hid (wa.heap.size=wr.heap.size+1):=by rw [hwa]; exact(by simp:(wr.alloc (.cells (madeCells #[.int .u8 0] cols) 5)).heap.size=wr.heap.size+1)
   obtain⟨XS,hXS⟩:∃ XS,XS=rowsOf k (fun i=>some ⟨G i,0,none⟩) (fun _=>cols) (fun _=>cols):=⟨_,rfl⟩
   have HOW:Hid (∀ o,(wa.alloc o).ownsRow w.heap.size 36 1 (.slice ao k cap) k XS):=fun o=>by rw [hwa,hXS]; exact(hrr.lst.alloc _).alloc o
   have HXS:Hid (XS=rowsOf k (fun i=>some ⟨G i,0,none⟩) (fun _=>cols) (fun _=>cols)):=hXS;have HWA:Hid (wa=wr.alloc (.cells (madeCells #[.int .u8 0] cols) 5)):=hwa;clear hrr hrows hXS hwa;have HM2:Hid (∀ w,(Instr.makeSlice 36 (.int .i64 (cols:Int)) (.int .i64 (cols:Int))).run Tryz.prog w=.ok (.slice (some ⟨w.heap.size,0,none⟩) cols cols) (w.alloc (.cells (madeCells #[.int .u8 0] cols) 5))):=hm2;clear hm2;go_wp2_with (at_builtin; refine wpList_append_lies _ (by rfl) (.tmp 12) (.tmp 15) 33 (by rfl) w.heap.size 36 j0 (.slice none 0 0) 1 24 Tryz.underlying33 hj hj0 hj1 hj2 (by rfl) (by decide) (.slice ao k cap) k XS (by rfl) (HOW.out _) ⟨wa.heap.size,0,none⟩ 1 1 [.slice (some ⟨wr.heap.size,0,none⟩) cols cols] (by rfl) (by rfl) (World.news_of_block (heap_alloc_new wa _)) (by simp [Value.oneCell']) (by decide) (by unfold maxLen; omega) (by omega) (by have:=HSA.out; simp; omega) (wa.heap.size+1) (by simp) ?_; intro g5 cap5 w5 hown5 hgrow5 _ _)
   have HR5:Hid (∃ G,Rows0 w5 w.heap.size (k+1) cols (.slice (some ⟨g5,0,none⟩) (k+1) cap5) G (fun _ _=>0)):=by
    rw [HWA.out] at hgrow5;exact⟨_,HRR.out.step (H:=fun _ _=>0) hs1 (by unfold maxLen; omega) (fun _ _=>rfl) (by rw [<- HXS.out]; exact hown5) hgrow5⟩
   have HB5:Hid (Below w.heap.size w w5):=by
    rw [HWA.out] at hgrow5;exact(more (more hbel.out _) _).grown hgrow5 (by simp; omega) (fun q hq=>(HRR.out.lst.lt q hq).1)
   clear hown5 hgrow5;go_wp2_with fail
   go_roundw
   case rel=>exact⟨k+1,by omega,by go_num,⟨_,_,rfl⟩,HR5,HB5⟩
   case measure=>simp [intOf]; omega
  ·obtain rfl:k=rows:=by omega
   go_wp2;go_ret;exact⟨ao,cap,rfl,hrows.out,hbel.out⟩
theorem Mat.upper{w:World}{B T T' l cl rows cols:Nat}{G U:Nat->Nat}{H:M}(h:Mat w B T l cl rows cols G U H)(hb:T<=T'):Mat w B T' l cl rows cols G U H :=
 ⟨h.lst,h.room,h.row,h.lo,Nat.lt_of_lt_of_le h.hi hb,h.los,fun i hi=>Nat.lt_of_lt_of_le (h.his i hi) hb,h.apart⟩
theorem Mat.keep{w:World}{B T l cl rows cols:Nat}{G U:Nat->Nat}{H:M}{k:Nat}(h:Mat w B T l cl rows cols G U H)(hk:k<rows){w0:World}(hb:Below B w0 w)(hB:B<=w.heap.size)(j:Nat)(v:Value):Below B w0 (w.setCell ⟨G k,j,none⟩ v) :=
 hb.trans (((Keeps.refl B T w).setCell (h.los k hk) (h.his k hk) j v).below hB (Nat.le_refl _))
theorem blank_mat(w:World)(rows cols:Nat)(hr:rows<=1000)(hc:cols<=1000)(h1:1<=rows):
  Calls Tryz.prog 286 #[.int .i64 (rows:Int),.int .i64 (cols:Int)] w fun e w'=>∃ l cap G,e=.returned (.slice (some ⟨l,0,none⟩) rows cap)/\Mat w' w.heap.size w'.heap.size l cap rows cols G (fun _=>cols) (fun _ _=>0)/\Below w.heap.size w w':=by
 refine(blank_any w rows cols hr hc).mono ?_;rintro e w' ⟨ao,cap,rfl,⟨G,h⟩,hb⟩;rcases h.lst.2 with ⟨_,h2⟩ | ⟨g,cap',cur,e,_⟩
 ·omega
 ·cases e
  exact⟨g,cap,G,rfl,rows_mat h,hb⟩
theorem ref_made{w w':World}{T l n cap cols:Nat}{G U:Nat->Nat}{H:M}{err:Int}(hm:Mat w' w.heap.size T l cap n cols G U H)(hT:T<=w'.heap.size)(hb:Below w.heap.size w w'):
  Made w true err n cols H (.returned (.tuple #[.slice (some ⟨l,0,none⟩) n cap,.int .i64 0])) w':=⟨_,_,rfl,.inr ⟨l,G,U,rfl,hm.upper hT⟩,hb⟩
theorem rcheck_any(w:World)(lo:Option Addr)(ll cl:Nat)(A:Nat->Option Addr)(C L:Nat->Nat)(H:M)(hl:Lst w lo ll A C L H):
  Calls Tryz.prog 285 #[.slice lo ll cl] w fun e w'=>e=.returned (.int .i64 (errB (okM ll L) 30))/\∃ q,w'=w.drewN q:=by
 by_cases h1:1<=ll/\ll<=32
 ·obtain⟨b,off,rfl,hcl⟩:=hl.at_ (by omega);have HCL:Hid (∀ i,i<ll->w.cell? ⟨b,off+i,none⟩=some (.slice (A i) (L i) (C i))):=hcl;have c0:=hcl 0 (by omega);rw [Nat.add_zero] at c0;have i0:0<ll:=by omega
  have i1:(0:Int)<(ll:Int):=by omega
  obtain⟨h1a,h1b⟩:=h1;obtain⟨l0,hl0⟩:∃ l0,l0=L 0:=⟨_,rfl⟩
  rw [<- hl0] at c0;by_cases h2:1<=l0/\l0<=32
  ·by_cases h3:∀ i,i<ll->L i=l0
   ·rw [show errB (okM ll L) 30=0 by rw [show okM ll L=true from decide_eq_true ⟨h1a,h1b,by rw [<- hl0]; exact h2.1,by rw [<- hl0]; exact h2.2,by rw [<- hl0]; exact h3⟩]; rfl];have H3:Hid (∀ i,i<ll->L i=l0):=h3;obtain⟨h2a,h2b⟩:=h2;clear hcl hl h3 hl0;have hq:((l0:Int) != (l0:Int))=false:=by simp
    go_enter Tryz.func285,Tryz.ntmps285
    go_wp2;go_loopw [3] (fun i wr=>∃ k:Nat,k<=ll/\i=.int .i64 k/\Hid (∃ q,wr=w.drewN q)) (fun i _=>ll-(intOf i).toNat)
    case atStart=>exact⟨0,Nat.zero_le _,rfl,0,rfl⟩
    case round =>
     obtain⟨k,hk,rfl,hdr⟩:=hrel;have d0:wr.cell? ⟨b,off,none⟩=some (.slice (A 0) l0 (C 0)):=held c0 (drewN_below hdr.out);by_cases hlt:k<ll
     ·have ck:=held (HCL.out k hlt) (drewN_below hdr.out);rw [H3.out k hlt] at ck;have i2:(0:Int)<=(k:Int):=by omega
      have i3:(k:Int)<(ll:Int):=by omega
      go_wp2;go_quiet (fail)
      go_wp2;go_roundw
      case rel =>
       obtain⟨q,hq⟩:=hdr.out;exact⟨k+1,by omega,by go_num,q+nq,by rw [hq]; simp [World.drewN,Nat.add_assoc]⟩
      case measure=>simp [intOf]; omega
     ·go_wp2;go_ret;exact⟨rfl,hdr.out⟩
   ·rw [show errB (okM ll L) 30=30 by rw [show okM ll L=false from decide_eq_false fun g=>h3 (by rw [hl0]; exact g.2.2.2.2)]; rfl];obtain⟨q,hq,hne,heq⟩:=first_not h3;have H3:Hid (∀ i,i<q->L i=l0):=heq;have HN:Hid (¬ L q=l0):=hne;obtain⟨h2a,h2b⟩:=h2;clear hcl hl h3 hl0 heq hne;have hq0:((l0:Int) != (l0:Int))=false:=by simp
    go_enter Tryz.func285,Tryz.ntmps285
    go_wp2;go_loopw [3] (fun i wr=>∃ k:Nat,k<=q/\i=.int .i64 k/\Hid (∃ q,wr=w.drewN q)) (fun i _=>ll-(intOf i).toNat)
    case atStart=>exact⟨0,Nat.zero_le _,rfl,0,rfl⟩
    case round =>
     obtain⟨k,hk,rfl,hdr⟩:=hrel;have d0:wr.cell? ⟨b,off,none⟩=some (.slice (A 0) l0 (C 0)):=held c0 (drewN_below hdr.out);have ck:=held (HCL.out k (by omega)) (drewN_below hdr.out);have i2:(0:Int)<=(k:Int):=by omega
     have i3:(k:Int)<(ll:Int):=by omega
     by_cases hlt:k<q
     ·rw [H3.out k hlt] at ck;go_wp2;go_quiet (fail)
      go_wp2;go_roundw
      case rel =>
       obtain⟨q',hq'⟩:=hdr.out;exact⟨k+1,by omega,by go_num,q'+nq,by rw [hq']; simp [World.drewN,Nat.add_assoc]⟩
      case measure=>simp [intOf]; omega
     ·obtain rfl:k=q:=by omega
      have hb:((L k:Int) != (l0:Int))=true:=by have:=HN.out; simp; omega
      go_wp2;go_quiet (fail)
      go_wp2;go_ret;obtain⟨q',hq'⟩:=hdr.out;exact⟨rfl,q'+nq,by rw [hq']; simp [World.drewN,Nat.add_assoc]⟩
  ·rw [show errB (okM ll L) 30=30 by rw [show okM ll L=false from decide_eq_false fun g=>h2 (by rw [hl0]; exact⟨g.2.2.1,g.2.2.2.1⟩)]; rfl];clear hcl hl hl0;by_cases h2a:1<=l0
   ·have h2b:32<l0:=by omega
    clear h2;go_enter Tryz.func285,Tryz.ntmps285
    go_wp2;go_ret;exact⟨rfl,0,rfl⟩
   ·have h2b:l0<1:=by omega
    clear h2 h2a;go_enter Tryz.func285,Tryz.ntmps285
    go_wp2;go_ret;exact⟨rfl,0,rfl⟩
 ·rw [show errB (okM ll L) 30=30 by rw [show okM ll L=false from decide_eq_false fun g=>h1 ⟨g.1,g.2.1⟩]; rfl];clear hl;by_cases h1a:1<=ll
  ·have h1b:32<ll:=by omega
   clear h1;go_enter Tryz.func285,Tryz.ntmps285
   go_wp2;go_ret;exact⟨rfl,0,rfl⟩
  ·have h1b:ll<1:=by omega
   clear h1 h1a;go_enter Tryz.func285,Tryz.ntmps285
   go_wp2;go_ret;exact⟨rfl,0,rfl⟩
def fill (F:M) (k l:Nat):M:=fun i j=>if i<k\/(i=k/\j<l) then F i j else 0
theorem fill_zero(F:M):fill F 0 0=fun _ _=>0:=by funext i j; unfold fill; rw [if_neg (by omega)]
theorem fill_store(F:M)(k l:Nat)(i j:Nat):(if i=k/\j=l then F k l else fill F k l i j)=fill F k (l+1) i j:=by
 unfold fill;by_cases e:i=k/\j=l
 ·rw [if_pos e,if_pos (.inr ⟨e.1,by omega⟩),e.1,e.2]
 ·rw [if_neg e];by_cases g:i<k\/i=k/\j<l
  ·rw [if_pos g,if_pos (by omega)]
  ·rw [if_neg g,if_neg (by omega)]
theorem fill_row(F:M)(k cols i j:Nat)(hj:j<cols):fill F k cols i j=fill F (k+1) 0 i j:=by
 unfold fill;by_cases g:i<k\/i=k/\j<cols
 ·rw [if_pos g,if_pos (by omega)]
 ·rw [if_neg g,if_neg (by omega)]
theorem fill_all(F:M)(rows i j:Nat)(hi:i<rows):fill F rows 0 i j=F i j:=by unfold fill; rw [if_pos (.inl hi)]
theorem rinv_k(a:K)(w:World)(h:a ≠ 0):Calls Tryz.prog 319 #[.int .u8 (a.n:Int)] w fun e w'=>e=.returned (.tuple #[.int .u8 (a.inv.n:Int),.int .i64 0])/\w'=w:=rinv_n a.n w a.lt (K.ne_zero h)
theorem rmul_k(a b:K)(w:World):Calls Tryz.prog 321 #[.int .u8 (a.n:Int),.int .u8 (b.n:Int)] w fun e w'=>e=.returned (.int .u8 (((K.mul a b)).n:Int))/\w'=w:=rmul_n a.n b.n w a.lt b.lt
theorem rdiv_k(a b:K)(w:World)(h:b ≠ 0):Calls Tryz.prog 288 #[.int .u8 (a.n:Int),.int .u8 (b.n:Int)] w fun e w'=>e=.returned (.tuple #[.int .u8 (((K.mul a b.inv)).n:Int),.int .i64 0])/\w'=w:=rdiv_n a.n b.n w a.lt b.lt (K.ne_zero h)
theorem xor_k(a b:K):bits .xor .u8 (a.n:Int) (b.n:Int)=((((K.add a b)).n:Nat):Int):=u8_xor_nat a.n b.n a.lt b.lt
theorem rcauchy_any(w:World)(k r:Int):Calls Tryz.prog 284 #[.int .i64 k,.int .i64 r] w (Made w (okN k 12 && okN r 4) 2 r.toNat k.toNat (cau k.toNat)):=by
 cases hok:okN k 12
 ·have h:=of_decide_eq_false hok;rw [Bool.false_and];by_cases h1:k<1
  ·clear hok h;go_enter Tryz.func284,Tryz.ntmps284
   go_wp2;go_ret2;exact made_no (Below.refl _ _)
  ·have h2:12<k:=by omega
   clear h hok;go_enter Tryz.func284,Tryz.ntmps284
   go_wp2;go_ret2;exact made_no (Below.refl _ _)
 obtain⟨ha,hb⟩:=of_decide_eq_true hok;cases hok2:okN r 4
 ·have h:=of_decide_eq_false hok2;rw [Bool.and_false];by_cases h1:r<1
  ·clear hok hok2 h;go_enter Tryz.func284,Tryz.ntmps284
   go_wp2;go_ret2;exact made_no (Below.refl _ _)
  ·have h2:4<r:=by omega
   clear h hok hok2;go_enter Tryz.func284,Tryz.ntmps284
   go_wp2;go_ret2;exact made_no (Below.refl _ _)
 obtain⟨hc,hd⟩:=of_decide_eq_true hok2;obtain⟨k,rfl⟩:=Int.eq_ofNat_of_zero_le (show 0<=k by omega);obtain⟨r,rfl⟩:=Int.eq_ofNat_of_zero_le (show 0<=r by omega);rw [Int.toNat_natCast,Int.toNat_natCast];clear hok hok2;go_enter Tryz.func284,Tryz.ntmps284
 go_wp2_with fail
 refine(blank_mat w r k (by omega) (by omega) (by omega)).mono ?_;rintro e w1 ⟨l,cap,G,rfl,hm,b1⟩;have HM:Hid (Mat w1 w.heap.size w1.heap.size l cap r k G (fun _=>k) (fun _ _=>0)):=hm;have HB:Hid (Below w.heap.size w w1):=b1;clear hm b1;go_wp2_with fail
 go_loopw [7] (fun i wr=>∃ p:Nat,p<=r/\i=.int .i64 p/\Hid (Mat wr w.heap.size w1.heap.size l cap r k G (fun _=>k) (fill (cau k) p 0))/\Hid (Below w.heap.size w wr/\w1.heap.size<=wr.heap.size)) (fun i _=>r-(intOf i).toNat)
 case atStart=>exact⟨0,Nat.zero_le _,rfl,by rw [fill_zero]; exact HM.out,HB.out,Nat.le_refl _⟩
 case round =>
  obtain⟨p,hp,rfl,hmat,hbel⟩:=hrel;by_cases hlt:p<r
  ·obtain⟨w2,rfl⟩:∃ x,x=wr:=⟨wr,rfl⟩
   go_wp2;go_loopw [8] (fun i wr=>∃ q:Nat,q<=k/\i=.int .i64 q/\Hid (Mat wr w.heap.size w1.heap.size l cap r k G (fun _=>k) (fill (cau k) p q))/\Hid (Below w.heap.size w wr/\w1.heap.size<=wr.heap.size)) (fun i _=>k-(intOf i).toNat)
   case atStart=>exact⟨0,Nat.zero_le _,rfl,hmat.out,hbel.out⟩
   case round =>
    obtain⟨q,hq,rfl,hmat2,hbel2⟩:=hrel;by_cases hqk:q<k
    ·have c1:=hmat2.out.cell_l hlt;have c2:=(hmat2.out.row p hlt).cell hqk;have z2:=(hmat2.out.row p hlt).frozen q;have e1:((K.of (k+p)).n:Int)=(k:Int)+(p:Int):=by rw [K.of_n _ (by omega)]; omega
     have e2:((K.of q).n:Int)=(q:Int):=by rw [K.of_n _ (by omega)]
     have hne:(K.add (K.of (k+p)) (K.of q)) ≠ 0:=K.sub_ne fun e=>by have:=of_inj (by omega) (by omega) e; omega
     have HI:Hid (∀ w',Calls Tryz.prog 319 #[.int .u8 (bits .xor .u8 ((k:Int)+(p:Int)) (q:Int))] w' fun e w''=>e=.returned (.tuple #[.int .u8 ((cau k p q).n:Int),.int .i64 0])/\w''=w'):=fun w'=>by rw [<- e1,<- e2,xor_k]; exact rinv_k _ w' hne
     clear e1 e2 hne;have m0:IntKind.i64.wrap ((k:Int)+(p:Int))=(k:Int)+(p:Int):=by rw [IntKind.wrap_i64]; omega
     have m1:IntKind.u8.wrap ((k:Int)+(p:Int))=(k:Int)+(p:Int):=by rw [IntKind.wrap_u8]; omega
     have m2:IntKind.u8.wrap (q:Int)=(q:Int):=by rw [IntKind.wrap_u8]; omega
     have i1:(0:Int)<=(p:Int):=by omega
     have i2:(p:Int)<(r:Int):=by omega
     have i3:(0:Int)<=(q:Int):=by omega
     have i4:(q:Int)<(k:Int):=by omega
     obtain⟨X,hX⟩:∃ X,X=cau k p q:=⟨_,rfl⟩
     rw [<- hX] at HI;have HX:Hid (X=cau k p q):=hX;clear hX;go_wp2;have kk:∀ v,(wr.setCell ⟨G p,q,none⟩ v).cell? ⟨l,p,none⟩=some (.slice (some ⟨G p,0,none⟩) k k):=fun v=>(World.cell?_of_block (Below.heap_setCell _ _ _ _ (by simp; exact fun e=>hmat2.out.ne_l hlt e.symm))).trans c1;have kd:∀ v,(wr.drew.setCell ⟨G p,q,none⟩ v).cell? ⟨l,p,none⟩=some (.slice (some ⟨G p,0,none⟩) k k):=kk;go_region_held3 (fun w'=>w'.cell? ⟨l,p,none⟩=some (.slice (some ⟨G p,0,none⟩) k k)) (go_keep) ((go_at_call 319; refine(HI.out _).mono ?_; rintro e w' ⟨rfl,hw'⟩; obtain rfl:=hw'.symm))
     go_wp2;go_roundw
     case rel=>exact⟨q+1,by omega,by go_num,((hmat2.out.store hlt X).congr (fun i j _ _=>by rw [HX.out]; exact fill_store (cau k) p q i j)).below (bdw _ _),below_step (hmat2.out.keep hlt hbel2.out.1 hbel2.out.1.size q _) (bdw _ _) (by rw [size_set]; exact hbel2.out.1.size),by show _<=(wr.setCell _ _).heap.size; rw [size_set]; exact hbel2.out.2⟩
     case measure=>simp [intOf]; omega
    ·obtain rfl:q=k:=by omega
     go_wp2;go_roundw
     case rel=>exact⟨p+1,by omega,by go_num,hmat2.out.congr (fun i j _ hj=>fill_row (cau q) p q i j hj),hbel2.out⟩
     case measure=>simp [intOf]; omega
  ·obtain rfl:p=r:=by omega
   go_wp2;go_ret2;exact ref_made (hmat.out.congr fun i j hi _=>fill_all (cau k) p i j hi) hbel.out.2 hbel.out.1
theorem cleared_any(w:World)(g q n u v c:Nat)(f h:Nat->K)(hn:n<=1000)(hc:c<n)(hf:Own w g n u f)(hh:Own w q n v h)(hne:g ≠ q)(h0:h c ≠ 0):
  Calls Tryz.prog 320 #[.slice (some ⟨g,0,none⟩) n u,.slice (some ⟨q,0,none⟩) n v,.int .i64 (c:Int)] w fun e w'=>e=.returned (.tuple #[])/\Own w' g n u (plus f ((K.mul (f c) ((h c).inv))) h)/\Keeps g (g+1) w w':=by
 have HF:Hid (Own w g n u f):=hf;have HH:Hid (Own w q n v h):=hh;have c1:=hf.cell hc;have c2:=hh.cell hc;have HD:Hid (∀ m,Calls Tryz.prog 288 #[.int .u8 ((f c).n:Int),.int .u8 ((h c).n:Int)] (w.drewN m) fun e w'=>e=.returned (.tuple #[.int .u8 (((K.mul (f c) ((h c).inv))).n:Int),.int .i64 0])/\w'=w.drewN m):=fun m=>rdiv_k _ _ _ h0;obtain⟨S,hS⟩:∃ S,S=(K.mul (f c) ((h c).inv)):=⟨_,rfl⟩
 rw [<- hS] at HD ⊢;clear hf hh h0 hS;have i1:(0:Int)<=(c:Int):=by omega
 have i2:(c:Int)<(n:Int):=by omega
 go_enter Tryz.func320,Tryz.ntmps320
 go_wp2;go_quiet (first | (go_at_call 288; exact Calls.quiet_of_same (HD.out _)))
 have HF1:Hid (Own (w.drewN nq) g n u f):=HF.out.below (below_drewN _ _ _);have HH1:Hid (Own (w.drewN nq) q n v h):=HH.out.below (below_drewN _ _ _);have HK1:Hid (Keeps g (g+1) w (w.drewN nq)):=(Keeps.refl _ _ w).drewN nq;clear HD c1 c2 HF HH;generalize w.drewN nq=w1 at *
 go_wp2;go_loopw [8] (fun i wr=>∃ k:Nat,k<=n/\i=.int .i64 k/\Hid (Own wr g n u (upto k (plus f S h) f))/\Hid (Keeps g (g+1) w1 wr)) (fun i _=>n-(intOf i).toNat)
 case atStart=>exact⟨0,Nat.zero_le _,rfl,by rw [upto_zero]; exact HF1.out,Keeps.refl _ _ _⟩
 case round =>
  obtain⟨k,hk,rfl,hown,hkeep⟩:=hrel;by_cases hlt:k<n
  ·have d1:wr.cell? ⟨g,k,none⟩=some (.int .u8 ((f k).n:Int)):=by have:=hown.out.cell hlt; rwa [upto_at] at this
   have d2:wr.cell? ⟨q,k,none⟩=some (.int .u8 ((h k).n:Int)):=(HH1.out.keeps hkeep.out (by omega)).cell hlt;have z1:=hown.out.frozen k;have HX:Hid (bits .xor .u8 ((f k).n:Int) (((K.mul S (h k))).n:Int)=(((plus f S h k).n:Nat):Int)):=xor_k (f k) ((K.mul S (h k)));have j1:(0:Int)<=(k:Int):=by omega
   have j2:(k:Int)<(n:Int):=by omega
   go_wp2;refine wp_region_still_tail 14 (by kernel_rfl) (by kernel_rfl) ?_;simp only [List.take_succ_cons,List.take_zero,List.drop_succ_cons,List.drop_zero]
   repeat still_step
   still_call (rmul_k S (h k) _)
   repeat still_step
   refine wpStill_nil ?_;go_wp2;go_roundw
   case rel=>exact⟨k+1,by omega,by go_num,by rw [HX.out]; exact hown.out.store (f:=plus f S h),(hkeep.out.setCell (Nat.le_refl _) (by omega) k _).drew⟩
   case measure=>simp [intOf]; omega
  ·obtain rfl:k=n:=by omega
   go_wp2;go_end0
   exact⟨rfl,hown.out.all,HK1.out.trans hkeep.out⟩
theorem swp_comm(b i0:Nat)(X:M):swp b i0 X=swp i0 b X:=by
 funext i
 unfold swp;by_cases h:i=b
 ·by_cases g:i=i0
  ·rw [if_pos h,if_pos g]; rw [<- h,<- g]
  ·rw [if_pos h,if_neg g,if_pos h]
 ·by_cases g:i=i0
  ·rw [if_neg h,if_pos g,if_pos g]
  ·rw [if_neg h,if_neg g,if_neg g,if_neg h]
def clrT (b c k:Nat) (H:M) (i:Nat):Nat->K:=if i=b then H b else if i<k then plus (H i) ((K.mul (H i c) ((H b c).inv))) (H b) else H i
theorem steps_any(w:World)(B T l cl rows cols C:Nat)(G U:Nat->Nat)(A:M)(hr:rows<=1000)(hc:cols<=1000)(hC:C<=cols)(hm:Mat w B T l cl rows cols G U A):
  Calls Tryz.prog 287 #[.slice (some ⟨l,0,none⟩) rows cl,.int .i64 (C:Int)] w fun e w'=>∃ b P G U,e=.returned (.int .i64 ((b:Nat):Int))/\Red false rows A C b P/\Mat w' B T l cl rows cols G U P/\Keeps B T w w':=by
 have HM:Hid (Mat w B T l cl rows cols G U A):=hm;clear hm;go_enter Tryz.func287,Tryz.ntmps287
 go_wp2;go_loopw [5,6] (fun x i wr=>∃ c b:Nat,c<=C/\b<=rows/\i=.int .i64 c/\x=.int .i64 b/\Hid (∃ P G U,Red false rows A c b P/\Mat wr B T l cl rows cols G U P)/\Hid (Keeps B T w wr)) (fun _ i _=>C-(intOf i).toNat)
 case atStart=>exact⟨0,0,Nat.zero_le _,Nat.zero_le _,rfl,rfl,⟨A,G,U,Red.start _ _ _,HM.out⟩,Keeps.refl _ _ _⟩
 case round =>
  obtain⟨c,b,hcC,hbr,rfl,rfl,hall,hkeep⟩:=hrel;by_cases hgo:c<C/\b<rows
  ·obtain⟨hlt,hb⟩:=hgo;obtain⟨P,G,U,hred,hmat⟩:=hall.out;have HRed:Hid (Red false rows A c b P):=hred;have HMat:Hid (Mat wr B T l cl rows cols G U P):=hmat
   clear hall hred hmat
   go_wp2;go_loop [7] (fun x=>∃ j:Nat,j<=rows/\b<=j/\x=.int .i64 j/\Hid (∀ i,b<=i->i<j->P i c=0)) (fun x=>rows-(intOf x).toNat)
   case atStart=>exact⟨b,hbr,Nat.le_refl _,rfl,fun i h1 h2=>by omega⟩
   case round =>
    obtain⟨j,hjr,hbj,rfl,hz⟩:=hrel;by_cases hj:j<rows
    ·have e1:=HMat.out.cell_l hj;have e2:=(HMat.out.row j hj).cell (show c<cols by omega);have i1:(0:Int)<=(j:Int):=by omega
     have i2:(j:Int)<(rows:Int):=by omega
     have i3:(0:Int)<=(c:Int):=by omega
     have i4:(c:Int)<(cols:Int):=by omega
     by_cases hp:P j c=0
     ·have hn0:(((P j c).n:Int) == 0)=true:=by rw [hp]; rfl
      go_wp2;go_round
      case rel=>exact⟨j+1,by omega,by omega,by go_num,fun i h1 h2=>(Nat.lt_or_ge i j).elim (fun h=>hz.out i h1 h) (fun h=>by rw [show i=j by omega]; exact hp)⟩
      case measure=>simp [intOf]; omega
     ·have hn0:(((P j c).n:Int) == 0)=false:=by have:=K.ne_zero hp; simp; omega
      have HP:Hid (¬ P j c=0):=hp;have e3:=HMat.out.cell_l hb;have z1:=HMat.out.frozen_l b;have z2:=HMat.out.frozen_l j;have i5:(0:Int)<=(b:Int):=by omega
      have i6:(b:Int)<(rows:Int):=by omega
      have hjq:((j:Int) == (rows:Int))=false:=by simp; omega
      clear hp;have z3:(wr.setCell ⟨l,j,none⟩ (.slice (some ⟨G b,0,none⟩) cols (U b))).cell? ⟨l,b,none⟩=some (.slice (some ⟨G b,0,none⟩) cols (U b)):=by
       obtain⟨h,hr,hh⟩:=HMat.out.lst;rw [(hr.set j _).cell (i:=b) (Nat.lt_of_lt_of_le hb HMat.out.room)];show some (if b=j then _ else h b)=_;split
       ·rfl
       ·rw [hh b hb]
      obtain⟨w2,hw2⟩:∃ w2,w2=(wr.setCell ⟨l,j,none⟩ (.slice (some ⟨G b,0,none⟩) cols (U b))).setCell ⟨l,b,none⟩ (.slice (some ⟨G j,0,none⟩) cols (U j)):=⟨_,rfl⟩
      have HM2:Hid (Mat w2 B T l cl rows cols (exch j b G) (exch j b U) (swp b j P)):=by rw [hw2,swp_comm]; exact HMat.out.swap hj hb
      have HK2:Hid (Keeps B T w w2):=by rw [hw2]; exact(hkeep.out.setCell HMat.out.lo HMat.out.hi j _).setCell HMat.out.lo HMat.out.hi b _
      go_wp2;rw [<- hw2];clear hw2 z3;obtain⟨Q,hQ⟩:∃ Q,Q=swp b j P:=⟨_,rfl⟩
      have HQ:Hid (Q=swp b j P):=hQ;rw [<- hQ] at HM2;have HQB:Hid (Q b c ≠ 0):=by rw [hQ]; show (swp b j P b) c ≠ 0; rw [show swp b j P b=P j from if_pos rfl]; exact HP.out
      clear hQ;obtain⟨G2,hG2⟩:∃ G2,G2=exch j b G:=⟨_,rfl⟩
      obtain⟨U2,hU2⟩:∃ U2,U2=exch j b U:=⟨_,rfl⟩
      rw [<- hG2,<- hU2] at HM2;clear hG2 hU2;go_loopw [9] (fun i wr=>∃ q:Nat,q<=rows/\i=.int .i64 q/\Hid (Mat wr B T l cl rows cols G2 U2 (clrT b c q Q))/\Hid (Keeps B T w wr)) (fun i _=>rows-(intOf i).toNat)
      case atStart=>exact⟨0,Nat.zero_le _,rfl,HM2.out.congr (fun i j _ _=>by
       unfold clrT;by_cases e:i=b
       ·rw [if_pos e,e]
       ·rw [if_neg e,if_neg (Nat.not_lt_zero i)]),HK2.out⟩
      case round =>
       obtain⟨q,hq,rfl,hmat,hkeep3⟩:=hrel;by_cases hqr:q<rows
       ·have f1:=hmat.out.cell_l hqr;have f2:=hmat.out.cell_l hb;have k1:(0:Int)<=(q:Int):=by omega
        have k2:(q:Int)<(rows:Int):=by omega
        by_cases hqb:q=b
        ·subst hqb;have hbq:((q:Int) != (q:Int))=false:=by simp
         go_wp2;go_roundw
         case rel=>exact⟨q+1,by omega,by go_num,hmat.out.congr (fun i j _ _=>by
          unfold clrT;by_cases e:i=q
          ·rw [if_pos e,if_pos e]
          ·rw [if_neg e,if_neg e];by_cases e':i<q
           ·rw [if_pos e',if_pos (by omega)]
           ·rw [if_neg e',if_neg (by omega)]),hkeep3.out⟩
         case measure=>simp [intOf]; omega
        ·have hbq:((q:Int) != (b:Int))=true:=by simp; omega
         have hcq:clrT b c q Q q=Q q:=by unfold clrT; rw [if_neg hqb,if_neg (by omega)]
         have hcb:clrT b c q Q b=Q b:=by unfold clrT; rw [if_pos rfl]
         have HT:Hid (Calls Tryz.prog 320 #[.slice (some ⟨G2 q,0,none⟩) cols (U2 q),.slice (some ⟨G2 b,0,none⟩) cols (U2 b),.int .i64 (c:Int)] wr.drew fun e w'=>e=.returned (.tuple #[])/\Own w' (G2 q) cols (U2 q) (plus (Q q) ((K.mul (Q q c) ((Q b c).inv))) (Q b))/\Keeps (G2 q) (G2 q+1) wr.drew w'):=by
          refine cleared_any wr.drew (G2 q) (G2 b) cols (U2 q) (U2 b) c (Q q) (Q b) hc (by omega) ?_ ?_ (hmat.out.apart q b hqr hb hqb) HQB.out
          ·have:=(hmat.out.row q hqr).below (bdw _ wr)
           rwa [hcq] at this
          ·have:=(hmat.out.row b hb).below (bdw _ wr)
           rwa [hcb] at this
         clear hcq hcb;go_wp2;refine wp_region_still_tail 9 (by kernel_rfl) (by kernel_rfl) ?_;simp only [List.take_succ_cons,List.take_zero,List.drop_succ_cons,List.drop_zero]
         repeat still_step
         refine wpStill_nil ?_;go_wp2_with (go_at_call 320; refine HT.out.mono ?_; rintro e w4 ⟨rfl,hown2,hkeep2⟩)
         have HM4:Hid (Mat w4 B T l cl rows cols G2 U2 (clrT b c (q+1) Q)):=((hmat.out.below (bdw _ wr)).put hqr hown2 hkeep2).congr (fun i j _ _=>by
          unfold clrT;by_cases e:i=q
          ·rw [if_pos e,e,if_neg hqb,if_pos (by omega)]
          ·rw [if_neg e];by_cases e':i=b
           ·rw [if_pos e',if_pos e']
           ·rw [if_neg e',if_neg e'];by_cases e'':i<q
            ·rw [if_pos e'',if_pos (by omega)]
            ·rw [if_neg e'',if_neg (by omega)])
         have HK4:Hid (Keeps B T w w4):=hkeep3.out.drew.trans (hkeep2.mono (hmat.out.los q hqr) (hmat.out.his q hqr));clear hown2 hkeep2;go_wp2_with fail
         go_roundw
         case rel=>exact⟨q+1,by omega,by go_num,HM4.out,HK4.out⟩
         case measure=>simp [intOf]; omega
       ·obtain rfl:q=rows:=by omega
        have HM5:Hid (Mat wr B T l cl q cols G2 U2 (clr b 1 (fun i=>(K.mul (swp b j P i c) ((P j c).inv))) (swp b j P))):=hmat.out.congr fun i y hi _=>by
         rw [HQ.out];unfold clrT clr;have hsw:swp b j P b=P j:=if_pos rfl;rw [hsw];by_cases e:i=b
         ·rw [if_pos e,if_pos e,K.one_mul]
         ·rw [if_neg e,if_neg e,if_pos hi]; rfl
        go_wp2;go_roundw
        case rel=>exact⟨c+1,b+1,by omega,hb,by go_num,by go_num,⟨_,_,_,HRed.out.take0 hbj hj HP.out,HM5.out⟩,hkeep3.out⟩
        case measure=>simp [intOf]; omega
    ·obtain rfl:j=rows:=by omega
     have hjq:((j:Int) == (j:Int))=true:=by simp
     go_wp2;go_roundw
     case rel=>exact⟨c+1,b,by omega,hbr,by go_num,rfl,⟨P,G,U,HRed.out.skip hz.out,HMat.out⟩,hkeep.out⟩
     case measure=>simp [intOf]; omega
  ·obtain⟨P,G,U,hred,hmat⟩:=hall.out;have HRed:Hid (Red false rows A C b P):=by
    by_cases h:c<C
    ·have:=hred.full (show rows<=b by omega) (C-c)
     rwa [show c+(C-c)=C by omega] at this
    ·rw [show C=c by omega]; exact hred
   have HMat:Hid (Mat wr B T l cl rows cols G U P):=hmat
   clear hall hred hmat
   by_cases hcc:c<C
   ·have hbb:¬ (b:Int)<(rows:Int):=by omega
    go_wp2;go_ret;exact⟨b,rfl,P,HRed.out,⟨G,U,HMat.out⟩,hkeep.out⟩
   ·go_wp2;go_ret;exact⟨b,P,G,U,rfl,HRed.out,HMat.out,hkeep.out⟩
theorem Red.diag_ne{z:Bool}{n:Nat}{A P:M}(h:Red z n A n n P)(i:Nat)(hi:i<n):P i i ≠ 0:=by
 obtain⟨p,d,hp,hid⟩:=h.piv;obtain⟨_,h2,_,h4⟩:=hp i hi;have:=h4 i hi;rw [hid rfl i hi,if_pos rfl] at this;rw [this]; exact h2
def bes (n:Nat) (H:M) (k:Nat):M:=fun i j=>if i<k then beside n H i j else 0
def bes' (n:Nat) (H:M) (k:Nat):M:=fun i j=>if i<k then beside n H i j else if i=k/\j<n then H k j else 0
theorem setRow_keeps(w:World)(g:Nat)(cs:Array Value):Keeps g (g+1) w (w.setRow g cs):=⟨rfl,rfl,rfl,by simp [World.setRow],fun k _ hk=>setRow_other w g k cs (by omega)⟩
theorem own_copied{w:World}{g n u m:Nat}{f h:Nat->K}{cur:Array Value}(ho:Own w g m u f)(hg:w.heap[g]? = some (.cells cur 5 (0,0)))(hn:n<=m):
  Own (w.setRow g (cur.toList.take 0 ++ (cellsOf n h ++ cur.toList.drop (0+(cellsOf n h).length))).toArray) g m u (fun j=>if j<n then h j else f j):=by
 obtain⟨h1,h2,c,⟨cur',hb,hs,hc⟩,hh⟩:=ho;rw [hg] at hb;cases hb
 have hlen:(cur.toList.take 0 ++ (cellsOf n h ++ cur.toList.drop (0+(cellsOf n h).length))).length=u:=by simp [cellsOf_length]; omega
 refine⟨h1,h2,fun i=>if i<n then .int .u8 ((h i).n:Int) else c i,⟨_,setRow_heap w g _ _ 5 _ hg,by rw [List.size_toArray]; exact hlen,fun i hi=>?_⟩,fun i hi=>?_⟩
 ·rw [List.getElem?_toArray,List.take_zero,List.nil_append,Nat.zero_add,cellsOf_length];by_cases e:i<n
  ·rw [List.getElem?_append_left (by rw [cellsOf_length]; exact e),cellsOf_get _ _ _ e]; simp only [e,if_true]
  ·rw [List.getElem?_append_right (by rw [cellsOf_length]; omega),cellsOf_length,List.getElem?_drop,show n+(i-n)=i by omega,Array.getElem?_toList,hc i hi]; simp only [e,if_false]
 ·by_cases e:i<n
  ·simp only [e,if_true]
  ·simp only [e,if_false]; exact hh i hi
theorem wpList_copy_to{w:World}{ops:Array Oper}{rest:List Oper}{o:Oper}{a:Act}{Q:Exit->Act->World->Prop}(hgd:o.guard=none)(d s:Operand)
  (ho:o.op=.call { callee:=.builtin .copy,args:=#[d,s],argTypes:=#[36,36]}) (hsz:(Tryz.prog.info? 5).map (·.size)=some 1)
  (g dLen dCap:Nat) (ad:Addr) (sLen sCap:Nat) (hd:a.eval d=.slice (some ⟨g,0,none⟩) dLen dCap) (hs:a.eval s=.slice (some ad) sLen sCap)
  (cur:Array Value) (hg:w.heap[g]? = some (.cells cur 5 (0,0))) (cs:List Value) (hn:cs.length=Nat.min sLen dLen)
  (hsrc:∀ j v,cs[j]? = some v->w.cell? (ad.add j)=some v) (hfit:0+cs.length<=cur.size) (h1:∀ v ∈ cs,v.oneCell'=true) (w3:World) (hw3:w3=w.setRow g (cur.toList.take 0 ++ (cs ++ cur.toList.drop (0+cs.length))).toArray)
  (h:wpList Tryz.prog ops Q rest (a.put o.dst (goInt cs.length)) w3):wpList Tryz.prog ops Q (o :: rest) a w:=by
 subst hw3;exact wpList_copy_own hgd d s 36 36 ho 5 Tryz.underlying36 hsz g 0 dLen dCap ad sLen sCap hd hs cur 5 hg cs hn hsrc hfit h1 h
theorem rinverse_any(w:World)(lo:Option Addr)(ll cl:Nat)(A:Nat->Option Addr)(C L:Nat->Nat)(H:M)(hl:Lst w lo ll A C L H):
  Calls Tryz.prog 214 #[.slice lo ll cl] w (Made w (okInv ll L H) (errM (okSq ll L) 5) ll ll (invOf ll H)):=by
 have CA:=rcheck_any w lo ll cl A C L H hl;have HL:Hid (Lst w lo ll A C L H):=hl;clear hl;cases hok:okM ll L
 ·rw [show okInv ll L H=false by unfold okInv okSq; rw [hok]; rfl,show errM (okSq ll L) 5=30 by unfold okSq; rw [hok]; rfl];rw [hok] at CA;go_enter Tryz.func214,Tryz.ntmps214
  go_wp2_with fail
  refine CA.mono ?_;rintro e w1 ⟨rfl,hq⟩;have b1:=drewN_below hq;clear hq;go_wp2_with fail
  go_ret2;exact made_no b1
 rw [hok] at CA;obtain⟨h1,h2,h3,h4,h5⟩:=okM_true hok;have e2:errB true 30=0:=rfl;obtain⟨b,off,rfl,_⟩:=HL.out.at_ (by omega);have i0:0<ll:=by omega
 have i1:(0:Int)<(ll:Int):=by omega
 by_cases hsq:L 0=ll
 ·rw [show okInv ll L H=invB ll H by unfold okInv okSq; rw [hok,hsq]; simp,show errM (okSq ll L) 5=5 by unfold okSq; rw [hok,hsq]; simp [errM]]
  replace HL:Hid (Lst w (some ⟨b,off,none⟩) ll A C (fun _=>ll) H):=HL.out.len fun i hi=>by rw [h5 i hi,hsq]
  have hbq:((ll:Int) != (ll:Int))=false:=by simp
  clear h5 hsq hok h3 h4;go_enter Tryz.func214,Tryz.ntmps214
  go_wp2_with fail
  refine CA.mono ?_;rintro e w1 ⟨rfl,hq⟩;have HB1:Hid (Below w.heap.size w w1):=drewN_below hq
  replace HL:Hid (Lst w1 (some ⟨b,off,none⟩) ll A C (fun _=>ll) H):=HL.out.below (drewN_below hq)
  clear hq CA;obtain⟨b',off',e',hcl⟩:=HL.out.at_ (by omega);cases e'
  have c0:=hcl 0 (by omega);rw [Nat.add_zero] at c0;clear hcl;have HBL:=blank_mat w1 ll (2*ll) (by omega) (by omega) (by omega);rw [show ((2*ll:Nat):Int)=2*(ll:Int) by omega] at HBL;go_wp2_with fail
  refine HBL.mono ?_;rintro e w2 ⟨l,cap,G,rfl,hm,b2⟩;obtain⟨n2,hn2⟩:∃ n2,n2=2*ll:=⟨_,rfl⟩
  rw [<- hn2] at hm;have hn3:ll+ll<=n2:=by omega
  have hn4:n2<=64:=by omega
  clear hn2;have HM:Hid (Mat w2 w1.heap.size w2.heap.size l cap ll n2 G (fun _=>n2) (fun _ _=>0)):=hm;have HB2:Hid (Below w1.heap.size w1 w2):=b2;clear hm b2 c0 HBL;go_wp2_with fail
  go_loopw [6] (fun i wr=>∃ p:Nat,p<=ll/\i=.int .i64 p/\Hid (Mat wr w1.heap.size w2.heap.size l cap ll n2 G (fun _=>n2) (bes ll H p))/\Hid (Below w1.heap.size w1 wr/\w2.heap.size<=wr.heap.size)) (fun i _=>ll-(intOf i).toNat)
  case atStart=>exact⟨0,Nat.zero_le _,rfl,HM.out.congr (fun i j _ _=>by unfold bes; rw [if_neg (Nat.not_lt_zero i)]),HB2.out,Nat.le_refl _⟩
  case round =>
   obtain⟨p,hp,rfl,hmat,hbel⟩:=hrel;by_cases hlt:p<ll
   ·have d1:=hmat.out.cell_l hlt;obtain⟨b',off',e',hcl⟩:=(HL.out.below hbel.out.1).at_ (by omega);cases e'
    have d2:=hcl p hlt;clear hcl;obtain⟨ab,af,hAp,hsrc⟩:=(HL.out.below hbel.out.1).rd p hlt (by omega);rw [hAp] at d2;obtain⟨_,_,c,⟨cur,hcur,hcs,_⟩,_⟩:=hmat.out.row p hlt;have HCUR:Hid (wr.drew.heap[G p]? = some (.cells cur 5 (0,0))):=hcur;have HSRC:Hid (∀ j v,(cellsOf ll (H p))[j]? = some v->wr.drew.cell? ((⟨ab,af,none⟩:Addr).add j)=some v):=fun j v hv=>by
     have hj:=list_lt (cellsOf_length ll (H p)) hv;rw [cellsOf_get _ _ _ hj] at hv;rw [Addr.add_lit];exact(hsrc j hj).trans hv
    obtain⟨w3,hw3⟩:∃ w3,w3=wr.drew.setRow (G p) (cur.toList.take 0 ++ (cellsOf ll (H p) ++ cur.toList.drop (0+(cellsOf ll (H p)).length))).toArray:=⟨_,rfl⟩
    have hK3:Keeps (G p) (G p+1) wr.drew w3:=by rw [hw3]; exact setRow_keeps _ _ _
    have HM3:Hid (Mat w3 w1.heap.size w2.heap.size l cap ll n2 G (fun _=>n2) (bes' ll H p)):=by
     have ho:Own w3 (G p) n2 n2 (fun j=>if j<ll then H p j else bes ll H p p j):=by rw [hw3]; exact own_copied ((hmat.out.row p hlt).below (bdw _ _)) hcur (by omega)
     refine((hmat.out.below (bdw _ _)).put hlt ho hK3).congr fun i j _ _=>?_;unfold bes' bes;by_cases e:i=p
     ·subst e;simp only [if_true,Nat.lt_irrefl,if_false,true_and]
     ·simp only [e,if_false,false_and]
    have HB3:Hid (Below w1.heap.size w1 w3/\w2.heap.size<=w3.heap.size):=⟨hbel.out.1.drew.trans ((hK3.mono (hmat.out.los p hlt) (hmat.out.his p hlt)).below hbel.out.1.size (Nat.le_refl _)),Nat.le_trans hbel.out.2 hK3.size⟩
    have hsz:(Tryz.prog.info? 5).map (·.size)=some 1:=by kernel_rfl
    have j1:(0:Int)<=(p:Int):=by omega
    have j2:(p:Int)<(ll:Int):=by omega
    have f1:=HM3.out.cell_l hlt;have f2:=(HM3.out.row p hlt).cell (show ll+p<n2 by omega);have z2:=(HM3.out.row p hlt).frozen (ll+p);have j3:(0:Int)<=(ll:Int)+(p:Int):=by omega
    have j4:(ll:Int)+(p:Int)<(n2:Int):=by omega
    have j5:((ll:Int)+(p:Int)).toNat=ll+p:=by omega
    have HCS:Hid (n2=cur.size):=hcs.symm;clear hcur hsrc hAp hcs hK3;go_wp2;refine wp_region_still_tail 8 (by kernel_rfl) (by kernel_rfl) ?_;simp only [List.take_succ_cons,List.take_zero,List.drop_succ_cons,List.drop_zero]
    repeat still_step
    refine wpStill_nil ?_;refine wpList_copy_to (by rfl) (.tmp 36) (.tmp 40) (by rfl) hsz (G p) n2 n2 ⟨ab,af,none⟩ ll (C p) (by rfl) (by rfl) cur HCUR.out (cellsOf ll (H p)) (by rw [cellsOf_length]; exact(Nat.min_eq_left (by omega)).symm) HSRC.out (by have:=HCS.out; rw [cellsOf_length]; omega) (cellsOf_one _ _) w3 hw3 ?_;clear hw3 HSRC HCUR d1 d2;go_wp2;go_roundw
    case rel=>exact⟨p+1,by omega,by go_num,(HM3.out.store hlt 1).congr (fun i j _ _=>by
      unfold bes bes';by_cases e:i=p/\j=ll+p
      ·rw [if_pos e,if_pos (by omega)];unfold beside;rw [if_neg (by omega),show j-ll=i by omega,one_self]
      ·rw [if_neg e];by_cases g1:i<p
       ·rw [if_pos g1,if_pos (by omega)]
       ·rw [if_neg g1];by_cases g2:i=p
        ·subst g2;rw [if_pos (Nat.lt_succ_self i)];unfold beside;by_cases g3:j<ll
         ·rw [if_pos ⟨rfl,g3⟩,if_pos g3]
         ·rw [if_neg (by omega),if_neg g3,one_ne (by omega)]
        ·rw [if_neg (by omega),if_neg (by omega)]),HM3.out.keep hlt HB3.out.1 HB3.out.1.size (ll+p) _,by rw [size_set]; exact HB3.out.2⟩
    case measure=>simp [intOf]; omega
   ·obtain rfl:p=ll:=by omega
    have HM4:Hid (Mat wr w1.heap.size w2.heap.size l cap p n2 G (fun _=>n2) (beside p H)):=hmat.out.congr fun i j hi _=>if_pos hi;have HRD:=steps_any wr _ _ l cap p n2 p G (fun _=>n2) (beside p H) (by omega) (by omega) (by omega) HM4.out;have HBR:Hid (Below w.heap.size w wr):=below_step HB1.out hbel.out.1 HB1.out.size;have hs1:=HB1.out.size;have hs2:=hbel.out.1.size;clear hmat HM4 HM;go_wp2_with fail
    refine HRD.mono ?_;rintro e w4 ⟨r,P,G',U',rfl,hred,hm4,hk4⟩;have HRed:Hid (Red false p (beside p H) p r P):=hred;have HMP:Hid (Mat w4 w1.heap.size w2.heap.size l cap p n2 G' U' P):=hm4;have HB4:Hid (Below w.heap.size w w4):=HBR.out.trans (hk4.below HBR.out.size hs1);have hs4:w2.heap.size<=w4.heap.size:=Nat.le_trans hbel.out.2 hk4.size;have hrn:r<=p:=hred.rows;clear hred hm4 hk4 HRD HBR;by_cases hr:r<p
    ·have hI:Hid (invB p H=false):=by rw [invB_rk,rankOf_eq (beside_rk HRed.out.rk)]; exact decide_eq_false (by omega)
     go_wp2_with fail
     go_ret2;rw [hI.out];exact made_no HB4.out
    ·obtain rfl:r=p:=by omega
     obtain⟨V,hV⟩:∃ V:M,V=fun i j=>(K.mul (P i (r+j)) ((P i i).inv)):=⟨_,rfl⟩
     have HV:Hid (IsInv r H V):=by rw [hV]; exact HRed.out.inv
     have HVE:Hid (V=fun i j=>(K.mul (P i (r+j)) ((P i i).inv))):=hV;clear hV;go_wp2_with fail
     refine(blank_mat w4 r r (by omega) (by omega) (by omega)).mono ?_;rintro e w5 ⟨lo',cap',Go',rfl,hmo,b5⟩;have HMO:Hid (Mat w5 w4.heap.size w5.heap.size lo' cap' r r Go' (fun _=>r) (fun _ _=>0)):=hmo;have HB5:Hid (Below w4.heap.size w4 w5):=b5;clear hmo b5;go_wp2_with fail
     go_loopw [8] (fun i wr=>∃ s:Nat,s<=r/\i=.int .i64 s/\Hid (Mat wr w4.heap.size w5.heap.size lo' cap' r r Go' (fun _=>r) (fill V s 0))/\Hid (Below w4.heap.size w4 wr/\w5.heap.size<=wr.heap.size)) (fun i _=>r-(intOf i).toNat)
     case atStart=>exact⟨0,Nat.zero_le _,rfl,by rw [fill_zero]; exact HMO.out,HB5.out,Nat.le_refl _⟩
     case round =>
      obtain⟨s,hs,rfl,hmat,hbel3⟩:=hrel;by_cases hsr:s<r
      ·obtain⟨w6,rfl⟩:∃ x,x=wr:=⟨wr,rfl⟩
       go_wp2;go_loopw [9] (fun i wr=>∃ q:Nat,q<=r/\i=.int .i64 q/\Hid (Mat wr w4.heap.size w5.heap.size lo' cap' r r Go' (fun _=>r) (fill V s q))/\Hid (Below w4.heap.size w4 wr/\w5.heap.size<=wr.heap.size)) (fun i _=>r-(intOf i).toNat)
       case atStart=>exact⟨0,Nat.zero_le _,rfl,hmat.out,hbel3.out⟩
       case round =>
        obtain⟨q,hq,rfl,hmat2,hbel2⟩:=hrel;by_cases hqr:q<r
        ·have c1:=hmat2.out.cell_l hsr;have c2:=(hmat2.out.row s hsr).cell hqr;have z2:=(hmat2.out.row s hsr).frozen q;have hmp:=HMP.out.below hbel2.out.1;have c3:=hmp.cell_l hsr;have c4:=(hmp.row s hsr).cell (show r+q<n2 by omega);have c5:=(hmp.row s hsr).cell (show s<n2 by omega);have HDV:Hid (∀ w',Calls Tryz.prog 288 #[.int .u8 ((P s (r+q)).n:Int),.int .u8 ((P s s).n:Int)] w' fun e w''=>e=.returned (.tuple #[.int .u8 ((V s q).n:Int),.int .i64 0])/\w''=w'):=fun w'=>by rw [HVE.out]; exact rdiv_k _ _ w' (HRed.out.diag_ne s hsr)
         have kb:∀ a:Addr,a.block ≠ Go' s->∀ x v,wr.cell? a=some x->(wr.setCell ⟨Go' s,q,none⟩ v).cell? a=some x:=fun a ha x v hx=>(World.cell?_of_block (Below.heap_setCell _ _ _ _ (by simpa using ha))).trans hx;have lob:=hmat2.out.los s hsr;have n1:lo' ≠ Go' s:=(hmat2.out.ne_l hsr).symm;have n2':l ≠ Go' s:=by have:=HMP.out.lt_l; omega
         have n3:G' s ≠ Go' s:=by have:=(HMP.out.row s hsr).lt; omega
         have k1:∀ v,(wr.setCell ⟨Go' s,q,none⟩ v).cell? ⟨lo',s,none⟩=some (.slice (some ⟨Go' s,0,none⟩) r r):=fun v=>kb _ n1 _ v c1;have k2:∀ v,(wr.setCell ⟨Go' s,q,none⟩ v).cell? ⟨l,s,none⟩=some (.slice (some ⟨G' s,0,none⟩) n2 (U' s)):=fun v=>kb _ n2' _ v c3;have k3:∀ v,(wr.setCell ⟨Go' s,q,none⟩ v).cell? ⟨G' s,r+q,none⟩=some (.int .u8 ((P s (r+q)).n:Int)):=fun v=>kb _ n3 _ v c4;have k4:∀ v,(wr.setCell ⟨Go' s,q,none⟩ v).cell? ⟨G' s,s,none⟩=some (.int .u8 ((P s s).n:Int)):=fun v=>kb _ n3 _ v c5;clear hmp kb;have m0:IntKind.i64.wrap ((r:Int)+(q:Int))=(r:Int)+(q:Int):=by rw [IntKind.wrap_i64]; omega
         have m1:((r:Int)+(q:Int)).toNat=r+q:=by omega
         have t1:(0:Int)<=(s:Int):=by omega
         have t2:(s:Int)<(r:Int):=by omega
         have t3:(0:Int)<=(q:Int):=by omega
         have t4:(q:Int)<(r:Int):=by omega
         have t5:(0:Int)<=(r:Int)+(q:Int):=by omega
         have t6:(r:Int)+(q:Int)<(n2:Int):=by omega
         have t7:(s:Int)<(n2:Int):=by omega
         obtain⟨X,hX⟩:∃ X,X=V s q:=⟨_,rfl⟩
         rw [<- hX] at HDV;have HX:Hid (X=V s q):=hX;clear hX;go_wp2;go_region_held3 (fun w'=>w'.cell? ⟨lo',s,none⟩=some (.slice (some ⟨Go' s,0,none⟩) r r)/\w'.cell? ⟨l,s,none⟩=some (.slice (some ⟨G' s,0,none⟩) n2 (U' s))/\w'.cell? ⟨G' s,r+q,none⟩=some (.int .u8 ((P s (r+q)).n:Int))/\w'.cell? ⟨G' s,s,none⟩=some (.int .u8 ((P s s).n:Int))) (go_keep)
          ((go_at_call 288; refine(HDV.out _).mono ?_; rintro e w' ⟨rfl,hw'⟩; obtain rfl:=hw'.symm))
         go_wp2;go_roundw
         case rel=>exact⟨q+1,by omega,by go_num,((hmat2.out.store hsr X).congr (fun i j _ _=>by rw [HX.out]; exact fill_store V s q i j)).below (bdw _ _),below_step (hmat2.out.keep hsr hbel2.out.1 hbel2.out.1.size q _) (bdw _ _) (by rw [size_set]; exact hbel2.out.1.size),by show _<=(wr.setCell _ _).heap.size; rw [size_set]; exact hbel2.out.2⟩
         case measure=>simp [intOf]; omega
        ·obtain rfl:q=r:=by omega
         go_wp2;go_roundw
         case rel=>exact⟨s+1,by omega,by go_num,hmat2.out.congr (fun i j _ hj=>fill_row V s q i j hj),hbel2.out⟩
         case measure=>simp [intOf]; omega
      ·obtain rfl:s=r:=by omega
       go_wp2;go_ret2;rw [show invB s H=true from invB_of HV.out];refine ref_made ((hmat.out.congr fun i j hi hj=>?_).lower HB4.out.size) hbel3.out.2 (below_step HB4.out hbel3.out.1 HB4.out.size);rw [fill_all V s i j hi,invOf_eq HV.out i j hi hj]
 ·rw [show okInv ll L H=false by unfold okInv okSq; rw [hok]; simp [hsq],show errM (okSq ll L) 5=30 by unfold okSq; rw [hok]; simp [hsq,errM]];have hbq:((ll:Int) != (L 0:Int))=true:=by simp; omega
  go_enter Tryz.func214,Tryz.ntmps214
  go_wp2_with fail
  refine CA.mono ?_;rintro e w1 ⟨rfl,hq⟩;have b1:=drewN_below hq
  replace HL:Hid (Lst w1 (some ⟨b,off,none⟩) ll A C L H):=HL.out.below b1
  clear hq;obtain⟨b',off',e',hcl⟩:=HL.out.at_ (by omega);cases e'
  have c0:=hcl 0 (by omega);rw [Nat.add_zero] at c0;clear hcl h5;go_wp2_with fail
  go_ret2;exact made_no b1
end Go.Proofs.YtemlojjkokooeaaGreat.Cod
namespace Go.Proofs.YtemlojjkokooeaaGreat.Cod.Ker
open Go.RowKit
theorem own_made(w:World)(n:Nat):Own (w.alloc (.cells (madeCells #[.int .u8 0] n) 5)) w.heap.size n (fun _=>0):=⟨fun _=>(by decide:0<256),World.rowIs_made w (.int .u8 0) n 5⟩
def timesF (c i:Nat):Nat:=Gf.mul c i
theorem timesF_lt(c:Nat)(hc:c<256)(i:Nat):timesF c i<256:=Gf.mul_lt _ _ hc
theorem radd_any(w:World)(c:Nat)(ao bo:Option Addr)(n ca cb:Nat)(f h:Nat->Nat)(hn:n<=1000000)(hc:c<256)(ha:Rd w ao n f)(hb:Rd w bo n h):
  Calls Tryz.prog 289 #[.slice ao n ca,.int .u8 (c:Int),.slice bo n cb] w fun e w'=>∃ g,e=.returned (.slice (some ⟨g,0,none⟩) n n)/\w.heap.size<=g/\Own w' g n (plus f c h)/\Below w.heap.size w w':=by
 have HA:Hid (Rd w ao n f):=ha;have HB:Hid (Rd w bo n h):=hb;clear ha hb;have hmk1:=run_make_row' (P:=Tryz.prog) 36 5 (.int .u8 0) 1 Tryz.underlying36 info5 rfl .i64 .i64 256 (by omega) (by omega);rw [show ((256:Nat):Int)=256 from rfl] at hmk1;have hmk2:=run_make_row' (P:=Tryz.prog) 36 5 (.int .u8 0) 1 Tryz.underlying36 info5 rfl .i64 .i64 n (by omega) (by omega);go_enter Tryz.func289,Tryz.ntmps289
 go_wp2;go_loopw [8] (fun i wr=>∃ k:Nat,k<=256/\i=.int .i64 k/\Hid (Own wr w.heap.size 256 (upto k (timesF c) (fun _=>0)))/\Hid (Only w.heap.size w wr)) (fun i _=>256-(intOf i).toNat)
 case atStart=>exact⟨0,Nat.zero_le _,rfl,by rw [upto_zero]; exact own_made w 256,(Only.refl _ w).alloc _⟩
 case round =>
  obtain⟨k,hk,rfl,hown,honly⟩:=hrel;by_cases hlt:k<256
  ·have c1:=hown.out.2.cell hlt;have z1:=hown.out.2.frozen k;go_wp2_with (go_at_call 321; refine(rmul_n _ _ _ (by omega) (by omega)).mono ?_; rintro e w' ⟨rfl,rfl⟩)
   go_roundw
   case rel=>exact⟨k+1,by omega,by go_num,hown.out.store (timesF_lt c hc),honly.out.setCell k _⟩
   case measure=>simp [intOf]; omega
  ·obtain rfl:k=256:=by omega
   have HO:Hid (Own wr w.heap.size 256 (timesF c)):=hown.out.all (timesF_lt c hc);have hBlt:w.heap.size<wr.heap.size:=HO.out.lt;have HA':Hid (Rd wr ao n f):=HA.out.only honly.out fun hp=>HA.out.off (Nat.le_refl _) hp;have HB':Hid (Rd wr bo n h):=HB.out.only honly.out fun hp=>HB.out.off (Nat.le_refl _) hp;have hb1:Below w.heap.size w wr:=honly.out.below (Nat.le_refl _) (Nat.le_refl _);obtain⟨wm,rfl⟩:∃ x,x=wr:=⟨wr,rfl⟩
   clear hown HA HB hmk1;go_wp2;go_loopw [10] (fun i wr=>∃ k:Nat,k<=n/\i=.int .i64 k/\Hid (Own wr wm.heap.size n (upto k (plus f c h) (fun _=>0)))/\Hid (Only wm.heap.size wm wr)) (fun i _=>n-(intOf i).toNat)
   case atStart=>exact⟨0,Nat.zero_le _,rfl,by rw [upto_zero]; exact own_made wm n,(Only.refl _ wm).alloc _⟩
   case round =>
    obtain⟨k,hk,rfl,hown,honly2⟩:=hrel;by_cases hlt:k<n
    ·obtain⟨b0,o0,rfl,c0⟩:=HA'.out.2 (by omega);obtain⟨b1,o1,rfl,c1⟩:=HB'.out.2 (by omega);have d0:=World.block_lt_of_cell? wm _ (c0 k hlt);have d1:=World.block_lt_of_cell? wm _ (c1 k hlt);simp only at d0 d1
     replace c0:=honly2.out.cell (c0 k hlt) (by simp only; omega)
     replace c1:=honly2.out.cell (c1 k hlt) (by simp only; omega)
     have hfk:=HA'.out.1 k;have hhk:=HB'.out.1 k;have c2:wr.cell? ⟨w.heap.size,h k,none⟩=some (.int .u8 ((Gf.mul c (h k):Nat):Int)):=honly2.out.cell (HO.out.2.cell hhk) (by simp only; omega);have c3:=hown.out.2.cell hlt;have z3:=hown.out.2.frozen k;have i1:(0:Int)<=(k:Int):=by omega
     have i2:(k:Int)<(n:Int):=by omega
     have i3:(0:Int)<=(h k:Int):=by omega
     have i4:(h k:Int)<256:=by omega
     have HX:Hid (bits .xor .u8 (f k:Int) ((Gf.mul c (h k):Nat):Int)=((plus f c h k:Nat):Int)):=u8_xor_nat _ _ hfk (Gf.mul_lt _ _ hc);go_wp2;refine wp_region_still_tail 15 (by kernel_rfl) (by kernel_rfl) ?_;simp only [List.take_succ_cons,List.take_zero,List.drop_succ_cons,List.drop_zero]
     repeat still_step
     refine wpStill_nil ?_;go_wp2;go_roundw
     case rel=>exact⟨.int .i64 ((k:Int)+1),_,_,_,_,_,_,_,_,_,_,_,_,_,_,_,_,_,_,_,_,_,⟨k+1,by omega,by go_num,by rw [HX.out]; exact hown.out.store (plus_lt f c h HA'.out.1 hc),(honly2.out.setCell k _).drew⟩,rfl⟩
     case measure=>simp [intOf]; omega
    ·obtain rfl:k=n:=by omega
     go_wp2;go_ret;refine⟨_,rfl,by omega,hown.out.all (plus_lt f c h HA'.out.1 hc),hb1.trans (honly2.out.below (by omega) (by omega))⟩
theorem rdot_any(w:World)(co lo:Option Addr)(lc cc ll cl:Nat)(F:Nat->Nat)(A:Nat->Option Addr)(C L:Nat->Nat)(H:Nat->Nat->Nat)
  (hlc:lc<=1000000) (hll:ll<=1000000) (hc:Rd w co lc F) (hl:Lst w lo ll A C L H) (hL:∀ i,i<ll->L i<=1000000) :
  Calls Tryz.prog 215 #[.slice co lc cc,.slice lo ll cl] w (Made w (okL lc ll L) (n0 ll L) (tot F H ll)):=by
 have HC:Hid (Rd w co lc F):=hc;have HL:Hid (Lst w lo ll A C L H):=hl;have HM:Hid (∀ i,i<ll->L i<=1000000):=hL;clear hc hl hL;by_cases h1:lc<=16
 ·by_cases h2:ll=lc
  ·subst h2;have hbq:((ll:Int) == (ll:Int))=true:=by simp
   by_cases hall:∀ i,i<ll->L i<=65536/\L i=L 0
   ·rw [show okL ll ll L=true from decide_eq_true ⟨h1,rfl,hall⟩];have HA:Hid (∀ i,i<ll->L i<=65536/\L i=L 0):=hall;clear hall;by_cases hz:ll=0
    ·subst hz;go_enter Tryz.func215,Tryz.ntmps215
     go_wp2;go_loop [6] (fun i=>i=.int .i64 0) (fun i=>0)
     case atStart=>rfl
     case round =>
      obtain rfl:=hrel;go_wp2;go_ret2;exact⟨none,rfl,.inl ⟨rfl,rfl,tot_lt F H HC.out.1 0⟩,Below.refl _ _⟩
    ·obtain⟨b,off,rfl,hcl⟩:=HL.out.at_ (by omega);have HCL:Hid (∀ i,i<ll->w.cell? ⟨b,off+i,none⟩=some (.slice (A i) (L i) (C i))):=hcl;have c0:=hcl 0 (by omega);rw [Nat.add_zero] at c0;have hzq:((ll:Int) == 0)=false:=by simpa using hz
     obtain⟨n,hn⟩:∃ n,n=L 0:=⟨_,rfl⟩
     have HN:Hid (n=L 0):=hn;rw [<- hn] at c0;rw [show n0 ll L=n by rw [n0,if_neg hz,hn]];have hn1:n<=65536:=by rw [hn]; exact(HA.out 0 (by omega)).1
     have HE:Hid (∀ i,i<ll->L i=n):=fun i hi=>by rw [hn]; exact(HA.out i hi).2
     clear hcl hn;have hmk:=run_make_row' (P:=Tryz.prog) 36 5 (.int .u8 0) 1 Tryz.underlying36 info5 rfl .i64 .i64 n (by omega) (by omega);go_enter Tryz.func215,Tryz.ntmps215
     go_wp2;go_loopw [6] (fun i wr=>∃ k:Nat,k<=ll/\i=.int .i64 k/\Hid (Below w.heap.size w wr)) (fun i _=>ll-(intOf i).toNat)
     case atStart=>exact⟨0,Nat.zero_le _,rfl,Below.refl _ _⟩
     case round =>
      obtain⟨k,hk,rfl,hbel⟩:=hrel;have d0:=World.block_lt_of_cell? w _ c0;simp only at d0;have e0:=(hbel.out.cell d0).trans c0;by_cases hlt:k<ll
      ·have ck:=(hbel.out.cell (show (⟨b,off+k,none⟩:Addr).block<w.heap.size from d0)).trans (HCL.out k hlt);rw [HE.out k hlt] at ck;have i1:(0:Int)<=(k:Int):=by omega
       have i2:(k:Int)<(ll:Int):=by omega
       have i3:(0:Int)<(ll:Int):=by omega
       have hd:decide ((65536:Int)<(n:Int))=false:=by simp; omega
       have hbn:((n:Int) == (n:Int))=true:=by simp
       go_wp2;go_quiet (fail)
       go_wp2;go_roundw
       case rel=>exact⟨k+1,by omega,by go_num,⟨hbel.out.os,hbel.out.tape,hbel.out.output,hbel.out.size,hbel.out.block⟩⟩
       case measure=>simp [intOf]; omega
      ·obtain rfl:k=ll:=by omega
       obtain⟨w1,rfl⟩:∃ x,x=wr:=⟨wr,rfl⟩
       go_wp2;go_loopw [7,8] (fun v i wr=>∃ j:Nat,j<=k/\i=.int .i64 j/\(∃ g,v=.slice (some ⟨g,0,none⟩) n n/\w1.heap.size<=g/\Hid (Own wr g n (tot F H j)))/\Hid (Below w1.heap.size w1 wr)) (fun _ i _=>k-(intOf i).toNat)
       case atStart=>exact⟨0,Nat.zero_le _,rfl,⟨_,rfl,Nat.le_refl _,own_made w1 n⟩,bal _ _⟩
       case round =>
        obtain⟨j,hj,rfl,⟨g,rfl,hg,hown⟩,hbel2⟩:=hrel;have bb:Below w.heap.size w wr:=below_step hbel.out hbel2.out hbel.out.size;by_cases hlt:j<k
        ·obtain⟨b',off',rfl,hcc⟩:=(HC.out.below bb).2 (by omega);have c1:=hcc j hlt;have c2:=(bb.cell (show (⟨b,off+j,none⟩:Addr).block<w.heap.size from d0)).trans (HCL.out j hlt);rw [HE.out j hlt] at c2;have HR:Hid (Rd wr (A j) n (H j)):=by have:=(HL.out.below bb).rd j hlt; rwa [HE.out j hlt] at this
         clear hcc;have i1:(0:Int)<=(j:Int):=by omega
         have i2:(j:Int)<(k:Int):=by omega
         have HP:Hid (Calls Tryz.prog 289 #[.slice (some ⟨g,0,none⟩) n n,.int .u8 (F j:Int),.slice (A j) n (C j)] wr.drew fun e w'=>∃ g,e=.returned (.slice (some ⟨g,0,none⟩) n n)/\wr.drew.heap.size<=g/\Own w' g n (tot F H (j+1))/\Below wr.drew.heap.size wr.drew w') :=
          radd_any wr.drew (F j) _ _ n n (C j) (tot F H j) (H j) (by omega) (HC.out.1 j) hown.out.rd HR.out
         go_wp2;refine wp_region_still_tail 9 (by kernel_rfl) (by kernel_rfl) ?_;simp only [List.take_succ_cons,List.take_zero,List.drop_succ_cons,List.drop_zero]
         repeat still_step
         refine wpStill_nil ?_;go_wp2_with (go_at_call 289; refine HP.out.mono ?_; rintro e w' ⟨g',rfl,hg',ho',hb'⟩)
         have ho2:Hid (Own w' g' n (tot F H (j+1))):=ho';have hg2:w1.heap.size<=g':=Nat.le_trans hbel2.out.size hg';have hb2:Hid (Below w1.heap.size w1 w'):=below_step hbel2.out.drew hb' hbel2.out.size;clear ho' hb' hg';go_roundw
         case rel=>exact⟨j+1,by omega,by go_num,⟨g',rfl,hg2,ho2⟩,hb2⟩
         case measure=>simp [intOf]; omega
        ·obtain rfl:j=k:=by omega
         go_wp2;go_ret2;exact⟨_,rfl,.inr ⟨g,rfl,Nat.le_trans hbel.out.size hg,hown.out⟩,bb⟩
   ·rw [show okL ll ll L=false from decide_eq_false fun h=>hall h.2.2];obtain⟨q,hq,hne,heq⟩:∃ q,q<ll/\¬ (L q<=65536/\L q=L 0)/\∀ i,i<q->L i<=65536/\L i=L 0:=by
     obtain⟨i,hi⟩:=Classical.not_forall.1 hall;obtain⟨p1,p2⟩:=Classical.not_imp.1 hi;obtain⟨k,hk,p3,p4⟩:=exists_first (p:=fun i=>L i<=65536/\L i=L 0) i p2;exact⟨k,by omega,p3,p4⟩
    have HE:Hid (∀ i,i<q->L i<=65536/\L i=L 0):=heq;have HNE:Hid (¬ (L q<=65536/\L q=L 0)):=hne;clear hall heq hne;obtain⟨b,off,rfl,hcl⟩:=HL.out.at_ (by omega);have HCL:Hid (∀ i,i<ll->w.cell? ⟨b,off+i,none⟩=some (.slice (A i) (L i) (C i))):=hcl;have c0:=hcl 0 (by omega);rw [Nat.add_zero] at c0;clear hcl;go_enter Tryz.func215,Tryz.ntmps215
    go_wp2;go_loopw [6] (fun i wr=>∃ k:Nat,k<=q/\i=.int .i64 k/\Hid (Below w.heap.size w wr)) (fun i _=>ll-(intOf i).toNat)
    case atStart=>exact⟨0,Nat.zero_le _,rfl,Below.refl _ _⟩
    case round =>
     obtain⟨k,hk,rfl,hbel⟩:=hrel;have d0:=World.block_lt_of_cell? w _ c0;simp only at d0;have e0:=(hbel.out.cell d0).trans c0;have ck:=(hbel.out.cell (show (⟨b,off+k,none⟩:Addr).block<w.heap.size from d0)).trans (HCL.out k (by omega));have i1:(0:Int)<=(k:Int):=by omega
     have i2:(k:Int)<(ll:Int):=by omega
     have i3:(0:Int)<(ll:Int):=by omega
     by_cases hlt:k<q
     ·rw [(HE.out k hlt).2] at ck;have hd:decide ((65536:Int)<(L 0:Int))=false:=by have:=HE.out k hlt; simp; omega
      have hbn:((L 0:Int) == (L 0:Int))=true:=by simp
      go_wp2;go_quiet (fail)
      go_wp2;go_roundw
      case rel=>exact⟨k+1,by omega,by go_num,⟨hbel.out.os,hbel.out.tape,hbel.out.output,hbel.out.size,hbel.out.block⟩⟩
      case measure=>simp [intOf]; omega
     ·obtain rfl:k=q:=by omega
      by_cases hbig:L k<=65536
      ·have hd:decide ((65536:Int)<(L k:Int))=false:=by simp; omega
       have hbn:((L k:Int) != (L 0:Int))=true:=by
        have:¬ L k=L 0:=fun e=>HNE.out ⟨hbig,e⟩;simp; omega
       go_wp2;go_quiet (fail)
       go_wp2;go_ret2;exact⟨none,rfl,.inl ⟨rfl,rfl,tot_lt F H HC.out.1 ll⟩,⟨hbel.out.os,hbel.out.tape,hbel.out.output,hbel.out.size,hbel.out.block⟩⟩
      ·have hd:decide ((65536:Int)<(L k:Int))=true:=by simp; omega
       go_wp2;go_quiet (fail)
       go_wp2;go_ret2;exact⟨none,rfl,.inl ⟨rfl,rfl,tot_lt F H HC.out.1 ll⟩,⟨hbel.out.os,hbel.out.tape,hbel.out.output,hbel.out.size,hbel.out.block⟩⟩
  ·have hbq:((ll:Int) != (lc:Int))=true:=by simp; omega
   rw [show okL lc ll L=false from decide_eq_false fun h=>h2 h.2.1];go_enter Tryz.func215,Tryz.ntmps215
   go_wp2;go_ret2;exact⟨none,rfl,.inl ⟨rfl,rfl,tot_lt F H HC.out.1 ll⟩,Below.refl _ _⟩
 ·rw [show okL lc ll L=false from decide_eq_false fun h=>h1 h.1];go_enter Tryz.func215,Tryz.ntmps215
  go_wp2;go_ret2;exact⟨none,rfl,.inl ⟨rfl,rfl,tot_lt F H HC.out.1 ll⟩,Below.refl _ _⟩
end Go.Proofs.YtemlojjkokooeaaGreat.Cod.Ker
namespace Go.Proofs.YtemlojjkokooeaaGreat.Cod
open Go.RowKit
theorem rdot_k(w:World)(co lo:Option Addr)(k cc cl n:Nat)(F:Nat->K)(A:Nat->Option Addr)(C L:Nat->Nat)(H:M)(hk1:1<=k)(hk:k<=16)(hn1:1<=n)(hn:n<=65536)(hc:Rd w co k F)(hl:Lst w lo k A C L H)(hL:∀ i,i<k->L i=n):
  Calls Tryz.prog 215 #[.slice co k cc,.slice lo k cl] w (New w n (lin k F H)):=by
 obtain⟨h1,h2⟩:=okL_yes hk hn hk1 hL;refine(Ker.rdot_any w co lo k cc k cl _ A C L _ (by omega) (by omega) (rd_ker hc) (lst_ker hl) (fun i hi=>by rw [hL i hi]; omega)).mono fun e w' h=>?_;rw [h2] at h;exact new_of h h1 hn1 hn (tot_ker k F H)
def RowSol (w:World) (B T:Nat) (ao:Option Addr) (n cap:Nat) (f:Nat->K):Prop:=(ao=none/\n=0/\cap=0)\/∃ g,ao=some ⟨g,0,none⟩/\B<=g/\g<T/\Own w g n cap f
def OneAns (w:World) (ok:Bool) (err:Int) (n:Nat) (f:Nat->K) (e:Ending) (w':World):Prop :=
  ∃ ao cap,e=.returned (.tuple #[.slice ao (lenB ok n) cap,.int .i64 (errB ok err)])/\RowSol w' w.heap.size w'.heap.size ao (lenB ok n) cap f/\Below w.heap.size w w'
def okRow (k r c:Int):Bool:=mayB k r && decide (0<=c/\c<k+r)
theorem sel_at{L:Nat->Nat}{i n:Nat}(hi:i<n)(h:L i ≠ 0):sel L n (cnt L i)=i:=by
 rw [sel_prefix L (show i+1<=n by omega) (by rw [cnt_take h]; omega),sel_take h,put_at]
theorem okEnc_true{ll:Nat}{L:Nat->Nat}{k r:Int}(h:okEnc ll L k r=true):mayB k r=true/\okC ll L k=true/\k<=(cnt L ll:Int):=by
 unfold okEnc at h;rw [Bool.and_eq_true,Bool.and_eq_true,decide_eq_true_eq] at h;exact h
theorem rmay_any(w:World)(k r:Int):Calls Tryz.prog 211 #[.int .i64 k,.int .i64 r] w fun e w'=>e=.returned (.bool (mayB k r))/\w'=w:=by
 by_cases h1:1<=k
 ·by_cases h2:k<=12
  ·by_cases h3:0<=r
   ·by_cases h4:r<=4
    ·rw [show mayB k r=true from decide_eq_true ⟨h1,h2,h3,h4⟩];go_enter Tryz.func211,Tryz.ntmps211
     go_wp2;go_ret;exact⟨by simp,rfl⟩
    ·rw [show mayB k r=false from decide_eq_false fun h=>h4 h.2.2.2];go_enter Tryz.func211,Tryz.ntmps211
     go_wp2;go_ret;exact⟨by simp,rfl⟩
   ·rw [show mayB k r=false from decide_eq_false fun h=>h3 h.2.2.1];go_enter Tryz.func211,Tryz.ntmps211
    go_wp2;go_ret;exact⟨by simp,rfl⟩
  ·rw [show mayB k r=false from decide_eq_false fun h=>h2 h.2.1];go_enter Tryz.func211,Tryz.ntmps211
   go_wp2;go_ret;exact⟨by simp,rfl⟩
 ·rw [show mayB k r=false from decide_eq_false fun h=>h1 h.1];go_enter Tryz.func211,Tryz.ntmps211
  go_wp2;go_ret;exact⟨by simp,rfl⟩
theorem rRow_any(w:World)(k r c:Int):Calls Tryz.prog 213 #[.int .i64 k,.int .i64 r,.int .i64 c] w (OneAns w (okRow k r c) 2 k.toNat (gen k.toNat c.toNat)):=by
 have HM:=rmay_any w k r;have bad:OneAns w false 2 k.toNat (gen k.toNat c.toNat) (.returned (.tuple #[.slice none 0 0,.int .i64 2])) w:=⟨none,0,rfl,.inl ⟨rfl,rfl,rfl⟩,Below.refl _ _⟩
 cases hmay:mayB k r
 ·rw [show okRow k r c=false by unfold okRow; rw [hmay]; rfl];rw [hmay] at HM;clear hmay;go_enter Tryz.func213,Tryz.ntmps213
  go_wp2_with (go_at_call 211; refine HM.mono ?_; rintro e w' ⟨rfl,rfl⟩)
  go_ret2;exact bad
 ·obtain⟨h1,h2,h3,h4⟩:=mayB_true hmay;rw [hmay] at HM;by_cases h5:0<=c
  ·by_cases h6:c<k+r
   ·rw [show okRow k r c=true by unfold okRow; rw [hmay]; simp [h5,h6]];clear hmay bad;obtain⟨k,rfl⟩:=Int.eq_ofNat_of_zero_le (show 0<=k by omega);obtain⟨r,rfl⟩:=Int.eq_ofNat_of_zero_le (show 0<=r by omega);obtain⟨c,rfl⟩:=Int.eq_ofNat_of_zero_le h5;rw [Int.toNat_natCast,Int.toNat_natCast];by_cases hck:c<k
    ·have hmk:=run_make_row' (P:=Tryz.prog) 36 5 (.int .u8 0) 1 Tryz.underlying36 info5c rfl .i64 .i64 k (by omega) (by omega);have HO:Hid (Own (w.alloc (.cells (madeCells #[.int .u8 0] k) 5)) w.heap.size k k (fun _=>0)):=⟨Nat.le_refl _,by unfold maxLen; omega,_,row_made w 5 k _,fun i _=>rfl⟩
     obtain⟨wa,hwa⟩:∃ wa,wa=w.alloc (.cells (madeCells #[.int .u8 0] k) 5):=⟨_,rfl⟩
     have hmk2:=hmk w;rw [<- hwa] at hmk2 HO;have ba:Below w.heap.size w wa:=by rw [hwa]; exact bal _ _
     have c1:=HO.out.cell (i:=c) hck;have z1:=HO.out.frozen c;clear hwa hmk;have i1:(0:Int)<=(c:Int):=by omega
     have i2:(c:Int)<(k:Int):=by omega
     go_enter Tryz.func213,Tryz.ntmps213
     go_wp2_with (go_at_call 211; refine HM.mono ?_; rintro e w' ⟨rfl,hw'⟩; obtain rfl:=hw'.symm)
     go_ret2;have ho:=HO.out.set c 1;refine⟨_,_,rfl,.inr ⟨w.heap.size,rfl,Nat.le_refl _,ho.lt,ho.congr fun i hi=>?_⟩,ba.trans (((Keeps.refl w.heap.size (w.heap.size+1) wa).setCell (Nat.le_refl _) (by omega) c _).below ba.size (Nat.le_refl _))⟩;rw [gen_one hck];unfold one;by_cases e:i=c
     ·rw [if_pos e,if_pos e.symm]
     ·rw [if_neg e,if_neg (Ne.symm e)]
    ·have CY:=rcauchy_any w (k:Int) (r:Int);rw [show okN (k:Int) 12=true from decide_eq_true (by omega),show okN (r:Int) 4=true from decide_eq_true (by omega),Int.toNat_natCast,Int.toNat_natCast] at CY;go_enter Tryz.func213,Tryz.ntmps213
     go_wp2_with fail
     refine HM.mono ?_;rintro e w' ⟨rfl,hw'⟩;obtain rfl:=hw'.symm;go_wp2_with fail
     refine CY.mono ?_;intro e w2 hh;obtain⟨l,cl,G,U,rfl,hm,b2⟩:=mat_of hh (by omega);obtain⟨q,hq⟩:∃ q,c=k+q:=⟨c-k,by omega⟩
     have HQ:Hid (c=k+q):=hq;have hqr:q<r:=by omega
     have ck:=hm.cell_l hqr;have i1:(0:Int)<=(c:Int)-(k:Int):=by omega
     have i2:(c:Int)-(k:Int)<(r:Int):=by omega
     have i3:((c:Int)-(k:Int)).toNat=q:=by omega
     have HO:Hid (Own w2 (G q) k (U q) (cau k q)/\w.heap.size<=G q):=⟨hm.row q hqr,hm.los q hqr⟩
     clear hm hh CY hq;go_wp2_with fail
     go_ret2;refine⟨_,_,rfl,.inr ⟨G q,rfl,HO.out.2,HO.out.1.lt,HO.out.1.congr fun i _=>?_⟩,b2⟩;rw [HQ.out,gen_cau]
   ·rw [show okRow k r c=false by unfold okRow; simp [h6]];clear hmay;go_enter Tryz.func213,Tryz.ntmps213
    go_wp2_with (go_at_call 211; refine HM.mono ?_; rintro e w' ⟨rfl,rfl⟩)
    go_ret2;exact bad
  ·rw [show okRow k r c=false by unfold okRow; simp [h5]];clear hmay;go_enter Tryz.func213,Tryz.ntmps213
   go_wp2_with (go_at_call 211; refine HM.mono ?_; rintro e w' ⟨rfl,rfl⟩)
   go_ret2;exact bad
theorem rrow_good(w:World)(k r c:Nat)(hk1:1<=k)(hk:k<=12)(hr:r<=4)(hc:c<k+r):
  Calls Tryz.prog 213 #[.int .i64 (k:Int),.int .i64 (r:Int),.int .i64 (c:Int)] w fun e w'=>∃ g u,e=.returned (.tuple #[.slice (some ⟨g,0,none⟩) k u,.int .i64 0])/\w.heap.size<=g/\Own w' g k u (gen k c)/\Below w.heap.size w w':=by
 have HR:=rRow_any w k r c;have h1:okRow k r c=true:=by
  unfold okRow;rw [show mayB k r=true from decide_eq_true (by omega)];simp; omega
 rw [h1,Int.toNat_natCast,Int.toNat_natCast] at HR;refine HR.mono ?_;rintro e w' ⟨ao,cap,rfl,hs,hb⟩;rcases hs with ⟨_,h0,_⟩ | ⟨g,rfl,hg,_,ho⟩
 ·exact absurd (show k=0 from h0) (by omega)
 ·exact⟨g,cap,rfl,hg,ho,hb⟩
theorem rmade_any(w:World)(k r a z m:Nat)(lo:Option Addr)(cl:Nat)(A:Nat->Option Addr)(C L:Nat->Nat)(D:M)(hk1:1<=k)(hk:k<=12)(hr:r<=4)(hm1:1<=m)(hm:m<=65536)(haz:a+z<=k+r)(hl:Lst w lo k A C L D)(hL:∀ i,i<k->L i=m):
  Calls Tryz.prog 216 #[.int .i64 (k:Int),.int .i64 (r:Int),.int .i64 (a:Int),.int .i64 ((a:Int)+(z:Int)),.slice lo k cl] w fun e w'=>∃ ao cap T U,e=.returned (.slice ao z cap)/\Copied w' w.heap.size z (.slice ao z cap) T (fun _=>m) U (fun i=>enc k D (a+i))/\Below w.heap.size w w':=by
 obtain⟨j0,hj,hj0,hj1,hj2⟩:=info_parts info23c;have HL:Hid (Lst w lo k A C L D):=hl;have HLL:Hid (∀ i,i<k->L i=m):=hL;clear hl hL;go_enter Tryz.func216,Tryz.ntmps216
 go_wp2;go_loopw [11,12] (fun v x wr=>∃ j:Nat,j<=z/\x=.int .i64 ((a:Int)+(j:Int))/\(∃ ao cap,v=.slice ao j cap)/\Hid (∃ T U,Copied wr w.heap.size j v T (fun _=>m) U (fun i=>enc k D (a+i)))/\Hid (Below w.heap.size w wr)) (fun _ x _=>a+z-(intOf x).toNat)
 case atStart=>exact⟨0,Nat.zero_le _,by simp,⟨none,0,rfl⟩,⟨fun _=>none,fun _=>0,Copied.start _ _ _ _ _ _⟩,Below.refl _ _⟩
 case round =>
  obtain⟨j,hjz,rfl,⟨ao,cap,rfl⟩,hcop,hbel⟩:=hrel;by_cases hlt:j<z
  ·obtain⟨T,U,hcp⟩:=hcop.out;have HCP:Hid (Copied wr w.heap.size j (.slice ao j cap) T (fun _=>m) U (fun i=>enc k D (a+i))):=hcp;have hws:=hbel.out.size;have HR:=rrow_good wr k r (a+j) hk1 hk hr (by omega);rw [Int.natCast_add] at HR;obtain⟨XS,hXS⟩:∃ X,X=rowsOf j T (fun _=>m) U:=⟨_,rfl⟩
   have HXS:Hid (rowsOf j T (fun _=>m) U=XS):=hXS.symm;have hlt':(a:Int)+(j:Int)<(a:Int)+(z:Int):=by omega
   clear hcop hcp hXS;go_wp2_with fail
   refine HR.mono ?_;rintro e w1 ⟨g,u,rfl,hg,ho,b1⟩;have HS:=rdot_k w1 (some ⟨g,0,none⟩) lo k u cl m (gen k (a+j)) A C L D hk1 (by omega) hm1 hm ho.rd ((HL.out.below hbel.out).below b1) HLL.out;have B1:Hid (Below wr.heap.size wr w1):=b1;clear HR ho hg b1;go_wp2_with fail
   refine HS.mono ?_;rintro e w2 ⟨g2,rfl,hg2,ho2,hb2⟩;have HO2:Hid (Own w2 g2 m m (enc k D (a+j))):=ho2;have HB2:Hid (Below wr.heap.size wr w2):=below_step B1.out hb2 B1.out.size;have hg2':wr.heap.size<=g2:=Nat.le_trans B1.out.size hg2;have HC2:Hid (Copied w2 w.heap.size j (.slice ao j cap) T (fun _=>m) U (fun i=>enc k D (a+i))):=HCP.out.stay (Stay.of_below HB2.out);have HOV:Hid (w2.ownsRow w.heap.size 36 1 (.slice ao j cap) j XS):=by rw [<- HXS.out]; exact HC2.out.out
   have hs2:w.heap.size<=w2.heap.size:=Nat.le_trans hws HB2.out.size;clear ho2 hb2 HS;go_wp2_with (at_builtin; refine wpList_append_lies _ (by rfl) (.tmp 36) (.tmp 38) 33 (by rfl) w.heap.size 36 j0 (.slice none 0 0) 1 24 Tryz.underlying33 hj hj0 hj1 hj2 (by rfl) (by decide) (.slice ao j cap) j XS (by rfl) (HOV.out.alloc _) ⟨w2.heap.size,0,none⟩ 1 1 [.slice (some ⟨g2,0,none⟩) m m] (by rfl) (by rfl) (World.news_of_block (heap_alloc_new w2 _)) (by simp [Value.oneCell']) (by decide) (by unfold maxLen; omega) (by omega) (by simp; omega) (w2.heap.size+1) (by simp) ?_; intro g3 cap3 w3 hown3 hgrow3 _ _)
   have HC3:Hid (∃ T U,Copied w3 w.heap.size (j+1) (.slice (some ⟨g3,0,none⟩) (j+1) cap3) T (fun _=>m) U (fun i=>enc k D (a+i))):=by
    have hp:=HC2.out.push (owns_base (own_owns HO2.out) (by omega)) (fun i a b hi ea eb=>by
     have:=HCP.out.old hi ea;cases eb
     show a.block ≠ g2;omega) hgrow3 (by rw [HXS.out]; exact hown3)
    exact⟨_,_,hp.congr (fun _ _=>rfl) (fun i _=>put_self j i (fun _=>m)) (fun _ _=>rfl) (fun i _=>put_self j i (fun i=>enc k D (a+i)))⟩
   have HB3:Hid (Below w.heap.size w w3):=((below_step hbel.out HB2.out hws).alloc hs2 _).grown hgrow3 (by simp; omega) (fun q hq=>(HOV.out.lt q hq).1);clear hown3 hgrow3;go_roundw
   case rel=>exact⟨j+1,by omega,by go_num,⟨_,_,rfl⟩,HC3,HB3⟩
   case measure=>simp [intOf]; omega
  ·obtain rfl:j=z:=by omega
   have hnl:¬ ((a:Int)+(j:Int)<(a:Int)+(j:Int)):=by omega
   go_wp2;go_ret;obtain⟨T,U,hcp⟩:=hcop.out;exact⟨ao,cap,rfl,⟨T,U,hcp⟩,hbel.out⟩
def goodTo (all:Bool) (L:Nat->Nat) (n:Nat):Prop:=okT L n=true/\(all=true->cnt L n=n)
theorem goodTo_first{all:Bool}{L:Nat->Nat}{n:Nat}(h:¬ goodTo all L n):∃ q,q<n/\goodTo all L q/\¬ goodTo all L (q+1):=by
 induction n with
 | zero=>exact absurd ⟨rfl,fun _=>rfl⟩ h
 | succ n ih =>
  by_cases g:goodTo all L n
  ·exact⟨n,by omega,g,h⟩
  ·obtain⟨q,h1,h2⟩:=ih g;exact⟨q,by omega,h2⟩
theorem goodTo_le{all:Bool}{L:Nat->Nat}{i n:Nat}(h:goodTo all L n)(hi:i<=n):goodTo all L i:=by
 refine⟨okT_le h.1 hi,fun ha=>?_⟩;have h1:=h.2 ha;exact cnt_full fun j hj=>fun e=>by have:=cnt_lt (show j<n by omega) e; omega
theorem goodTo_cell{all:Bool}{L:Nat->Nat}{i:Nat}(h:goodTo all L (i+1))(hz:L i ≠ 0):L i<=65536/\L i=len0 L (i+1):=okT_step h.1 (by omega) hz
theorem goodTo_zero{all:Bool}{L:Nat->Nat}{i:Nat}(h:goodTo all L (i+1))(hz:L i=0):all=false:=by
 cases all
 ·rfl
 ·have:=h.2 rfl; have:=cnt_lt (show i<i+1 by omega) hz; omega
theorem not_good{all:Bool}{L:Nat->Nat}{q:Nat}(h:goodTo all L q)(hn:¬ goodTo all L (q+1)):(L q=0/\all=true)\/(L q ≠ 0/\(65536<L q\/(0<cnt L q/\L q ≠ len0 L q))):=by
 by_cases hz:L q=0
 ·left
  refine⟨hz,?_⟩;cases all
  ·exact absurd ⟨okT_succ h.1 (.inl hz),fun e=>by cases e⟩ hn
  ·rfl
 ·right
  refine⟨hz,?_⟩;by_cases h1:L q<=65536
  ·right
   by_cases h2:L q=len0 L (q+1)
   ·exact absurd ⟨okT_succ h.1 (.inr ⟨h1,h2⟩),fun e=>by rw [cnt_take hz,h.2 e]⟩ hn
   ·rcases len0_sel L q with ⟨g1,g2⟩ | ⟨g1,g2,g3⟩
    ·exact absurd (by rw [len0,if_pos g2]) h2
    ·exact⟨g1,fun e=>h2 (by rw [len0,if_neg g3]; exact e)⟩
  ·exact .inl (by omega)
theorem len0_skip{L:Nat->Nat}{n:Nat}(h:L n=0):len0 L (n+1)=len0 L n:=by
 rw [len0];by_cases e:len0 L n=0
 ·rw [if_pos e,h,e]
 ·rw [if_neg e]
def okA (ll:Nat) (L:Nat->Nat) (many:Int) (all:Bool):Bool:=okC ll L many && (!all || decide (cnt L ll=ll))
def Alike (w:World) (ll:Nat) (L:Nat->Nat) (many:Int) (all:Bool) (e:Ending) (w':World):Prop:=e=.returned (.tuple #[.int .i64 ((lenB (okA ll L many all) (cnt L ll):Nat):Int),.bool (okA ll L many all)])/\w'=w
theorem okA_good{ll:Nat}{L:Nat->Nat}{all:Bool}:okA ll L (ll:Int) all=true ↔ goodTo all L ll:=by
 unfold okA okC goodTo;cases all <;> simp
theorem ralike_any(w:World)(lo:Option Addr)(ll cl:Nat)(A:Nat->Option Addr)(C L:Nat->Nat)(H:M)(many:Int)(all:Bool)(hm:many<=16)(hl:Lst w lo ll A C L H):
  Calls Tryz.prog 212 #[.slice lo ll cl,.int .i64 many,.bool all] w (Alike w ll L many all):=by
 have HL:Hid (Lst w lo ll A C L H):=hl;clear hl;by_cases hmany:(ll:Int)=many
 ·subst hmany;have hbq:((ll:Int) != (ll:Int))=false:=by simp
  by_cases hgood:goodTo all L ll
  ·have HOK:Hid (okA ll L (ll:Int) all=true):=okA_good.2 hgood;have HG:Hid (goodTo all L ll):=hgood;clear hgood;go_enter Tryz.func212,Tryz.ntmps212
   go_wp2;go_loop [8,9,10] (fun t g x=>∃ i:Nat,i<=ll/\x=.int .i64 i/\t=.int .i64 (cnt L i:Int)/\g=.int .i64 (len0 L i:Int)) (fun _ _ x=>ll-(intOf x).toNat)
   case atStart=>exact⟨0,Nat.zero_le _,rfl,rfl,rfl⟩
   case round =>
    obtain⟨i,hil,rfl,rfl,rfl⟩:=hrel;by_cases hlt:i<ll
    ·obtain⟨b,off,rfl,hcl⟩:=HL.out.at_ (by omega);have ck:=hcl i hlt;have j1:(0:Int)<=(i:Int):=by omega
     have j2:(i:Int)<(ll:Int):=by omega
     have hg1:=goodTo_le HG.out (show i+1<=ll by omega);have hcb:=cnt_le L i;by_cases hz:L i=0
     ·have hall:=goodTo_zero hg1 hz;rw [hz] at ck;have HS:Hid (cnt L (i+1)=cnt L i/\len0 L (i+1)=len0 L i):=⟨cnt_skip hz,len0_skip hz⟩
      subst hall;clear hcl hz hg1;go_wp2;go_round
      case rel=>exact⟨i+1,by omega,by go_num,by rw [HS.out.1],by rw [HS.out.2]⟩
      case measure=>simp [intOf]; omega
     ·obtain⟨hle,heq⟩:=goodTo_cell hg1 hz;have HS:Hid (cnt L (i+1)=cnt L i+1/\len0 L (i+1)=L i):=⟨cnt_take hz,heq.symm⟩
      have hlp:0<L i:=by omega
      rcases len0_sel L i with ⟨g1,g2⟩ | ⟨g1,g2,g3⟩
      ·rw [g1,g2];have HC:Hid (cnt L i=0):=g1;clear hcl hz hg1 heq g1 g2;go_wp2;go_round
       case rel=>exact⟨i+1,by omega,by go_num,by rw [HS.out.1,HC.out]; rfl,by rw [HS.out.2]⟩
       case measure=>simp [intOf]; omega
      ·have hLe:L i=len0 L i:=by rw [heq,len0,if_neg g3]
       rw [<- hLe];have hbn:((L i:Int) != (L i:Int))=false:=by simp
       have hcp:(0:Int)<(cnt L i:Int):=by omega
       clear hcl hz hg1 heq g2 g3 hLe;go_wp2;go_round
       case rel=>exact⟨i+1,by omega,by go_num,by rw [HS.out.1]; go_num,by rw [HS.out.2]⟩
       case measure=>simp [intOf]; omega
    ·obtain rfl:i=ll:=by omega
     go_wp2;go_ret2;exact⟨by rw [HOK.out]; rfl,rfl⟩
  ·have HOK:Hid (okA ll L (ll:Int) all=false):=by show _=_; rw [<- Bool.not_eq_true]; exact fun h=>hgood (okA_good.1 h)
   obtain⟨q,hq,hq1,hq2⟩:=goodTo_first hgood;have HG:Hid (goodTo all L q):=hq1;have HN:Hid ((L q=0/\all=true)\/(L q ≠ 0/\(65536<L q\/(0<cnt L q/\L q ≠ len0 L q)))):=not_good hq1 hq2;clear hgood hq1 hq2;go_enter Tryz.func212,Tryz.ntmps212
   go_wp2;go_loop [8,9,10] (fun t g x=>∃ i:Nat,i<=q/\x=.int .i64 i/\t=.int .i64 (cnt L i:Int)/\g=.int .i64 (len0 L i:Int)) (fun _ _ x=>ll-(intOf x).toNat)
   case atStart=>exact⟨0,Nat.zero_le _,rfl,rfl,rfl⟩
   case round =>
    obtain⟨i,hil,rfl,rfl,rfl⟩:=hrel;have hlt:i<ll:=by omega
    obtain⟨b,off,rfl,hcl⟩:=HL.out.at_ (by omega);have ck:=hcl i hlt;have j1:(0:Int)<=(i:Int):=by omega
    have j2:(i:Int)<(ll:Int):=by omega
    have hcb:=cnt_le L i;by_cases hiq:i<q
    ·have hg1:=goodTo_le HG.out (show i+1<=q by omega);by_cases hz:L i=0
     ·have hall:=goodTo_zero hg1 hz;rw [hz] at ck;have HS:Hid (cnt L (i+1)=cnt L i/\len0 L (i+1)=len0 L i):=⟨cnt_skip hz,len0_skip hz⟩
      subst hall;clear hcl hz hg1;go_wp2;go_round
      case rel=>exact⟨i+1,by omega,by go_num,by rw [HS.out.1],by rw [HS.out.2]⟩
      case measure=>simp [intOf]; omega
     ·obtain⟨hle,heq⟩:=goodTo_cell hg1 hz;have HS:Hid (cnt L (i+1)=cnt L i+1/\len0 L (i+1)=L i):=⟨cnt_take hz,heq.symm⟩
      have hlp:0<L i:=by omega
      rcases len0_sel L i with ⟨g1,g2⟩ | ⟨g1,g2,g3⟩
      ·rw [g1,g2];have HC:Hid (cnt L i=0):=g1;clear hcl hz hg1 heq g1 g2;go_wp2;go_round
       case rel=>exact⟨i+1,by omega,by go_num,by rw [HS.out.1,HC.out]; rfl,by rw [HS.out.2]⟩
       case measure=>simp [intOf]; omega
      ·have hLe:L i=len0 L i:=by rw [heq,len0,if_neg g3]
       rw [<- hLe];have hbn:((L i:Int) != (L i:Int))=false:=by simp
       have hcp:(0:Int)<(cnt L i:Int):=by omega
       clear hcl hz hg1 heq g2 g3 hLe;go_wp2;go_round
       case rel=>exact⟨i+1,by omega,by go_num,by rw [HS.out.1]; go_num,by rw [HS.out.2]⟩
       case measure=>simp [intOf]; omega
    ·obtain rfl:i=q:=by omega
     rcases HN.out with ⟨hz,hall⟩ | ⟨hz,hbig | ⟨hc0,hne⟩⟩
     ·rw [hz] at ck;subst hall;clear hcl hz;go_wp2;go_ret2;exact⟨by rw [HOK.out]; rfl,rfl⟩
     ·have hlp:0<L i:=by omega
      clear hcl hz;go_wp2;go_ret2;exact⟨by rw [HOK.out]; rfl,rfl⟩
     ·have hlp:0<L i:=by omega
      have hcp:(0:Int)<(cnt L i:Int):=by omega
      have hbn:((L i:Int) != (len0 L i:Int))=true:=by simp; omega
      clear hcl hz hne;by_cases hle:L i<=65536
      ·go_wp2;go_ret2;exact⟨by rw [HOK.out]; rfl,rfl⟩
      ·have hbig:65536<L i:=by omega
       go_wp2;go_ret2;exact⟨by rw [HOK.out]; rfl,rfl⟩
 ·have hbq:((ll:Int) != many)=true:=by simp [hmany]
  have HOK:Hid (okA ll L many all=false):=by show _=_; unfold okA okC; rw [decide_eq_false hmany]; rfl
  clear hmany;go_enter Tryz.func212,Tryz.ntmps212
  go_wp2;go_ret2;exact⟨by rw [HOK.out]; rfl,rfl⟩
theorem okA_enc(ll:Nat)(L:Nat->Nat)(k:Int):okA ll L k true=(okC ll L k && decide (k<=(cnt L ll:Int))):=by
 unfold okA;cases h:okC ll L k
 ·rfl
 ·obtain⟨h1,_⟩:=okC_true h;have:=cnt_le L ll;simp only [Bool.true_and,Bool.not_true,Bool.false_or];apply decide_eq_decide.2
  omega
theorem okA_dec(ll:Nat)(L:Nat->Nat)(k:Int):okA ll L k false=okC ll L k:=by unfold okA; simp
theorem rEncode_any(w:World)(k r:Int)(lo:Option Addr)(ll cl:Nat)(A:Nat->Option Addr)(C L:Nat->Nat)(H:M)(hl:Lst w lo ll A C L H):
  Calls Tryz.prog 222 #[.int .i64 k,.int .i64 r,.slice lo ll cl] w (Out w (okEnc ll L k r) (errE (mayB k r) (okEnc ll L k r)) r.toNat (len0 L ll) (par k.toNat H)):=by
 have HM:=rmay_any w k r;cases hmay:mayB k r
 ·rw [show okEnc ll L k r=false by unfold okEnc; rw [hmay]; rfl];rw [hmay] at HM;clear hmay;go_enter Tryz.func222,Tryz.ntmps222
  go_wp2_with (go_at_call 211; refine HM.mono ?_; rintro e w' ⟨rfl,rfl⟩)
  go_ret2;exact Out.no (Below.refl _ _)
 ·obtain⟨h1,h2,h3,h4⟩:=mayB_true hmay;rw [hmay] at HM;have HT:=ralike_any w lo ll cl A C L H k true (by omega) hl;unfold Alike at HT;have hE:okEnc ll L k r=okA ll L k true:=by unfold okEnc; rw [hmay,Bool.true_and,okA_enc]
  cases hoa:okA ll L k true
  ·have HOK:Hid (okEnc ll L k r=false):=by show _=_; rw [hE,hoa]
   rw [hoa] at HT;clear hmay hoa hl hE;go_enter Tryz.func222,Tryz.ntmps222
   go_wp2_with (first | (go_at_call 211; refine HM.mono ?_; rintro e w' ⟨rfl,hw'⟩; obtain rfl:=hw'.symm) | (go_at_call 212; refine HT.mono ?_; rintro e w' ⟨rfl,hw'⟩; obtain rfl:=hw'.symm))
   go_ret2;rw [HOK.out];exact Out.no (Below.refl _ _)
  ·have hok:okEnc ll L k r=true:=by rw [hE,hoa]
   have HOK:Hid (okEnc ll L k r=true):=hok;rw [hoa] at HT;obtain⟨_,q2,q3⟩:=okEnc_true hok;obtain⟨hll,hokT⟩:=okC_true q2;subst hll;obtain⟨r,rfl⟩:=Int.eq_ofNat_of_zero_le h3;obtain⟨m1,m2,m3⟩:=alike_of hokT (by omega);have hLm:∀ i,i<ll->L i=len0 L ll:=fun i hi=>(m3 i hi).resolve_left (all_there (by omega) i hi);have HMD:=rmade_any w ll r ll r (len0 L ll) lo cl A C L H (by omega) (by omega) (by omega) m1 m2 (by omega) hl hLm;rw [Int.toNat_natCast,Int.toNat_natCast];clear hmay hoa hl hE hok q2 q3 hokT m3 hLm;go_enter Tryz.func222,Tryz.ntmps222
   go_wp2_with (first | (go_at_call 211; refine HM.mono ?_; rintro e w' ⟨rfl,hw'⟩; obtain rfl:=hw'.symm) | (go_at_call 212; refine HT.mono ?_; rintro e w' ⟨rfl,hw'⟩; obtain rfl:=hw'.symm) | (go_at_call 216; refine HMD.mono ?_; rintro e w2 ⟨ao2,cap2,T,U,rfl,hcop,b2⟩))
   go_ret2;rw [HOK.out];exact⟨ao2,cap2,T,U,rfl,hcop,b2⟩
theorem rDecode_any (w : World) (k r : Int) (lo : Option Addr) (ll cl : Nat) (A : Nat -> Option Addr) (C L : Nat -> Nat) (H : M) (hl : Lst w lo ll A C L H) :
    Calls Tryz.prog 140 #[.int .i64 k, .int .i64 r, .slice lo ll cl] w (Out w (okDec ll L k r) (errD (mayB k r) (okC ll L (k + r)) (okDec ll L k r)) (k.toNat + r.toNat) (len0 L ll) (enc k.toNat (dec k.toNat (sel L ll) H))) := by
  have HM := rmay_any w k r
  cases hmay : mayB k r
  · rw [show okDec ll L k r = false by unfold okDec; rw [hmay]; rfl]
    rw [hmay] at HM
    clear hmay
    go_enter Tryz.func140, Tryz.ntmps140
    go_wp2_with (go_at_call 211; refine HM.mono ?_; rintro e w' ⟨rfl, rfl⟩)
    go_ret2
    exact Out.no (Below.refl _ _)
  · obtain ⟨h1, h2, h3, h4⟩ := mayB_true hmay
    rw [hmay] at HM
    have HT := ralike_any w lo ll cl A C L H (k + r) false (by omega) hl
    unfold Alike at HT
    rw [okA_dec] at HT
    cases hoc : okC ll L (k + r)
    · have HOK : Hid (okDec ll L k r = false) := by show _ = _; unfold okDec; rw [hoc, Bool.false_and, Bool.and_false]
      rw [hoc] at HT
      clear hmay hoc hl
      go_enter Tryz.func140, Tryz.ntmps140
      go_wp2_with (first | (go_at_call 211; refine HM.mono ?_; rintro e w' ⟨rfl, hw'⟩; obtain rfl := hw'.symm) | (go_at_call 212; refine HT.mono ?_; rintro e w' ⟨rfl, hw'⟩; obtain rfl := hw'.symm))
      go_ret2
      rw [HOK.out]
      exact Out.no (Below.refl _ _)
    · obtain ⟨hll, hokT⟩ := okC_true hoc
      obtain ⟨k, rfl⟩ := Int.eq_ofNat_of_zero_le (show 0 <= k by omega)
      obtain ⟨r, rfl⟩ := Int.eq_ofNat_of_zero_le h3
      obtain rfl : ll = k + r := by omega
      clear hll
      rw [Int.toNat_natCast, Int.toNat_natCast]
      rw [hoc] at HT
      obtain ⟨cn, hcn⟩ : ∃ cn, cn = cnt L (k + r) := ⟨_, rfl⟩
      rw [<- hcn, show lenB true cn = cn from rfl] at HT
      by_cases hck : cn < k
      · have HOK : Hid (okDec (k + r) L k r = false) := by show _ = _; unfold okDec; rw [show decide ((k : Int) <= (cnt L (k + r) : Int)) = false from decide_eq_false (by omega), Bool.and_false, Bool.and_false]
        have hci : (cn : Int) < (k : Int) := by omega
        clear hmay hoc hl hokT hcn
        go_enter Tryz.func140, Tryz.ntmps140
        go_wp2_with (first | (go_at_call 211; refine HM.mono ?_; rintro e w' ⟨rfl, hw'⟩; obtain rfl := hw'.symm) | (go_at_call 212; refine HT.mono ?_; rintro e w' ⟨rfl, hw'⟩; obtain rfl := hw'.symm))
        go_ret2
        rw [HOK.out]
        exact Out.no (Below.refl _ _)
      · have HOK : Hid (okDec (k + r) L k r = true) := by show _ = _; unfold okDec; rw [hmay, hoc, show decide ((k : Int) <= (cnt L (k + r) : Int)) = true from decide_eq_true (by omega)]; rfl
        obtain ⟨m1, m2, m3⟩ := alike_of hokT (by omega)
        obtain ⟨m, hm⟩ : ∃ m, m = len0 L (k + r) := ⟨_, rfl⟩
        rw [<- hm] at m1 m2 m3 ⊢
        have HLm : Hid (∀ i, i < k + r -> L i = 0 \/ L i = m) := m3
        have HSEL : Hid (Sel L (k + r) cn (sel L (k + r))) := by rw [hcn]; exact sel_is L (k + r)
        have HAT : Hid (∀ i, i < k + r -> L i ≠ 0 -> sel L (k + r) (cnt L i) = i) := fun i hi hz => sel_at hi hz
        have HCN : Hid (cnt L (k + r) = cn) := hcn.symm
        obtain ⟨R, hR⟩ : ∃ R, R = sel L (k + r) := ⟨_, rfl⟩
        rw [<- hR] at HSEL HAT ⊢
        obtain ⟨j0, hj, hj0, hj1, hj2⟩ := info_parts info23c
        have HL : Hid (Lst w lo (k + r) A C L H) := hl
        obtain ⟨bl, ol, rfl, hcl⟩ := hl.at_ (by omega)
        have HCL : Hid (∀ i, i < k + r -> w.cell? ⟨bl, ol + i, none⟩ = some (.slice (A i) (L i) (C i))) := hcl
        have hci : ¬ ((cn : Int) < (k : Int)) := by omega
        clear hmay hoc hl hokT m3 hcn hm hR hcl
        go_enter Tryz.func140, Tryz.ntmps140
        go_wp2_with (first | (go_at_call 211; refine HM.mono ?_; rintro e w' ⟨rfl, hw'⟩; obtain rfl := hw'.symm) | (go_at_call 212; refine HT.mono ?_; rintro e w' ⟨rfl, hw'⟩; obtain rfl := hw'.symm))
        go_loopw [10, 11, 12] (fun v u x wr => ∃ i : Nat, i <= k + r /\ x = .int .i64 i /\ cnt L i <= k /\ (∃ a1 c1, v = .slice a1 (cnt L i) c1) /\ (∃ a2 c2, u = .slice a2 (cnt L i) c2) /\ Hid (∃ G U, Picked wr w.heap.size k m (cnt L i) v u G U A C R) /\ Hid (Below w.heap.size w wr)) (fun _ _ x _ => k + r - (intOf x).toNat)
        case atStart => exact ⟨0, Nat.zero_le _, rfl, Nat.zero_le _, ⟨none, 0, rfl⟩, ⟨none, 0, rfl⟩, ⟨_, _, Picked.start _ _ _ _ _ _ _⟩, Below.refl _ _⟩
        case round =>
          obtain ⟨i, hil, rfl, hck2, ⟨a1, c1, rfl⟩, ⟨a2, c2, rfl⟩, hpick, hbel⟩ := hrel
          obtain ⟨t, ht⟩ : ∃ t, t = cnt L i := ⟨_, rfl⟩
          rw [<- ht] at hpick hck2 ⊢
          by_cases hgo : i < k + r /\ t < k
          · obtain ⟨hg1, hg2⟩ := hgo
            have hws := hbel.out.size
            have ck := held (HCL.out i hg1) hbel.out
            have i1 : (0 : Int) <= (i : Int) := by omega
            have i2 : (i : Int) < (k : Int) + (r : Int) := by omega
            have i3 : (t : Int) < (k : Int) := by omega
            by_cases hz : L i = 0
            · rw [hz] at ck
              have HCT : Hid (cnt L (i + 1) = t) := by show _ = _; rw [cnt_skip hz, ht]
              clear hz ht
              go_wp2
              go_roundw
              case rel => exact ⟨i + 1, by omega, by go_num, by rw [HCT.out]; omega, ⟨a1, c1, by rw [HCT.out]⟩, ⟨a2, c2, by rw [HCT.out]⟩, by rw [HCT.out]; exact hpick, hbel⟩
              case measure => simp [intOf]; omega
            · have HCT : Hid (cnt L (i + 1) = t + 1) := by show _ = _; rw [cnt_take hz, ht]
              have hLi : L i = m := (HLm.out i hg1).resolve_left hz
              have HRT : Hid (R t = i) := by show _ = _; rw [ht]; exact HAT.out i hg1 hz
              have hmp : (0 : Int) < (m : Int) := by omega
              rw [hLi] at ck
              obtain ⟨G, U, hp⟩ := hpick.out
              have HP : Hid (Picked wr w.heap.size k m t (.slice a1 t c1) (.slice a2 t c2) G U A C R) := hp
              have HR := rrow_good wr k r i (by omega) (by omega) (by omega) hg1
              obtain ⟨XS, hXS⟩ : ∃ X, X = rowsOf t (fun s => some ⟨G s, 0, none⟩) (fun _ => k) U := ⟨_, rfl⟩
              have HXS : Hid (rowsOf t (fun s => some ⟨G s, 0, none⟩) (fun _ => k) U = XS) := hXS.symm
              obtain ⟨YS, hYS⟩ : ∃ Y, Y = rowsOf t (fun s => A (R s)) (fun _ => m) (fun s => C (R s)) := ⟨_, rfl⟩
              have HYS : Hid (rowsOf t (fun s => A (R s)) (fun _ => m) (fun s => C (R s)) = YS) := hYS.symm
              have dq := HCL.out i hg1
              rw [hLi] at dq
              clear hz ht hLi hpick hp hXS hYS
              go_wp2_with (first
                | (go_at_call 213; refine HR.mono ?_; rintro e w1 ⟨g, u, rfl, hg, ho, bb1⟩
                   have S1 : Hid (Stay wr w1) := Stay.of_below bb1
                   have HP1 : Hid (Picked w1 w.heap.size k m t (.slice a1 t c1) (.slice a2 t c2) G U A C R) := HP.out.stay S1.out
                   have HO1 : Hid (Own w1 g k u (gen k (R t))) := (by rw [HRT.out]; exact ho)
                   have HB1 : Hid (Below w.heap.size w w1) := below_step hbel.out bb1 hws
                   have HOV : Hid (w1.ownsRow w.heap.size 36 1 (.slice a1 t c1) t XS) := (by rw [<- HXS.out]; exact HP1.out.rows)
                   have HOU : Hid (w1.ownsRow w.heap.size 36 1 (.slice a2 t c2) t YS) := (by rw [<- HYS.out]; exact HP1.out.cells)
                   have hs1 : w.heap.size <= w1.heap.size := HB1.out.size
                   clear hg ho bb1)
                | (at_builtin; refine wpList_append_lies _ (by rfl) (.tmp 64) (.tmp 66) 33 (by rfl) w.heap.size 36 j0 (.slice none 0 0) 1 24 Tryz.underlying33 hj hj0 hj1 hj2 (by rfl) (by decide) (.slice a1 t c1) t XS (by rfl) (HOV.out.alloc _) ⟨w1.heap.size, 0, none⟩ 1 1 [.slice (some ⟨g, 0, none⟩) k u] (by rfl) (by rfl) (World.news_of_block (heap_alloc_new w1 _)) (by simp [Value.oneCell']) (by decide) (by unfold maxLen; omega) (by omega) (by simp; omega) (w1.heap.size + 1) (by simp) ?_; intro g2 cap2 w2 hown2 hgrow2 hwh2 _
                   have HG2 : Hid ((w1.alloc (.cells #[.slice (some ⟨g, 0, none⟩) k u] 36)).grownBy w2 (Value.slice a1 t c1).ownBlock) := hgrow2
                   have HW2 : Hid (w2.ownsRow w.heap.size 36 1 (.slice (some ⟨g2, 0, none⟩) (t + 1) cap2) (t + 1) (XS ++ [.slice (some ⟨g, 0, none⟩) k u])) := hown2
                   have HH2 : Hid ((Value.slice a1 t c1).ownBlock = some g2 \/ g2 = w1.heap.size + 1) := hwh2
                   have HB2 : Hid (Below w.heap.size w w2) := (HB1.out.alloc hs1 _).grown hgrow2 (by simp; omega) (fun q hq => (HOV.out.lt q hq).1)
                   have d2 : w2.cell? ⟨bl, ol + i, none⟩ = some (.slice (A i) m (C i)) := held dq HB2.out
                   have HOU2 : Hid (w2.ownsRow w.heap.size 36 1 (.slice a2 t c2) t YS) := (HOU.out.alloc _).kept hgrow2 (apart_or HP1.out.apart)
                   have hs2 : w.heap.size <= w2.heap.size := HB2.out.size
                   clear hown2 hgrow2 hwh2)
                | (at_builtin; refine wpList_append_lies _ (by rfl) (.tmp 68) (.tmp 73) 33 (by rfl) w.heap.size 36 j0 (.slice none 0 0) 1 24 Tryz.underlying33 hj hj0 hj1 hj2 (by rfl) (by decide) (.slice a2 t c2) t YS (by rfl) (HOU2.out.alloc _) ⟨w2.heap.size, 0, none⟩ 1 1 [.slice (A i) m (C i)] (by rfl) (by rfl) (World.news_of_block (heap_alloc_new w2 _)) (by simp [Value.oneCell']) (by decide) (by unfold maxLen; omega) (by omega) (by simp; omega) (w2.heap.size + 1) (by simp) ?_; intro g3 cap3 w3 hown3 hgrow3 hwh3 _))
              have HP3 : Hid (∃ G U, Picked w3 w.heap.size k m (t + 1) (.slice (some ⟨g2, 0, none⟩) (t + 1) cap2) (.slice (some ⟨g3, 0, none⟩) (t + 1) cap3) G U A C R) :=
                ⟨_, _, HP1.out.step HO1.out HG2.out (by rw [HXS.out]; exact HW2.out) HH2.out hgrow3 (by rw [HYS.out, HRT.out]; exact hown3) hwh3⟩
              have HB3 : Hid (Below w.heap.size w w3) := (HB2.out.alloc hs2 _).grown hgrow3 (by simp; omega) (fun q hq => (HOU2.out.lt q hq).1)
              clear hown3 hgrow3 hwh3
              go_roundw
              case rel => exact ⟨i + 1, by omega, by go_num, by rw [HCT.out]; omega, ⟨_, _, by rw [HCT.out]⟩, ⟨_, _, by rw [HCT.out]⟩, by rw [HCT.out]; exact HP3, HB3⟩
              case measure => simp [intOf]; omega
          · have htk : t = k := by
              by_cases e : i < k + r
              · have : ¬ t < k := fun g => hgo ⟨e, g⟩
                omega
              · obtain rfl : i = k + r := by omega
                have := HCN.out
                omega
            subst htk
            obtain ⟨G, U, hp⟩ := hpick.out
            have HI := rinverse_any wr a1 t c1 _ _ _ _ hp.lst1
            rw [okInv_of (by omega) (by omega) (rows_inv (by omega) (show t + r <= 16 by omega) (fun s hs => HSEL.out.lt s (by omega)) (fun s s' h1 h2 => HSEL.out.rise s s' h1 (by omega)))] at HI
            have HF : Hid (Lst wr a2 t (fun s => A (R s)) (fun s => C (R s)) (fun _ => m) (fun s => H (R s))) := hp.lst2 fun s hs => by
              have hqn := HSEL.out.lt s (by omega)
              have := (HL.out.rd (R s) hqn).below hbel.out
              rcases HLm.out (R s) hqn with e | e
              · exact absurd e (HSEL.out.there s (by omega))
              · rwa [e] at this
            have HII : Hid (Calls Tryz.prog 214 #[.slice a1 t c1] wr (Made wr true (errM (okSq t fun _ => t) 5) t t (invOf t (rowsR t R)))) := HI
            have HB : Hid (Below w.heap.size w wr) := hbel.out
            obtain ⟨wm, rfl⟩ : ∃ x, x = wr := ⟨wr, rfl⟩
            have hnk : ¬ ((t : Int) < (t : Int)) := by omega
            have hcase : i < t + r \/ ¬ i < t + r := by omega
            clear hpick hp HI hgo ht hck2 hbel
            rcases hcase with hi2 | hi2
            all_goals
              go_wp2_with fail
              refine HII.out.mono ?_
              intro e wi hh
              obtain ⟨lb, cb, Gb, Ub, rfl, hmb, hbi⟩ := mat_of hh (by omega)
              have HMB : Hid (Mat wi wm.heap.size wi.heap.size lb cb t t Gb Ub (invOf t (rowsR t R))) := hmb
              have HFI : Hid (Lst wi a2 t (fun s => A (R s)) (fun s => C (R s)) (fun _ => m) (fun s => H (R s))) := HF.out.below hbi
              have HBI : Hid (Below w.heap.size w wi) := below_step HB.out hbi HB.out.size
              clear hh hmb hbi HII
              go_wp2_with fail
              go_loopw [17, 18] (fun v x wr => ∃ i : Nat, i <= t /\ x = .int .i64 i /\ (∃ ao cap, v = .slice ao i cap) /\ Hid (∃ T U, Copied wr wi.heap.size i v T (fun _ => m) U (dec t R H)) /\ Hid (Below wi.heap.size wi wr)) (fun _ x _ => t - (intOf x).toNat)
              case atStart => exact ⟨0, Nat.zero_le _, rfl, ⟨none, 0, rfl⟩, ⟨fun _ => none, fun _ => 0, Copied.start _ _ _ _ _ _⟩, Below.refl _ _⟩
              case round =>
                obtain ⟨i, hit, rfl, ⟨ao, cap, rfl⟩, hcop, hbel⟩ := hrel
                by_cases hlt : i < t
                · obtain ⟨T, U', hcp⟩ := hcop.out
                  have HCP : Hid (Copied wr wi.heap.size i (.slice ao i cap) T (fun _ => m) U' (dec t R H)) := hcp
                  have hbw := hbel.out.size
                  obtain ⟨XS, hXS⟩ : ∃ X, X = rowsOf i T (fun _ => m) U' := ⟨_, rfl⟩
                  have HXS : Hid (rowsOf i T (fun _ => m) U' = XS) := hXS.symm
                  have i1 : (0 : Int) <= (i : Int) := by omega
                  have i3 : (i : Int) < (t : Int) := by omega
                  have d2 := held (HMB.out.cell_l hlt) hbel.out
                  have HS := rdot_k wr (some ⟨Gb i, 0, none⟩) a2 t (Ub i) c2 m (invOf t (rowsR t R) i) _ _ _ _ (by omega) (by omega) m1 m2 ((HMB.out.row i hlt).below hbel.out).rd (HFI.out.below hbel.out) (fun _ _ => rfl)
                  have HSS : Hid (Calls Tryz.prog 215 #[.slice (some ⟨Gb i, 0, none⟩) t (Ub i), .slice a2 t c2] wr (New wr m (dec t R H i))) := HS
                  clear hcop hcp hXS HS
                  go_wp2_with (first
                    | (go_at_call 215; refine HSS.out.mono ?_; rintro e w2 ⟨g2, rfl, hg2, ho2, hb2⟩
                       have HO2 : Hid (Own w2 g2 m m (dec t R H i)) := ho2
                       have HB2 : Hid (Below wr.heap.size wr w2) := hb2
                       have HC2 : Hid (Copied w2 wi.heap.size i (.slice ao i cap) T (fun _ => m) U' (dec t R H)) := HCP.out.stay (Stay.of_below hb2)
                       have HOV : Hid (w2.ownsRow wi.heap.size 36 1 (.slice ao i cap) i XS) := (by rw [<- HXS.out]; exact HC2.out.out)
                       have hs2 : wi.heap.size <= w2.heap.size := Nat.le_trans hbw hb2.size
                       clear ho2 hb2 HSS)
                    | (at_builtin; refine wpList_append_lies _ (by rfl) (.tmp 94) (.tmp 96) 33 (by rfl) wi.heap.size 36 j0 (.slice none 0 0) 1 24 Tryz.underlying33 hj hj0 hj1 hj2 (by rfl) (by decide) (.slice ao i cap) i XS (by rfl) (HOV.out.alloc _) ⟨w2.heap.size, 0, none⟩ 1 1 [.slice (some ⟨g2, 0, none⟩) m m] (by rfl) (by rfl) (World.news_of_block (heap_alloc_new w2 _)) (by simp [Value.oneCell']) (by decide) (by unfold maxLen; omega) (by omega) (by simp; omega) (w2.heap.size + 1) (by simp) ?_; intro g3 cap3 w3 hown3 hgrow3 _ _))
                  have HC3 : Hid (∃ T U, Copied w3 wi.heap.size (i + 1) (.slice (some ⟨g3, 0, none⟩) (i + 1) cap3) T (fun _ => m) U (dec t R H)) := by
                    have hp := HC2.out.push (owns_base (own_owns HO2.out) (by omega)) (fun x a b hx ea eb => by
                      have := HCP.out.old hx ea
                      cases eb
                      show a.block ≠ g2
                      omega) hgrow3 (by rw [HXS.out]; exact hown3)
                    exact ⟨_, _, hp.congr (fun _ _ => rfl) (fun x _ => put_self i x (fun _ => m)) (fun _ _ => rfl) (fun x _ => put_self i x (dec t R H))⟩
                  have HB3 : Hid (Below wi.heap.size wi w3) := ((below_step hbel.out HB2.out hbw).alloc hs2 _).grown hgrow3 (by simp; omega) (fun q hq => (HOV.out.lt q hq).1)
                  clear hown3 hgrow3
                  go_roundw
                  case rel => exact ⟨i + 1, by omega, by go_num, ⟨_, _, rfl⟩, HC3, HB3⟩
                  case measure => simp [intOf]; omega
                · obtain rfl : i = t := by omega
                  obtain ⟨T, U', hcp⟩ := hcop.out
                  have HMD0 := rmade_any wr i r 0 (i + r) m ao cap T U' (fun _ => m) (dec i R H) (by omega) (by omega) (by omega) m1 m2 (by omega) hcp.lst (fun _ _ => rfl)
                  rw [show ((0 : Nat) : Int) = 0 from rfl, Int.zero_add, Int.natCast_add] at HMD0
                  have HMD : Hid (Calls Tryz.prog 216 #[.int .i64 (i : Int), .int .i64 (r : Int), .int .i64 0, .int .i64 ((i : Int) + (r : Int)), .slice ao i cap] wr fun e w' => ∃ ao cap T U, e = .returned (.slice ao (i + r) cap) /\ Copied w' wr.heap.size (i + r) (.slice ao (i + r) cap) T (fun _ => m) U (fun x => enc i (dec i R H) (0 + x)) /\ Below wr.heap.size wr w') := HMD0
                  have HBW : Hid (Below w.heap.size w wr) := below_step HBI.out hbel.out HBI.out.size
                  clear hcop hcp HMD0
                  go_wp2_with (go_at_call 216; refine HMD.out.mono ?_; rintro e w9 ⟨ao9, cap9, T9, U9, rfl, hc9, b9⟩)
                  go_ret2
                  rw [HOK.out]
                  exact ⟨ao9, cap9, T9, U9, rfl, (hc9.congr (fun _ _ => rfl) (fun _ _ => rfl) (fun _ _ => rfl) (fun x _ => by rw [Nat.zero_add])).base HBW.out.size, below_step HBW.out b9 HBW.out.size⟩
end Go.Proofs.YtemlojjkokooeaaGreat.Cod
