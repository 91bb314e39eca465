import Derived.Test.YtemlojjkokooeaaGreatTm30
open Go.Value renaming slice->J,int->I,tuple->jn
open Go.RowKit renaming Hid->O,Below->je
open Option renaming none->Z,some->ja
open Go.Proofs.Tryz renaming prog->N
open Go.IntKind renaming i64->W,u8->jl
open Nat renaming zero_le->jb,le_refl->ji
open Bool renaming false->jc,true->jj
open Go.Ending renaming returned->jd
open Int renaming toNat_natCast->jf
open Go.RowKit.Below renaming refl->jg
open Go renaming World->jh,Calls->jk,Addr->jm,Value->jq
open Go.Obj renaming cells->jo
open Go.Operand renaming tmp->jp
set_option maxHeartbeats 16000000
set_option maxRecDepth 100000
namespace Go.Proofs.YtemlojjkokooeaaGreat.Cod.Gf
theorem inv_unique(a b:Nat)(ha:a<256)(hb:b<256)(h:mul a b=1):b=pw a 254:=by
 have h0:a ≠ 0:=by intro e;rw [e,zero_mul] at h;exact absurd h zb
 have e1:mul (pw a 254) (mul a b)=pw a 254:=by rw [h];exact mul_one _ (pw_lt a 254)
 rw [<- mul_assoc _ _ _ (pw_lt a 254) ha hb,mul_comm _ _ (pw_lt a 254) ha,mul_inv a ha h0,one_mul b hb] at e1;exact e1
theorem pw_ne_zero(a n:Nat)(ha:a<256)(h:a ≠ 0):pw a n ≠ 0:=by
 obtain⟨i,_,rfl⟩:=bV a ha h;rw [pw_E];exact lT _
def longTo:Nat->Nat->Nat->Nat
  | 0,_,_=>0
  | k+1,a,b=>longTo k a b ^^^ pick (b.testBit k) (a <<< k)
def redStep (x i:Nat):Nat:=x ^^^ pick (x.testBit (i+8)) (285 <<< i)
def redTo:Nat->Nat->Nat
  | 0,x=>x
  | k+1,x=>redStep (redTo k x) (6-k)
theorem nS(x y i:Nat):redStep (x ^^^ y) i=redStep x i ^^^ redStep y i:=by
 unfold redStep;rw [Nat.testBit_xor,mu,xor4]
theorem tM(k x y:Nat):redTo k (x ^^^ y)=redTo k x ^^^ redTo k y:=by
 induction k with
 | zero=>rfl
 | succ k ih=>show redStep (redTo k (x ^^^ y)) _=redStep _ _ ^^^ redStep _ _;rw [ih,nS]
theorem iY(k:Nat):redTo k 0=0:=by
 induction k with
 | zero=>rfl
 | succ k ih=>show redStep (redTo k 0) _=0;rw [ih];unfold redStep;rw [Nat.zero_testBit];exact Nat.xor_self 0
theorem pR(k:Nat)(c:Bool)(x:Nat):redTo k (pick c x)=pick c (redTo k x):=by
 cases c
 ·exact iY k
 ·rfl
theorem tz(k a:Nat)(hk:k<8)(ha:a<256):redTo 7 (a <<< k)=dblTo k a:=by
 have:=all256 (p:=fun a=>(List.range 8).all fun k=>redTo 7 (a <<< k) == dblTo k a) (by decide +kernel) a ha;exact eq_of_beq (List.all_eq_true.1 this k (List.mem_range.2 hk))
theorem rD(k a b:Nat)(hk:k<=8)(ha:a<256):redTo 7 (longTo k a b)=sumTo k a b:=by
 induction k with
 | zero=>exact iY 7
 | succ k ih =>
  show redTo 7 (longTo k a b ^^^ pick _ _)=sumTo k a b ^^^ pick _ _;rw [tM,ih za,pR,tz k a za ha]
theorem red_long(a b:Nat)(ha:a<256):redTo 7 (longTo 8 a b)=mul a b:=rD 8 a b zb ha
theorem longTo_lt(k a b:Nat)(hk:k<=8)(ha:a<256):longTo k a b<32768:=by
 induction k with
 | zero=>show 0<32768;decide
 | succ k ih =>
  refine Nat.xor_lt_two_pow (n:=15) (ih za) ?_;unfold pick;split
  ·rw [Nat.shiftLeft_eq];have h1:2 ^ k<=2 ^ 7:=Nat.pow_le_pow_right zb za;have h2:a*2 ^ k<=255*2 ^ 7:=Nat.mul_le_mul za h1;omega
  ·decide
theorem redTo_lt(k x:Nat)(hx:x<32768):redTo k x<32768:=by
 induction k with
 | zero=>exact hx
 | succ k ih =>
  refine Nat.xor_lt_two_pow (n:=15) ih ?_;unfold pick;split
  ·rw [Nat.shiftLeft_eq];have h1:2 ^ (6-k)<=2 ^ 6:=Nat.pow_le_pow_right zb za;have h2:285*2 ^ (6-k)<=285*2 ^ 6:=Nat.mul_le_mul za h1;omega
  ·decide
end Go.Proofs.YtemlojjkokooeaaGreat.Cod.Gf
namespace Go.Proofs.YtemlojjkokooeaaGreat.Cod
open Go.RowKit
theorem oU(k:Nat):((2:Int) ^ k)=((2 ^ k:Nat):Int):=by rw [Int.natCast_pow];rfl
theorem nE(m k:Nat):(m:Int) / 2 ^ k=((m / 2 ^ k:Nat):Int):=by rw [oU,Int.natCast_ediv]
theorem Ej(m k:Nat)(hm:m<256):(bits .and jl ((m:Int) / 2 ^ k) 1 == 1)=m.testBit k:=by
 have h1:m / 2 ^ k<256:=Nat.lt_of_le_of_lt (Nat.div_le_self _ _) hm;rw [nE,show (1:Int)=((1:Nat):Int) from rfl,u8_and_nat _ _ h1 zb,nat_mask1,Nat.testBit_eq_decide_div_mod_eq];by_cases h:m / 2 ^ k % 2=1
 ·rw [h,zm rfl];rfl
 ·rw [zp h,show m / 2 ^ k % 2=0 by omega];rfl
theorem Ch(m k:Nat)(hm:m<32768):(bits .and .u32 ((m:Int) / 2 ^ k) 1 == 1)=m.testBit k:=by
 have h1:m / 2 ^ k<32768:=Nat.lt_of_le_of_lt (Nat.div_le_self _ _) hm;rw [nE,show (1:Int)=((1:Nat):Int) from rfl,u32_and_nat _ _ za zb,nat_mask1,Nat.testBit_eq_decide_div_mod_eq];by_cases h:m / 2 ^ k % 2=1
 ·rw [h,zm rfl];rfl
 ·rw [zp h,show m / 2 ^ k % 2=0 by omega];rfl
theorem tt(L n k:Nat)(hL:L<32768)(hn:n<512)(hk:k<8):bits .xor .u32 (L:Int) ((n:Int)*2 ^ k % 4294967296)=((L ^^^ n <<< k:Nat):Int):=by
 have h1:2 ^ k<=2 ^ 7:=Nat.pow_le_pow_right zb za;have h2:n*2 ^ k<=511*2 ^ 7:=Nat.mul_le_mul za h1;have h3:(n:Int)*2 ^ k % 4294967296=((n <<< k:Nat):Int):=by
  rw [oU,Nat.shiftLeft_eq,<- Int.natCast_mul];omega
 rw [h3,u32_xor_nat _ _ za (by rw [Nat.shiftLeft_eq];omega)]
theorem iN(n m:Nat)(w:jh)(hn:n<256)(hm:m<256):
  jk N 321 #[I jl (n:Int),I jl (m:Int)] w fun e w'=>e=jd (I jl ((Gf.mul n m:Nat):Int))/\w'=w:=by
 go_enter Tryz.func321,Tryz.ntmps321
 go_wp2;go_loop [5,6] (fun x i=>∃ k:Nat,k<=8/\i=I .u64 k/\x=I .u32 ((Gf.longTo k n m:Nat):Int)) (fun _ i=>8-(intOf i).toNat)
 case atStart=>exact⟨0,jb _,rfl,rfl⟩
 case round =>
  obtain⟨k,hk,rfl,rfl⟩:=hrel;have hl:Gf.longTo k n m<32768:=Gf.longTo_lt k n m hk hn;by_cases hlt:k<8
  ·have EK:=Ej m k hm;have HX:O (bits .xor .u32 ((Gf.longTo k n m:Nat):Int) ((n:Int)*2 ^ k % 4294967296)=((Gf.longTo k n m ^^^ n <<< k:Nat):Int)):=tt _ n k hl za hlt;cases hb:m.testBit k
   ·have HB:=am hb;rw [hb] at EK;clear hb;go_wp2;go_round
    case rel=>exact⟨k+1,za,by go_num,by rw [Gf.longTo,HB.out];exact congrArg (fun q:Nat=>Value.int .u32 (q:Int)) (Nat.xor_zero _).symm⟩
    case measure=>simp [intOf];omega
   ·have HB:=am hb;rw [hb] at EK;clear hb;go_wp2;go_round
    case rel=>exact⟨k+1,za,by go_num,by rw [HX.out,Gf.longTo,HB.out];rfl⟩
    case measure=>simp [intOf];omega
  ·obtain rfl:k=8:=za;have hL:Gf.longTo 8 n m<32768:=hl;go_wp2;go_loop [5,7] (fun x i=>∃ k:Nat,k<=7/\i=I W (14-k:Int)/\x=I .u32 ((Gf.redTo k (Gf.longTo 8 n m):Nat):Int)) (fun _ i=>((intOf i)-7).toNat)
   case atStart=>exact⟨0,jb _,rfl,rfl⟩
   case round =>
    obtain⟨j,hj,rfl,rfl⟩:=hrel;have hR:Gf.redTo j (Gf.longTo 8 n m)<32768:=Gf.redTo_lt j _ hL;by_cases hlt:j<7
    ·have EK:=Ch (Gf.redTo j (Gf.longTo 8 n m)) (14-j) hR;have HX:O (bits .xor .u32 ((Gf.redTo j (Gf.longTo 8 n m):Nat):Int) (285*2 ^ (14-j-8) % 4294967296)=((Gf.redTo j (Gf.longTo 8 n m) ^^^ 285 <<< (14-j-8):Nat):Int)):=tt _ 285 (14-j-8) hR za za;have e1:14-j=6-j+8:=za;have e2:14-j-8=6-j:=za;have GA:=am e1;have FV:=am e2;clear e1 e2;cases hb:(Gf.redTo j (Gf.longTo 8 n m)).testBit (14-j)
     ·have HB:=am hb;rw [hb] at EK;clear hb;go_wp2;go_round
      case rel=>exact⟨j+1,za,congrArg (Value.int W) za,by
       rw [Gf.redTo,Gf.redStep,<- GA.out,HB.out];exact congrArg (fun q:Nat=>Value.int .u32 (q:Int)) (Nat.xor_zero _).symm⟩
      case measure=>simp [intOf];omega
     ·have HB:=am hb;rw [hb] at EK;clear hb;go_wp2;go_round
      case rel=>exact⟨j+1,za,congrArg (Value.int W) za,by
       rw [HX.out,FV.out,Gf.redTo,Gf.redStep,<- GA.out,HB.out];rfl⟩
      case measure=>simp [intOf];omega
    ·obtain rfl:j=7:=za;have HM:=am (Gf.red_long n m hn);have FB:Gf.mul n m<256:=Gf.mul_lt n m hn;go_wp2;go_ret;exact⟨aN (by rw [HM.out];omega),rfl⟩
theorem AU(x:Nat)(w:jh)(hx:x<256)(h:x ≠ 0):
  jk N 319 #[I jl (x:Int)] w fun e w'=>e=jd (jn #[I jl ((Gf.pw x 254:Nat):Int),I W 0])/\w'=w:=by
 obtain⟨v,hv⟩:=fd (Gf.pw x 254)
 have xT:v<256:=by rw [hv];exact Gf.pw_lt _ _
 have hv0:1<=v:=by have:=Gf.pw_ne_zero x 254 hx h;omega
 have HI:O (Gf.mul x v=1):=by rw [hv];exact Gf.mul_inv x hx h
 have HU:O (∀ b,b<256->Gf.mul x b=1->b=v):=fun b hb e=>by rw [hv];exact Gf.inv_unique x b hx hb e
 rw [<- hv];clear hv h;go_enter Tryz.func319,Tryz.ntmps319
 go_wp2;go_loop [4] (fun i=>∃ b:Nat,1<=b/\b<=v/\i=I W b) (fun i=>256-(intOf i).toNat)
 case atStart=>exact⟨1,ji _,hv0,rfl⟩
 case round =>
  obtain⟨b,ko,jP,rfl⟩:=hrel;by_cases he:b=v
  ·have EK:(((Gf.mul x b:Nat):Int) == 1)=jj:=by rw [he,HI.out];rfl
   have HE:=am he;clear he;go_wp2_with (go_at_call 321;refine(iN _ _ _ za za).mono ?_;rintro e w' ⟨rfl,rfl⟩)
   go_ret2;rw [<- HE.out];exact⟨rfl,rfl⟩
  ·have EK:(((Gf.mul x b:Nat):Int) == 1)=jc:=beq_eq_false_iff_ne.2 (fun e=>he (HU.out b za za));go_wp2_with (go_at_call 321;refine(iN _ _ _ za za).mono ?_;rintro e w' ⟨rfl,rfl⟩)
   go_round
   case rel=>exact⟨b+1,za,za,by go_num⟩
   case measure=>simp [intOf];omega
theorem Ep(x y:Nat)(w:jh)(hx:x<256)(hy:y<256)(h:y ≠ 0):
  jk N 288 #[I jl (x:Int),I jl (y:Int)] w fun e w'=>e=jd (jn #[I jl ((Gf.mul x (Gf.pw y 254):Nat):Int),I W 0])/\w'=w:=by
 have H:=am h;clear h;have hp:Gf.pw y 254<256:=Gf.pw_lt _ _;go_enter Tryz.func288,Tryz.ntmps288
 go_wp2_with (first | (go_at_call 319;refine(AU _ _ hy H.out).mono ?_;rintro e w' ⟨rfl,rfl⟩) | (go_at_call 321;refine(iN _ _ _ za za).mono ?_;rintro e w' ⟨rfl,rfl⟩))
 go_ret2;exact⟨rfl,rfl⟩
theorem Red.full{z:Bool}{n c b:Nat}{A P:M}(h:Red z n A c b P)(hb:n<=b)(k:Nat):Red z n A (c+k) b P:=by
 induction k with
 | zero=>exact h
 | succ k ih=>exact ih.skip fun i h1 h2=>by omega
theorem Red.take0{n c b i0:Nat}{A P:M}(h:Red jc n A c b P)(h1:b<=i0)(h2:i0<n)(f9:P i0 c ≠ 0):
  Red jc n A (c+1) (b+1) (clr b 1 (fun i=>(K.mul (swp b i0 P i c) ((P i0 c).inv))) (swp b i0 P)) :=
 h.take h1 h2 _ K.one_ne_zero _ f9 (fun e=>by cases e) fun i _ _=>by rw [K.mul_assoc,K.inv_mul f9,K.mul_one,K.add_self]
theorem Lst.len{w:jh}{lo:Option jm}{ll n:Nat}{A:Nat->Option jm}{C L:Nat->Nat}{H:M}(h:Lst w lo ll A C L H)(e:∀ i,i<ll->L i=n):Lst w lo ll A C (fun _=>n) H:=by
 refine⟨fun i hi=>by have:=h.rd i hi;rwa [e i hi] at this,fun hp=>?_⟩;obtain⟨b,off,rfl,hc⟩:=h.at_ hp;exact⟨b,off,rfl,fun i hi=>by rw [hc i hi,e i hi]⟩
theorem bj{w w':jh}(h:∃ q,w'=w.drewN q):b7 w w':=by obtain⟨q,rfl⟩:=h;exact below_drewN _ _ _
theorem size_set(w:jh)(a:jm)(v:jq):(w.setCell a v).heap.size=w.heap.size:=by simp [World.setCell]
theorem wo{w:jh}{B k cols l b8:Nat}{G:Nat->Nat}{H:M}(h:Rows0 w B k cols (J (ja ⟨l,0,Z⟩) k b8) G H):Mat w B w.heap.size l b8 k cols G (fun _=>cols) H:=by
 rcases h.lst.2 with ⟨h1,_⟩ | ⟨g,jy,jw,h1,h2,h3,h4,h5,h6,h7⟩
 ·cases h1
 ·cases h1
  have hlt:=(h.lst.lt l rfl).2;refine⟨⟨fun i=>jw.getD i (J Z 0 0),⟨jw,h3,by rw [h6,Nat.mul_one],fun i hi=>?_⟩,fun i hi=>?_⟩,h4,h.row,h2,hlt,h.los,fun i hi=>(h.row i hi).lt,h.apart⟩
  ·have:i<jw.size:=za;simp [this]
  ·have e:=rowsOf_get k (fun i=>ja ⟨G i,0,Z⟩) (fun _=>cols) (fun _=>cols) i hi;rw [<- h7,Nat.mul_one,List.getElem?_take_of_lt hi,Array.getElem?_toList] at e;have hc:i<jw.size:=za;rw [Array.getElem?_eq_getElem hc] at e;simp only [Array.getD,hc,dif_pos];exact Option.some.inj e
theorem tW(w:jh)(rows cols:Nat)(hr:rows<=1000)(hc:cols<=1000):
  jk N 286 #[I W (rows:Int),I W (cols:Int)] w fun e w'=>∃ ao b8,e=jd (J ao rows b8)/\(∃ G,Rows0 w' w.heap.size rows cols (J ao rows b8) G (fun _ _=>0))/\b7 w w':=by
 obtain⟨j0,hj,kE,kB,kt⟩:=info_parts info34;have yr:=run_make_row' (P:=N) 36 5 (I jl 0) 1 Tryz.underlying36 bU rfl W W cols za za;go_enter Tryz.func286,Tryz.ntmps286
 go_wp2;go_loopw [5,6] (fun v i wr=>∃ k:Nat,k<=rows/\i=I W k/\(∃ ao b8,v=J ao k b8)/\O (∃ G,Rows0 wr w.heap.size k cols v G (fun _ _=>0))/\O (b7 w wr)) (fun _ i _=>rows-(intOf i).toNat)
 case atStart=>exact⟨0,jb _,rfl,⟨Z,0,rfl⟩,⟨fun _=>0,World.ownsRow_nil _ _ _ _,fun i hi=>absurd hi (Nat.not_lt_zero i),fun i hi=>absurd hi (Nat.not_lt_zero i),fun i j hi=>absurd hi (Nat.not_lt_zero i)⟩,jg _ _⟩
 case round =>
  obtain⟨k,hk,rfl,⟨ao,b8,rfl⟩,E6,d8⟩:=hrel;by_cases hlt:k<rows
  ·obtain⟨G,Qy⟩:=E6.out;have Fj:=am Qy;have xW:=d8.out.size;obtain⟨wa,yw⟩:=fd (wr.alloc (jo (madeCells #[I jl 0] cols) 5))
   have hmk:=yr wr;rw [<- yw] at hmk;have WP:O (wa.heap.size=wr.heap.size+1):=by rw [yw];exact(by simp:(wr.alloc (jo (madeCells #[I jl 0] cols) 5)).heap.size=wr.heap.size+1)
   obtain⟨XS,kh⟩:=fd (rowsOf k (fun i=>ja ⟨G i,0,Z⟩) (fun _=>cols) (fun _=>cols))
   have kR:O (∀ o,(wa.alloc o).ownsRow w.heap.size 36 1 (J ao k b8) k XS):=fun o=>by rw [yw,kh];exact(Qy.lst.alloc _).alloc o
   have o7:=am kh;have yd:=am yw;clear Qy E6 kh yw;have Fk:=am yr;clear yr;go_wp2_with (at_builtin;refine wpList_append_lies _ zg (jp 12) (jp 15) 33 zg w.heap.size 36 j0 (J Z 0 0) 1 24 Tryz.underlying33 hj kE kB kt zg zb (J ao k b8) k XS zg (kR.out _) ⟨wa.heap.size,0,Z⟩ 1 1 [J (ja ⟨wr.heap.size,0,Z⟩) cols cols] zg zg (World.news_of_block (heap_alloc_new wa _)) (by simp [Value.oneCell']) zb (by unfold maxLen;omega) za (by have:=WP.out;simp;omega) (wa.heap.size+1) zi ?_;intro g5 ky w5 jG i7 _ _)
   have MH:O (∃ G,Rows0 w5 w.heap.size (k+1) cols (J (ja ⟨g5,0,Z⟩) (k+1) ky) G (fun _ _=>0)):=by
    rw [yd.out] at i7;exact⟨_,Fj.out.step (H:=fun _ _=>0) xW (by unfold maxLen;omega) (fun _ _=>rfl) (by rw [<- o7.out];exact jG) i7⟩
   have yT:O (b7 w w5):=by
    rw [yd.out] at i7;exact(more (more d8.out _) _).grown i7 zj (fun q hq=>(Fj.out.lst.lt q hq).1)
   clear jG i7;go_wp2_with fail
   go_roundw
   case rel=>exact⟨k+1,za,by go_num,⟨_,_,rfl⟩,MH,yT⟩
   case measure=>simp [intOf];omega
  ·obtain rfl:k=rows:=za;go_wp2;go_ret;exact⟨ao,b8,rfl,E6.out,d8.out⟩
theorem Mat.upper{w:jh}{B T T' l cl rows cols:Nat}{G U:Nat->Nat}{H:M}(h:Mat w B T l cl rows cols G U H)(hb:T<=T'):Mat w B T' l cl rows cols G U H :=
 ⟨h.lst,h.room,h.row,h.lo,Nat.lt_of_lt_of_le h.hi hb,h.los,fun i hi=>Nat.lt_of_lt_of_le (h.his i hi) hb,h.apart⟩
theorem Mat.keep{w:jh}{B T l cl rows cols:Nat}{G U:Nat->Nat}{H:M}{k:Nat}(h:Mat w B T l cl rows cols G U H)(hk:k<rows){w0:jh}(hb:je B w0 w)(hB:B<=w.heap.size)(j:Nat)(v:jq):je B w0 (w.setCell ⟨G k,j,Z⟩ v) :=
 hb.trans (((Keeps.refl B T w).setCell (h.los k hk) (h.his k hk) j v).below hB (ji _))
theorem fR(w:jh)(rows cols:Nat)(hr:rows<=1000)(hc:cols<=1000)(h1:1<=rows):
  jk N 286 #[I W (rows:Int),I W (cols:Int)] w fun e w'=>∃ l b8 G,e=jd (J (ja ⟨l,0,Z⟩) rows b8)/\Mat w' w.heap.size w'.heap.size l b8 rows cols G (fun _=>cols) (fun _ _=>0)/\b7 w w':=by
 refine(tW w rows cols hr hc).mono ?_;rintro e w' ⟨ao,b8,rfl,⟨G,h⟩,hb⟩;rcases h.lst.2 with ⟨_,h2⟩ | ⟨g,jy,jw,e,_⟩
 ·omega
 ·cases e
  exact⟨g,b8,G,rfl,wo h,hb⟩
theorem nW{w w':jh}{T l n b8 cols:Nat}{G U:Nat->Nat}{H:M}{err:Int}(hm:Mat w' w.heap.size T l b8 n cols G U H)(hT:T<=w'.heap.size)(hb:b7 w w'):
  Made w jj err n cols H (jd (jn #[J (ja ⟨l,0,Z⟩) n b8,I W 0])) w':=⟨_,_,rfl,.inr ⟨l,G,U,rfl,hm.upper hT⟩,hb⟩
theorem rq(w:jh)(lo:Option jm)(ll cl:Nat)(A:Nat->Option jm)(C L:Nat->Nat)(H:M)(hl:Lst w lo ll A C L H):
  jk N 285 #[J lo ll cl] w fun e w'=>e=jd (I W (dE (okM ll L) 30))/\∃ q,w'=w.drewN q:=by
 by_cases h1:1<=ll/\ll<=32
 ·obtain⟨b,off,rfl,jU⟩:=hl.at_ za;have B6:=am jU;have c0:=jU 0 za;rw [Nat.add_zero] at c0;have i0:0<ll:=za;have i1:(0:Int)<(ll:Int):=za;obtain⟨Qz,QA⟩:=h1;obtain⟨l0,yE⟩:=fd (L 0)
  rw [<- yE] at c0;by_cases h2:1<=l0/\l0<=32
  ·by_cases h3:∀ i,i<ll->L i=l0
   ·rw [show dE (okM ll L) 30=0 by rw [show okM ll L=jj from zm ⟨Qz,QA,by rw [<- yE];exact h2.1,by rw [<- yE];exact h2.2,by rw [<- yE];exact h3⟩];rfl];have H3:=am h3;obtain⟨QB,QC⟩:=h2;clear jU hl h3 yE;have hq:((l0:Int) != (l0:Int))=jc:=zi;go_enter Tryz.func285,Tryz.ntmps285
    go_wp2;go_loopw [3] (fun i wr=>∃ k:Nat,k<=ll/\i=I W k/\O (∃ q,wr=w.drewN q)) (fun i _=>ll-(intOf i).toNat)
    case atStart=>exact⟨0,jb _,rfl,0,rfl⟩
    case round =>
     obtain⟨k,hk,rfl,EO⟩:=hrel;have d0:wr.cell? ⟨b,off,Z⟩=ja (J (A 0) l0 (C 0)):=held c0 (bj EO.out);by_cases hlt:k<ll
     ·have ck:=held (B6.out k hlt) (bj EO.out);rw [H3.out k hlt] at ck;have i2:(0:Int)<=(k:Int):=za;have i3:(k:Int)<(ll:Int):=za;go_wp2;go_quiet (fail)
      go_wp2;go_roundw
      case rel =>
       obtain⟨q,hq⟩:=EO.out;exact⟨k+1,za,by go_num,q+nq,by rw [hq];simp [World.drewN,Nat.add_assoc]⟩
      case measure=>simp [intOf];omega
     ·go_wp2;go_ret;exact⟨rfl,EO.out⟩
   ·rw [show dE (okM ll L) 30=30 by rw [show okM ll L=jc from zp fun g=>h3 (by rw [yE];exact g.2.2.2.2)];rfl];obtain⟨q,hq,f9,heq⟩:=bA h3;have H3:=am heq;have HN:=am f9;obtain⟨QB,QC⟩:=h2;clear jU hl h3 yE heq f9;have VX:((l0:Int) != (l0:Int))=jc:=zi;go_enter Tryz.func285,Tryz.ntmps285
    go_wp2;go_loopw [3] (fun i wr=>∃ k:Nat,k<=q/\i=I W k/\O (∃ q,wr=w.drewN q)) (fun i _=>ll-(intOf i).toNat)
    case atStart=>exact⟨0,jb _,rfl,0,rfl⟩
    case round =>
     obtain⟨k,hk,rfl,EO⟩:=hrel;have d0:wr.cell? ⟨b,off,Z⟩=ja (J (A 0) l0 (C 0)):=held c0 (bj EO.out);have ck:=held (B6.out k za) (bj EO.out);have i2:(0:Int)<=(k:Int):=za;have i3:(k:Int)<(ll:Int):=za;by_cases hlt:k<q
     ·rw [H3.out k hlt] at ck;go_wp2;go_quiet (fail)
      go_wp2;go_roundw
      case rel =>
       obtain⟨q',QD⟩:=EO.out;exact⟨k+1,za,by go_num,q'+nq,by rw [QD];simp [World.drewN,Nat.add_assoc]⟩
      case measure=>simp [intOf];omega
     ·obtain rfl:k=q:=za;have hb:((L k:Int) != (l0:Int))=jj:=by have:=HN.out;simp;omega
      go_wp2;go_quiet (fail)
      go_wp2;go_ret;obtain⟨q',QD⟩:=EO.out;exact⟨rfl,q'+nq,by rw [QD];simp [World.drewN,Nat.add_assoc]⟩
  ·rw [show dE (okM ll L) 30=30 by rw [show okM ll L=jc from zp fun g=>h2 (by rw [yE];exact⟨g.2.2.1,g.2.2.2.1⟩)];rfl];clear jU hl yE;by_cases QB:1<=l0
   ·have QC:32<l0:=za;clear h2;go_enter Tryz.func285,Tryz.ntmps285
    go_wp2;go_ret;exact⟨rfl,0,rfl⟩
   ·have QC:l0<1:=za;clear h2 QB;go_enter Tryz.func285,Tryz.ntmps285
    go_wp2;go_ret;exact⟨rfl,0,rfl⟩
 ·rw [show dE (okM ll L) 30=30 by rw [show okM ll L=jc from zp fun g=>h1 ⟨g.1,g.2.1⟩];rfl];clear hl;by_cases Qz:1<=ll
  ·have QA:32<ll:=za;clear h1;go_enter Tryz.func285,Tryz.ntmps285
   go_wp2;go_ret;exact⟨rfl,0,rfl⟩
  ·have QA:ll<1:=za;clear h1 Qz;go_enter Tryz.func285,Tryz.ntmps285
   go_wp2;go_ret;exact⟨rfl,0,rfl⟩
def fill (F:M) (k l:Nat):M:=fun i j=>if i<k\/(i=k/\j<l) then F i j else 0
theorem mo(F:M):fill F 0 0=fun _ _=>0:=by funext i j;unfold fill;rw [zl za]
theorem il(F:M)(k l:Nat)(i j:Nat):(if i=k/\j=l then F k l else fill F k l i j)=fill F k (l+1) i j:=by
 unfold fill;by_cases e:i=k/\j=l
 ·rw [zk e,zk (.inr ⟨e.1,za⟩),e.1,e.2]
 ·rw [zl e];by_cases g:i<k\/i=k/\j<l
  ·rw [zk g,zk za]
  ·rw [zl g,zl za]
theorem ph(F:M)(k cols i j:Nat)(hj:j<cols):fill F k cols i j=fill F (k+1) 0 i j:=by
 unfold fill;by_cases g:i<k\/i=k/\j<cols
 ·rw [zk g,zk za]
 ·rw [zl g,zl za]
theorem nJ(F:M)(rows i j:Nat)(hi:i<rows):fill F rows 0 i j=F i j:=by unfold fill;rw [zk (.inl hi)]
theorem DN(a:K)(w:jh)(h:a ≠ 0):jk N 319 #[I jl (a.n:Int)] w fun e w'=>e=jd (jn #[I jl (a.inv.n:Int),I W 0])/\w'=w:=AU a.n w a.lt (K.ne_zero h)
theorem El(a b:K)(w:jh):jk N 321 #[I jl (a.n:Int),I jl (b.n:Int)] w fun e w'=>e=jd (I jl (((K.mul a b)).n:Int))/\w'=w:=iN a.n b.n w a.lt b.lt
theorem AK(a b:K)(w:jh)(h:b ≠ 0):jk N 288 #[I jl (a.n:Int),I jl (b.n:Int)] w fun e w'=>e=jd (jn #[I jl (((K.mul a b.inv)).n:Int),I W 0])/\w'=w:=Ep a.n b.n w a.lt b.lt (K.ne_zero h)
theorem Du(a b:K):bits .xor jl (a.n:Int) (b.n:Int)=((((K.add a b)).n:Nat):Int):=u8_xor_nat a.n b.n a.lt b.lt
theorem nX(w:jh)(k r:Int):jk N 284 #[I W k,I W r] w (Made w (okN k 12 && okN r 4) 2 r.toNat k.toNat (cau k.toNat)):=by
 cases hok:okN k 12
 ·have h:=of_decide_eq_false hok;rw [Bool.false_and];by_cases h1:k<1
  ·clear hok h;go_enter Tryz.func284,Tryz.ntmps284
   go_wp2;go_ret2;exact bH (jg _ _)
  ·have h2:12<k:=za;clear h hok;go_enter Tryz.func284,Tryz.ntmps284
   go_wp2;go_ret2;exact bH (jg _ _)
 obtain⟨ha,hb⟩:=of_decide_eq_true hok;cases hok2:okN r 4
 ·have h:=of_decide_eq_false hok2;rw [Bool.and_false];by_cases h1:r<1
  ·clear hok hok2 h;go_enter Tryz.func284,Tryz.ntmps284
   go_wp2;go_ret2;exact bH (jg _ _)
  ·have h2:4<r:=za;clear h hok hok2;go_enter Tryz.func284,Tryz.ntmps284
   go_wp2;go_ret2;exact bH (jg _ _)
 obtain⟨hc,hd⟩:=of_decide_eq_true hok2;obtain⟨k,rfl⟩:=Int.eq_ofNat_of_zero_le (show 0<=k by omega);obtain⟨r,rfl⟩:=Int.eq_ofNat_of_zero_le (show 0<=r by omega);rw [jf,jf];clear hok hok2;go_enter Tryz.func284,Tryz.ntmps284
 go_wp2_with fail
 refine(fR w r k za za za).mono ?_;rintro e w1 ⟨l,b8,G,rfl,hm,b1⟩;have HM:=am hm;have HB:=am b1;clear hm b1;go_wp2_with fail
 go_loopw [7] (fun i wr=>∃ p:Nat,p<=r/\i=I W p/\O (Mat wr w.heap.size w1.heap.size l b8 r k G (fun _=>k) (fill (cau k) p 0))/\O (b7 w wr/\w1.heap.size<=wr.heap.size)) (fun i _=>r-(intOf i).toNat)
 case atStart=>exact⟨0,jb _,rfl,by rw [mo];exact HM.out,HB.out,ji _⟩
 case round =>
  obtain⟨p,hp,rfl,jE,d8⟩:=hrel;by_cases hlt:p<r
  ·obtain⟨w2,rfl⟩:∃ x,x=wr:=⟨wr,rfl⟩
   go_wp2;go_loopw [8] (fun i wr=>∃ q:Nat,q<=k/\i=I W q/\O (Mat wr w.heap.size w1.heap.size l b8 r k G (fun _=>k) (fill (cau k) p q))/\O (b7 w wr/\w1.heap.size<=wr.heap.size)) (fun i _=>k-(intOf i).toNat)
   case atStart=>exact⟨0,jb _,rfl,jE.out,d8.out⟩
   case round =>
    obtain⟨q,hq,rfl,kr,kA⟩:=hrel;by_cases hqk:q<k
    ·have c1:=kr.out.cell_l hlt;have c2:=(kr.out.row p hlt).cell hqk;have z2:=(kr.out.row p hlt).frozen q;have e1:((K.of (k+p)).n:Int)=(k:Int)+(p:Int):=by rw [K.of_n _ za];omega
     have e2:((K.of q).n:Int)=(q:Int):=by rw [K.of_n _ za]
     have f9:(K.add (K.of (k+p)) (K.of q)) ≠ 0:=K.sub_ne fun e=>by have:=pD za za e;omega
     have HI:O (∀ w',jk N 319 #[I jl (bits .xor jl ((k:Int)+(p:Int)) (q:Int))] w' fun e E8=>e=jd (jn #[I jl ((cau k p q).n:Int),I W 0])/\E8=w'):=fun w'=>by rw [<- e1,<- e2,Du];exact DN _ w' f9
     clear e1 e2 f9;have m0:IntKind.i64.wrap ((k:Int)+(p:Int))=(k:Int)+(p:Int):=by rw [IntKind.wrap_i64];omega
     have m1:IntKind.u8.wrap ((k:Int)+(p:Int))=(k:Int)+(p:Int):=by rw [IntKind.wrap_u8];omega
     have m2:IntKind.u8.wrap (q:Int)=(q:Int):=by rw [IntKind.wrap_u8];omega
     have i1:(0:Int)<=(p:Int):=za;have i2:(p:Int)<(r:Int):=za;have i3:(0:Int)<=(q:Int):=za;have i4:(q:Int)<(k:Int):=za;obtain⟨X,hX⟩:=fd (cau k p q)
     rw [<- hX] at HI;have HX:=am hX;clear hX;go_wp2;have kk:∀ v,(wr.setCell ⟨G p,q,Z⟩ v).cell? ⟨l,p,Z⟩=ja (J (ja ⟨G p,0,Z⟩) k k):=fun v=>(World.cell?_of_block (Below.heap_setCell _ _ _ _ (by simp;exact fun e=>kr.out.ne_l hlt e.symm))).trans c1;have kd:∀ v,(wr.drew.setCell ⟨G p,q,Z⟩ v).cell? ⟨l,p,Z⟩=ja (J (ja ⟨G p,0,Z⟩) k k):=kk;go_region_held3 (fun w'=>w'.cell? ⟨l,p,Z⟩=ja (J (ja ⟨G p,0,Z⟩) k k)) (go_keep) ((go_at_call 319;refine(HI.out _).mono ?_;rintro e w' ⟨rfl,g8⟩;obtain rfl:=g8.symm))
     go_wp2;go_roundw
     case rel=>exact⟨q+1,za,by go_num,((kr.out.store hlt X).congr (fun i j _ _=>by rw [HX.out];exact il (cau k) p q i j)).below (bdw _ _),ag (kr.out.keep hlt kA.out.1 kA.out.1.size q _) (bdw _ _) (by rw [size_set];exact kA.out.1.size),by show _<=(wr.setCell _ _).heap.size;rw [size_set];exact kA.out.2⟩
     case measure=>simp [intOf];omega
    ·obtain rfl:q=k:=za;go_wp2;go_roundw
     case rel=>exact⟨p+1,za,by go_num,kr.out.congr (fun i j _ hj=>ph (cau q) p q i j hj),kA.out⟩
     case measure=>simp [intOf];omega
  ·obtain rfl:p=r:=za;go_wp2;go_ret2;exact nW (jE.out.congr fun i j hi _=>nJ (cau k) p i j hi) d8.out.2 d8.out.1
theorem oE(w:jh)(g q n u v c:Nat)(f h:Nat->K)(hn:n<=1000)(hc:c<n)(hf:Own w g n u f)(hh:Own w q n v h)(f9:g ≠ q)(h0:h c ≠ 0):
  jk N 320 #[J (ja ⟨g,0,Z⟩) n u,J (ja ⟨q,0,Z⟩) n v,I W (c:Int)] w fun e w'=>e=jd (jn #[])/\Own w' g n u (plus f ((K.mul (f c) ((h c).inv))) h)/\Keeps g (g+1) w w':=by
 have HF:=am hf;have HH:=am hh;have c1:=hf.cell hc;have c2:=hh.cell hc;have HD:O (∀ m,jk N 288 #[I jl ((f c).n:Int),I jl ((h c).n:Int)] (w.drewN m) fun e w'=>e=jd (jn #[I jl (((K.mul (f c) ((h c).inv))).n:Int),I W 0])/\w'=w.drewN m):=fun m=>AK _ _ _ h0;obtain⟨S,hS⟩:=fd ((K.mul (f c) ((h c).inv)))
 rw [<- hS] at HD ⊢;clear hf hh h0 hS;have i1:(0:Int)<=(c:Int):=za;have i2:(c:Int)<(n:Int):=za;go_enter Tryz.func320,Tryz.ntmps320
 go_wp2;go_quiet (first | (go_at_call 288;exact Calls.quiet_of_same (HD.out _)))
 have Hm:O (Own (w.drewN nq) g n u f):=HF.out.below (below_drewN _ _ _);have J3:O (Own (w.drewN nq) q n v h):=HH.out.below (below_drewN _ _ _);have E7:O (Keeps g (g+1) w (w.drewN nq)):=(Keeps.refl _ _ w).drewN nq;clear HD c1 c2 HF HH;generalize w.drewN nq=w1 at *
 go_wp2;go_loopw [8] (fun i wr=>∃ k:Nat,k<=n/\i=I W k/\O (Own wr g n u (upto k (plus f S h) f))/\O (Keeps g (g+1) w1 wr)) (fun i _=>n-(intOf i).toNat)
 case atStart=>exact⟨0,jb _,rfl,by rw [bR];exact Hm.out,Keeps.refl _ _ _⟩
 case round =>
  obtain⟨k,hk,rfl,em,i8⟩:=hrel;by_cases hlt:k<n
  ·have d1:wr.cell? ⟨g,k,Z⟩=ja (I jl ((f k).n:Int)):=by have:=em.out.cell hlt;rwa [fI] at this
   have d2:wr.cell? ⟨q,k,Z⟩=ja (I jl ((h k).n:Int)):=(J3.out.keeps i8.out za).cell hlt;have z1:=em.out.frozen k;have HX:=am (Du (f k) ((K.mul S (h k))));have j1:(0:Int)<=(k:Int):=za;have j2:(k:Int)<(n:Int):=za;go_wp2;refine wp_region_still_tail 14 zh zh ?_;simp only [List.take_succ_cons,List.take_zero,List.drop_succ_cons,List.drop_zero]
   repeat still_step
   still_call (El S (h k) _)
   repeat still_step
   refine wpStill_nil ?_;go_wp2;go_roundw
   case rel=>exact⟨k+1,za,by go_num,by rw [HX.out];exact em.out.store (f:=plus f S h),(i8.out.setCell (ji _) za k _).drew⟩
   case measure=>simp [intOf];omega
  ·obtain rfl:k=n:=za;go_wp2;go_end0
   exact⟨rfl,em.out.all,E7.out.trans i8.out⟩
theorem Ak(b i0:Nat)(X:M):swp b i0 X=swp i0 b X:=by
 funext i
 unfold swp;by_cases h:i=b
 ·by_cases g:i=i0
  ·rw [zk h,zk g];rw [<- h,<- g]
  ·rw [zk h,zl g,zk h]
 ·by_cases g:i=i0
  ·rw [zl h,zk g,zk g]
  ·rw [zl h,zl g,zl g,zl h]
def lu (b c k:Nat) (H:M) (i:Nat):Nat->K:=if i=b then H b else if i<k then plus (H i) ((K.mul (H i c) ((H b c).inv))) (H b) else H i
theorem uF(w:jh)(B T l cl rows cols C:Nat)(G U:Nat->Nat)(A:M)(hr:rows<=1000)(hc:cols<=1000)(hC:C<=cols)(hm:Mat w B T l cl rows cols G U A):
  jk N 287 #[J (ja ⟨l,0,Z⟩) rows cl,I W (C:Int)] w fun e w'=>∃ b P G U,e=jd (I W ((b:Nat):Int))/\Red jc rows A C b P/\Mat w' B T l cl rows cols G U P/\Keeps B T w w':=by
 have HM:=am hm;clear hm;go_enter Tryz.func287,Tryz.ntmps287
 go_wp2;go_loopw [5,6] (fun x i wr=>∃ c b:Nat,c<=C/\b<=rows/\i=I W c/\x=I W b/\O (∃ P G U,Red jc rows A c b P/\Mat wr B T l cl rows cols G U P)/\O (Keeps B T w wr)) (fun _ i _=>C-(intOf i).toNat)
 case atStart=>exact⟨0,0,jb _,jb _,rfl,rfl,⟨A,G,U,Red.start _ _ _,HM.out⟩,Keeps.refl _ _ _⟩
 case round =>
  obtain⟨c,b,VS,B4,rfl,rfl,hall,i8⟩:=hrel;by_cases hgo:c<C/\b<rows
  ·obtain⟨hlt,hb⟩:=hgo;obtain⟨P,G,U,o6,jE⟩:=hall.out;have qL:=am o6;have kj:=am jE
   clear hall o6 jE
   go_wp2;go_loop [7] (fun x=>∃ j:Nat,j<=rows/\b<=j/\x=I W j/\O (∀ i,b<=i->i<j->P i c=0)) (fun x=>rows-(intOf x).toNat)
   case atStart=>exact⟨b,B4,ji _,rfl,fun i h1 h2=>by omega⟩
   case round =>
    obtain⟨j,V9,PG,rfl,hz⟩:=hrel;by_cases hj:j<rows
    ·have e1:=kj.out.cell_l hj;have e2:=(kj.out.row j hj).cell (show c<cols by omega);have i1:(0:Int)<=(j:Int):=za;have i2:(j:Int)<(rows:Int):=za;have i3:(0:Int)<=(c:Int):=za;have i4:(c:Int)<(cols:Int):=za;by_cases hp:P j c=0
     ·have hn0:(((P j c).n:Int) == 0)=jj:=by rw [hp];rfl
      go_wp2;go_round
      case rel=>exact⟨j+1,za,za,by go_num,fun i h1 h2=>(Nat.lt_or_ge i j).elim (fun h=>hz.out i h1 h) (fun h=>by rw [show i=j by omega];exact hp)⟩
      case measure=>simp [intOf];omega
     ·have hn0:(((P j c).n:Int) == 0)=jc:=by have:=K.ne_zero hp;simp;omega
      have HP:=am hp;have e3:=kj.out.cell_l hb;have z1:=kj.out.frozen_l b;have z2:=kj.out.frozen_l j;have i5:(0:Int)<=(b:Int):=za;have i6:(b:Int)<(rows:Int):=za;have WQ:((j:Int) == (rows:Int))=jc:=zj;clear hp;have z3:(wr.setCell ⟨l,j,Z⟩ (J (ja ⟨G b,0,Z⟩) cols (U b))).cell? ⟨l,b,Z⟩=ja (J (ja ⟨G b,0,Z⟩) cols (U b)):=by
       obtain⟨h,hr,hh⟩:=kj.out.lst;rw [(hr.set j _).cell (i:=b) (Nat.lt_of_lt_of_le hb kj.out.room)];show ja (if b=j then _ else h b)=_;split
       ·rfl
       ·rw [hh b hb]
      obtain⟨w2,jz⟩:=fd ((wr.setCell ⟨l,j,Z⟩ (J (ja ⟨G b,0,Z⟩) cols (U b))).setCell ⟨l,b,Z⟩ (J (ja ⟨G j,0,Z⟩) cols (U j)))
      have Fk:O (Mat w2 B T l cl rows cols (dD j b G) (dD j b U) (swp b j P)):=by rw [jz,Ak];exact kj.out.swap hj hb
      have F4:O (Keeps B T w w2):=by rw [jz];exact(i8.out.setCell kj.out.lo kj.out.hi j _).setCell kj.out.lo kj.out.hi b _
      go_wp2;rw [<- jz];clear jz z3;obtain⟨Q,hQ⟩:=fd (swp b j P)
      have HQ:=am hQ;rw [<- hQ] at Fk;have WR:O (Q b c ≠ 0):=by rw [hQ];show (swp b j P b) c ≠ 0;rw [show swp b j P b=P j from zk rfl];exact HP.out
      clear hQ;obtain⟨G2,Ti⟩:=fd (dD j b G)
      obtain⟨U2,Tj⟩:=fd (dD j b U)
      rw [<- Ti,<- Tj] at Fk;clear Ti Tj;go_loopw [9] (fun i wr=>∃ q:Nat,q<=rows/\i=I W q/\O (Mat wr B T l cl rows cols G2 U2 (lu b c q Q))/\O (Keeps B T w wr)) (fun i _=>rows-(intOf i).toNat)
      case atStart=>exact⟨0,jb _,rfl,Fk.out.congr (fun i j _ _=>by
       unfold lu;by_cases e:i=b
       ·rw [zk e,e]
       ·rw [zl e,zl (Nat.not_lt_zero i)]),F4.out⟩
      case round =>
       obtain⟨q,hq,rfl,jE,EL⟩:=hrel;by_cases FW:q<rows
       ·have f1:=jE.out.cell_l FW;have f2:=jE.out.cell_l hb;have k1:(0:Int)<=(q:Int):=za;have k2:(q:Int)<(rows:Int):=za;by_cases hqb:q=b
        ·subst hqb;have zM:((q:Int) != (q:Int))=jc:=zi;go_wp2;go_roundw
         case rel=>exact⟨q+1,za,by go_num,jE.out.congr (fun i j _ _=>by
          unfold lu;by_cases e:i=q
          ·rw [zk e,zk e]
          ·rw [zl e,zl e];by_cases e':i<q
           ·rw [zk e',zk za]
           ·rw [zl e',zl za]),EL.out⟩
         case measure=>simp [intOf];omega
        ·have zM:((q:Int) != (b:Int))=jj:=zj;have JH:lu b c q Q q=Q q:=by unfold lu;rw [zl hqb,zl za]
         have Gw:lu b c q Q b=Q b:=by unfold lu;rw [zk rfl]
         have HT:O (jk N 320 #[J (ja ⟨G2 q,0,Z⟩) cols (U2 q),J (ja ⟨G2 b,0,Z⟩) cols (U2 b),I W (c:Int)] wr.drew fun e w'=>e=jd (jn #[])/\Own w' (G2 q) cols (U2 q) (plus (Q q) ((K.mul (Q q c) ((Q b c).inv))) (Q b))/\Keeps (G2 q) (G2 q+1) wr.drew w'):=by
          refine oE wr.drew (G2 q) (G2 b) cols (U2 q) (U2 b) c (Q q) (Q b) hc za ?_ ?_ (jE.out.apart q b FW hb hqb) WR.out
          ·have:=(jE.out.row q FW).below (bdw _ wr)
           rwa [JH] at this
          ·have:=(jE.out.row b hb).below (bdw _ wr)
           rwa [Gw] at this
         clear JH Gw;go_wp2;refine wp_region_still_tail 9 zh zh ?_;simp only [List.take_succ_cons,List.take_zero,List.drop_succ_cons,List.drop_zero]
         repeat still_step
         refine wpStill_nil ?_;go_wp2_with (go_at_call 320;refine HT.out.mono ?_;rintro e w4 ⟨rfl,jF,li⟩)
         have JJ:O (Mat w4 B T l cl rows cols G2 U2 (lu b c (q+1) Q)):=((jE.out.below (bdw _ wr)).put FW jF li).congr (fun i j _ _=>by
          unfold lu;by_cases e:i=q
          ·rw [zk e,e,zl hqb,zk za]
          ·rw [zl e];by_cases e':i=b
           ·rw [zk e',zk e']
           ·rw [zl e',zl e'];by_cases e'':i<q
            ·rw [zk e'',zk za]
            ·rw [zl e'',zl za])
         have Jp:=am (EL.out.drew.trans (li.mono (jE.out.los q FW) (jE.out.his q FW)));clear jF li;go_wp2_with fail
         go_roundw
         case rel=>exact⟨q+1,za,by go_num,JJ.out,Jp.out⟩
         case measure=>simp [intOf];omega
       ·obtain rfl:q=rows:=za;have PM:O (Mat wr B T l cl q cols G2 U2 (clr b 1 (fun i=>(K.mul (swp b j P i c) ((P j c).inv))) (swp b j P))):=jE.out.congr fun i y hi _=>by
         rw [HQ.out];unfold lu clr;have I1:swp b j P b=P j:=zk rfl;rw [I1];by_cases e:i=b
         ·rw [zk e,zk e,K.one_mul]
         ·rw [zl e,zl e,zk hi];rfl
        go_wp2;go_roundw
        case rel=>exact⟨c+1,b+1,za,hb,by go_num,by go_num,⟨_,_,_,qL.out.take0 PG hj HP.out,PM.out⟩,EL.out⟩
        case measure=>simp [intOf];omega
    ·obtain rfl:j=rows:=za;have WQ:((j:Int) == (j:Int))=jj:=zi;go_wp2;go_roundw
     case rel=>exact⟨c+1,b,za,B4,by go_num,rfl,⟨P,G,U,qL.out.skip hz.out,kj.out⟩,i8.out⟩
     case measure=>simp [intOf];omega
  ·obtain⟨P,G,U,o6,jE⟩:=hall.out;have qL:O (Red jc rows A C b P):=by
    by_cases h:c<C
    ·have:=o6.full (show rows<=b by omega) (C-c)
     rwa [show c+(C-c)=C by omega] at this
    ·rw [show C=c by omega];exact o6
   have kj:=am jE
   clear hall o6 jE
   by_cases jI:c<C
   ·have xv:¬ (b:Int)<(rows:Int):=za;go_wp2;go_ret;exact⟨b,rfl,P,qL.out,⟨G,U,kj.out⟩,i8.out⟩
   ·go_wp2;go_ret;exact⟨b,P,G,U,rfl,qL.out,kj.out,i8.out⟩
theorem Red.diag_ne{z:Bool}{n:Nat}{A P:M}(h:Red z n A n n P)(i:Nat)(hi:i<n):P i i ≠ 0:=by
 obtain⟨p,d,hp,JE⟩:=h.piv;obtain⟨_,h2,_,h4⟩:=hp i hi;have:=h4 i hi;rw [JE rfl i hi,zk rfl] at this;rw [this];exact h2
def bes (n:Nat) (H:M) (k:Nat):M:=fun i j=>if i<k then beside n H i j else 0
def bes' (n:Nat) (H:M) (k:Nat):M:=fun i j=>if i<k then beside n H i j else if i=k/\j<n then H k j else 0
theorem ng(w:jh)(g:Nat)(cs:Array jq):Keeps g (g+1) w (w.setRow g cs):=⟨rfl,rfl,rfl,by simp [World.setRow],fun k _ hk=>setRow_other w g k cs za⟩
theorem rU{w:jh}{g n u m:Nat}{f h:Nat->K}{jw:Array jq}(ho:Own w g m u f)(hg:w.heap[g]? = ja (jo jw 5 (0,0)))(hn:n<=m):
  Own (w.setRow g (jw.toList.take 0 ++ (cellsOf n h ++ jw.toList.drop (0+(cellsOf n h).length))).toArray) g m u (fun j=>if j<n then h j else f j):=by
 obtain⟨h1,h2,c,⟨Gz,hb,hs,hc⟩,hh⟩:=ho;rw [hg] at hb;cases hb
 have yx:(jw.toList.take 0 ++ (cellsOf n h ++ jw.toList.drop (0+(cellsOf n h).length))).length=u:=by simp [aD];omega
 refine⟨h1,h2,fun i=>if i<n then I jl ((h i).n:Int) else c i,⟨_,setRow_heap w g _ _ 5 _ hg,by rw [List.size_toArray];exact yx,fun i hi=>?_⟩,fun i hi=>?_⟩
 ·rw [List.getElem?_toArray,List.take_zero,List.nil_append,Nat.zero_add,aD];by_cases e:i<n
  ·rw [List.getElem?_append_left (by rw [aD];exact e),bP _ _ _ e];simp only [e,if_true]
  ·rw [List.getElem?_append_right (by rw [aD];omega),aD,List.getElem?_drop,show n+(i-n)=i by omega,Array.getElem?_toList,hc i hi];simp only [e,if_false]
 ·by_cases e:i<n
  ·simp only [e,if_true]
  ·simp only [e,if_false];exact hh i hi
theorem iX{w:jh}{pm:Array Oper}{kg:List Oper}{o:Oper}{a:Act}{Q:Exit->Act->jh->Prop}(qN:o.guard=Z)(d s:Operand)
  (ho:o.op=.call { callee:=.builtin .copy,args:=#[d,s],argTypes:=#[36,36]}) (xJ:(Tryz.prog.info? 5).map (·.size)=ja 1)
  (g J4 MI:Nat) (ad:jm) (J5 MJ:Nat) (hd:a.eval d=J (ja ⟨g,0,Z⟩) J4 MI) (hs:a.eval s=J (ja ad) J5 MJ)
  (jw:Array jq) (hg:w.heap[g]? = ja (jo jw 5 (0,0))) (cs:List jq) (hn:cs.length=Nat.min J5 J4)
  (Ih:∀ j v,cs[j]? = ja v->w.cell? (ad.add j)=ja v) (xB:0+cs.length<=jw.size) (h1:∀ v ∈ cs,v.oneCell'=jj) (w3:jh) (n9:w3=w.setRow g (jw.toList.take 0 ++ (cs ++ jw.toList.drop (0+cs.length))).toArray)
  (h:wpList N pm Q kg (a.put o.dst (goInt cs.length)) w3):wpList N pm Q (o :: kg) a w:=by
 subst n9;exact wpList_copy_own qN d s 36 36 ho 5 Tryz.underlying36 xJ g 0 J4 MI ad J5 MJ hd hs jw 5 hg cs hn Ih xB h1 h
theorem ni(w:jh)(lo:Option jm)(ll cl:Nat)(A:Nat->Option jm)(C L:Nat->Nat)(H:M)(hl:Lst w lo ll A C L H):
  jk N 214 #[J lo ll cl] w (Made w (cP ll L H) (fx (cS ll L) 5) ll ll (bX ll H)):=by
 have CA:=rq w lo ll cl A C L H hl;have HL:=am hl;clear hl;cases hok:okM ll L
 ·rw [show cP ll L H=jc by unfold cP cS;rw [hok];rfl,show fx (cS ll L) 5=30 by unfold cS;rw [hok];rfl];rw [hok] at CA;go_enter Tryz.func214,Tryz.ntmps214
  go_wp2_with fail
  refine CA.mono ?_;rintro e w1 ⟨rfl,hq⟩;have b1:=bj hq;clear hq;go_wp2_with fail
  go_ret2;exact bH b1
 rw [hok] at CA;obtain⟨h1,h2,h3,h4,h5⟩:=oZ hok;have e2:dE jj 30=0:=rfl;obtain⟨b,off,rfl,_⟩:=HL.out.at_ za;have i0:0<ll:=za;have i1:(0:Int)<(ll:Int):=za;by_cases hsq:L 0=ll
 ·rw [show cP ll L H=lq ll H by unfold cP cS;rw [hok,hsq];simp,show fx (cS ll L) 5=5 by unfold cS;rw [hok,hsq];simp [fx]]
  replace HL:O (Lst w (ja ⟨b,off,Z⟩) ll A C (fun _=>ll) H):=HL.out.len fun i hi=>by rw [h5 i hi,hsq]
  have zM:((ll:Int) != (ll:Int))=jc:=zi;clear h5 hsq hok h3 h4;go_enter Tryz.func214,Tryz.ntmps214
  go_wp2_with fail
  refine CA.mono ?_;rintro e w1 ⟨rfl,hq⟩;have jZ:=am (bj hq)
  replace HL:O (Lst w1 (ja ⟨b,off,Z⟩) ll A C (fun _=>ll) H):=HL.out.below (bj hq)
  clear hq CA;obtain⟨b',qg,e',jU⟩:=HL.out.at_ za;cases e'
  have c0:=jU 0 za;rw [Nat.add_zero] at c0;clear jU;have MK:=fR w1 ll (2*ll) za za za;rw [show ((2*ll:Nat):Int)=2*(ll:Int) by omega] at MK;go_wp2_with fail
  refine MK.mono ?_;rintro e w2 ⟨l,b8,G,rfl,hm,b2⟩;obtain⟨n2,A5⟩:=fd (2*ll)
  rw [<- A5] at hm;have Yu:ll+ll<=n2:=za;have Yv:n2<=64:=za;clear A5;have HM:=am hm;have jv:=am b2;clear hm b2 c0 MK;go_wp2_with fail
  go_loopw [6] (fun i wr=>∃ p:Nat,p<=ll/\i=I W p/\O (Mat wr w1.heap.size w2.heap.size l b8 ll n2 G (fun _=>n2) (bes ll H p))/\O (b7 w1 wr/\w2.heap.size<=wr.heap.size)) (fun i _=>ll-(intOf i).toNat)
  case atStart=>exact⟨0,jb _,rfl,HM.out.congr (fun i j _ _=>by unfold bes;rw [zl (Nat.not_lt_zero i)]),jv.out,ji _⟩
  case round =>
   obtain⟨p,hp,rfl,jE,d8⟩:=hrel;by_cases hlt:p<ll
   ·have d1:=jE.out.cell_l hlt;obtain⟨b',qg,e',jU⟩:=(HL.out.below d8.out.1).at_ za;cases e'
    have d2:=jU p hlt;clear jU;obtain⟨ab,af,Tk,Ih⟩:=(HL.out.below d8.out.1).rd p hlt za;rw [Tk] at d2;obtain⟨_,_,c,⟨jw,J6,kY,_⟩,_⟩:=jE.out.row p hlt;have ML:=am J6;have MM:O (∀ j v,(cellsOf ll (H p))[j]? = ja v->wr.drew.cell? ((⟨ab,af,Z⟩:jm).add j)=ja v):=fun j v hv=>by
     have hj:=db (aD ll (H p)) hv;rw [bP _ _ _ hj] at hv;rw [Addr.add_lit];exact(Ih j hj).trans hv
    obtain⟨w3,n9⟩:=fd (wr.drew.setRow (G p) (jw.toList.take 0 ++ (cellsOf ll (H p) ++ jw.toList.drop (0+(cellsOf ll (H p)).length))).toArray)
    have OD:Keeps (G p) (G p+1) wr.drew w3:=by rw [n9];exact ng _ _ _
    have F7:O (Mat w3 w1.heap.size w2.heap.size l b8 ll n2 G (fun _=>n2) (bes' ll H p)):=by
     have ho:Own w3 (G p) n2 n2 (fun j=>if j<ll then H p j else bes ll H p p j):=by rw [n9];exact rU ((jE.out.row p hlt).below (bdw _ _)) J6 za
     refine((jE.out.below (bdw _ _)).put hlt ho OD).congr fun i j _ _=>?_;unfold bes' bes;by_cases e:i=p
     ·subst e;simp only [if_true,Nat.lt_irrefl,if_false,true_and]
     ·simp only [e,if_false,false_and]
    have m9:O (b7 w1 w3/\w2.heap.size<=w3.heap.size):=⟨d8.out.1.drew.trans ((OD.mono (jE.out.los p hlt) (jE.out.his p hlt)).below d8.out.1.size (ji _)),Nat.le_trans d8.out.2 OD.size⟩
    have xJ:(Tryz.prog.info? 5).map (·.size)=ja 1:=zh;have j1:(0:Int)<=(p:Int):=za;have j2:(p:Int)<(ll:Int):=za;have f1:=F7.out.cell_l hlt;have f2:=(F7.out.row p hlt).cell (show ll+p<n2 by omega);have z2:=(F7.out.row p hlt).frozen (ll+p);have j3:(0:Int)<=(ll:Int)+(p:Int):=za;have j4:(ll:Int)+(p:Int)<(n2:Int):=za;have j5:((ll:Int)+(p:Int)).toNat=ll+p:=za;have Mr:=am (kY.symm);clear J6 Ih Tk kY OD;go_wp2;refine wp_region_still_tail 8 zh zh ?_;simp only [List.take_succ_cons,List.take_zero,List.drop_succ_cons,List.drop_zero]
    repeat still_step
    refine wpStill_nil ?_;refine iX zg (jp 36) (jp 40) zg xJ (G p) n2 n2 ⟨ab,af,Z⟩ ll (C p) zg zg jw ML.out (cellsOf ll (H p)) (by rw [aD];exact(Nat.min_eq_left za).symm) MM.out (by have:=Mr.out;rw [aD];omega) (gF _ _) w3 n9 ?_;clear n9 MM ML d1 d2;go_wp2;go_roundw
    case rel=>exact⟨p+1,za,by go_num,(F7.out.store hlt 1).congr (fun i j _ _=>by
      unfold bes bes';by_cases e:i=p/\j=ll+p
      ·rw [zk e,zk za];unfold beside;rw [zl za,show j-ll=i by omega,cX]
      ·rw [zl e];by_cases g1:i<p
       ·rw [zk g1,zk za]
       ·rw [zl g1];by_cases g2:i=p
        ·subst g2;rw [zk (Nat.lt_succ_self i)];unfold beside;by_cases g3:j<ll
         ·rw [zk ⟨rfl,g3⟩,zk g3]
         ·rw [zl za,zl g3,gV za]
        ·rw [zl za,zl za]),F7.out.keep hlt m9.out.1 m9.out.1.size (ll+p) _,by rw [size_set];exact m9.out.2⟩
    case measure=>simp [intOf];omega
   ·obtain rfl:p=ll:=za;have JJ:=am (jE.out.congr fun i j hi _=>zk hi);have Hc:=uF wr _ _ l b8 p n2 p G (fun _=>n2) (beside p H) za za za JJ.out;have QE:=am (ag jZ.out d8.out.1 jZ.out.size);have xW:=jZ.out.size;have hs2:=d8.out.1.size;clear jE JJ HM;go_wp2_with fail
    refine Hc.mono ?_;rintro e w4 ⟨r,P,G',U',rfl,o6,KF,A4⟩;have qL:=am o6;have QF:=am KF;have qj:=am (QE.out.trans (A4.below QE.out.size xW));have N3:w2.heap.size<=w4.heap.size:=Nat.le_trans d8.out.2 A4.size;have I4:r<=p:=o6.rows;clear o6 KF A4 Hc QE;by_cases hr:r<p
    ·have hI:O (lq p H=jc):=by rw [th,fW (eU qL.out.rk)];exact zp za
     go_wp2_with fail
     go_ret2;rw [hI.out];exact bH qj.out
    ·obtain rfl:r=p:=za;obtain⟨V,hV⟩:∃ V:M,V=fun i j=>(K.mul (P i (r+j)) ((P i i).inv)):=⟨_,rfl⟩
     have HV:O (IsInv r H V):=by rw [hV];exact qL.out.inv
     have FU:=am hV;clear hV;go_wp2_with fail
     refine(fR w4 r r za za za).mono ?_;rintro e w5 ⟨MN,jy,FC,rfl,Tl,b5⟩;have WS:=am Tl;have yT:=am b5;clear Tl b5;go_wp2_with fail
     go_loopw [8] (fun i wr=>∃ s:Nat,s<=r/\i=I W s/\O (Mat wr w4.heap.size w5.heap.size MN jy r r FC (fun _=>r) (fill V s 0))/\O (b7 w4 wr/\w5.heap.size<=wr.heap.size)) (fun i _=>r-(intOf i).toNat)
     case atStart=>exact⟨0,jb _,rfl,by rw [mo];exact WS.out,yT.out,ji _⟩
     case round =>
      obtain⟨s,hs,rfl,jE,GM⟩:=hrel;by_cases hsr:s<r
      ·obtain⟨w6,rfl⟩:∃ x,x=wr:=⟨wr,rfl⟩
       go_wp2;go_loopw [9] (fun i wr=>∃ q:Nat,q<=r/\i=I W q/\O (Mat wr w4.heap.size w5.heap.size MN jy r r FC (fun _=>r) (fill V s q))/\O (b7 w4 wr/\w5.heap.size<=wr.heap.size)) (fun i _=>r-(intOf i).toNat)
       case atStart=>exact⟨0,jb _,rfl,jE.out,GM.out⟩
       case round =>
        obtain⟨q,hq,rfl,kr,kA⟩:=hrel;by_cases FW:q<r
        ·have c1:=kr.out.cell_l hsr;have c2:=(kr.out.row s hsr).cell FW;have z2:=(kr.out.row s hsr).frozen q;have KW:=QF.out.below kA.out.1;have c3:=KW.cell_l hsr;have c4:=(KW.row s hsr).cell (show r+q<n2 by omega);have c5:=(KW.row s hsr).cell (show s<n2 by omega);have Tm:O (∀ w',jk N 288 #[I jl ((P s (r+q)).n:Int),I jl ((P s s).n:Int)] w' fun e E8=>e=jd (jn #[I jl ((V s q).n:Int),I W 0])/\E8=w'):=fun w'=>by rw [FU.out];exact AK _ _ w' (qL.out.diag_ne s hsr)
         have kb:∀ a:jm,a.block ≠ FC s->∀ x v,wr.cell? a=ja x->(wr.setCell ⟨FC s,q,Z⟩ v).cell? a=ja x:=fun a ha x v hx=>(World.cell?_of_block (Below.heap_setCell _ _ _ _ (by simpa using ha))).trans hx;have Yw:=kr.out.los s hsr;have n1:MN ≠ FC s:=(kr.out.ne_l hsr).symm;have WT:l ≠ FC s:=by have:=QF.out.lt_l;omega
         have n3:G' s ≠ FC s:=by have:=(QF.out.row s hsr).lt;omega
         have k1:∀ v,(wr.setCell ⟨FC s,q,Z⟩ v).cell? ⟨MN,s,Z⟩=ja (J (ja ⟨FC s,0,Z⟩) r r):=fun v=>kb _ n1 _ v c1;have k2:∀ v,(wr.setCell ⟨FC s,q,Z⟩ v).cell? ⟨l,s,Z⟩=ja (J (ja ⟨G' s,0,Z⟩) n2 (U' s)):=fun v=>kb _ WT _ v c3;have k3:∀ v,(wr.setCell ⟨FC s,q,Z⟩ v).cell? ⟨G' s,r+q,Z⟩=ja (I jl ((P s (r+q)).n:Int)):=fun v=>kb _ n3 _ v c4;have k4:∀ v,(wr.setCell ⟨FC s,q,Z⟩ v).cell? ⟨G' s,s,Z⟩=ja (I jl ((P s s).n:Int)):=fun v=>kb _ n3 _ v c5;clear KW kb;have m0:IntKind.i64.wrap ((r:Int)+(q:Int))=(r:Int)+(q:Int):=by rw [IntKind.wrap_i64];omega
         have m1:((r:Int)+(q:Int)).toNat=r+q:=za;have t1:(0:Int)<=(s:Int):=za;have t2:(s:Int)<(r:Int):=za;have t3:(0:Int)<=(q:Int):=za;have t4:(q:Int)<(r:Int):=za;have t5:(0:Int)<=(r:Int)+(q:Int):=za;have t6:(r:Int)+(q:Int)<(n2:Int):=za;have t7:(s:Int)<(n2:Int):=za;obtain⟨X,hX⟩:=fd (V s q)
         rw [<- hX] at Tm;have HX:=am hX;clear hX;go_wp2;go_region_held3 (fun w'=>w'.cell? ⟨MN,s,Z⟩=ja (J (ja ⟨FC s,0,Z⟩) r r)/\w'.cell? ⟨l,s,Z⟩=ja (J (ja ⟨G' s,0,Z⟩) n2 (U' s))/\w'.cell? ⟨G' s,r+q,Z⟩=ja (I jl ((P s (r+q)).n:Int))/\w'.cell? ⟨G' s,s,Z⟩=ja (I jl ((P s s).n:Int))) (go_keep)
          ((go_at_call 288;refine(Tm.out _).mono ?_;rintro e w' ⟨rfl,g8⟩;obtain rfl:=g8.symm))
         go_wp2;go_roundw
         case rel=>exact⟨q+1,za,by go_num,((kr.out.store hsr X).congr (fun i j _ _=>by rw [HX.out];exact il V s q i j)).below (bdw _ _),ag (kr.out.keep hsr kA.out.1 kA.out.1.size q _) (bdw _ _) (by rw [size_set];exact kA.out.1.size),by show _<=(wr.setCell _ _).heap.size;rw [size_set];exact kA.out.2⟩
         case measure=>simp [intOf];omega
        ·obtain rfl:q=r:=za;go_wp2;go_roundw
         case rel=>exact⟨s+1,za,by go_num,kr.out.congr (fun i j _ hj=>ph V s q i j hj),kA.out⟩
         case measure=>simp [intOf];omega
      ·obtain rfl:s=r:=za;go_wp2;go_ret2;rw [show lq s H=jj from fr HV.out];refine nW ((jE.out.congr fun i j hi hj=>?_).lower qj.out.size) GM.out.2 (ag qj.out GM.out.1 qj.out.size);rw [nJ V s i j hi,oP HV.out i j hi hj]
 ·rw [show cP ll L H=jc by unfold cP cS;rw [hok];simp [hsq],show fx (cS ll L) 5=30 by unfold cS;rw [hok];simp [hsq,fx]];have zM:((ll:Int) != (L 0:Int))=jj:=zj;go_enter Tryz.func214,Tryz.ntmps214
  go_wp2_with fail
  refine CA.mono ?_;rintro e w1 ⟨rfl,hq⟩;have b1:=bj hq
  replace HL:O (Lst w1 (ja ⟨b,off,Z⟩) ll A C L H):=HL.out.below b1
  clear hq;obtain⟨b',qg,e',jU⟩:=HL.out.at_ za;cases e'
  have c0:=jU 0 za;rw [Nat.add_zero] at c0;clear jU h5;go_wp2_with fail
  go_ret2;exact bH b1
end Go.Proofs.YtemlojjkokooeaaGreat.Cod
namespace Go.Proofs.YtemlojjkokooeaaGreat.Cod.Ker
open Go.RowKit
theorem en(w:jh)(n:Nat):Own (w.alloc (jo (madeCells #[I jl 0] n) 5)) w.heap.size n (fun _=>0):=⟨fun _=>(by decide:0<256),World.rowIs_made w (I jl 0) n 5⟩
def pI (c i:Nat):Nat:=Gf.mul c i
theorem mr(c:Nat)(hc:c<256)(i:Nat):pI c i<256:=Gf.mul_lt _ _ hc
theorem vr(w:jh)(c:Nat)(ao bo:Option jm)(n ca cb:Nat)(f h:Nat->Nat)(hn:n<=1000000)(hc:c<256)(ha:Rd w ao n f)(hb:Rd w bo n h):
  jk N 289 #[J ao n ca,I jl (c:Int),J bo n cb] w fun e w'=>∃ g,e=jd (J (ja ⟨g,0,Z⟩) n n)/\w.heap.size<=g/\Own w' g n (plus f c h)/\b7 w w':=by
 have HA:=am ha;have HB:=am hb;clear ha hb;have Js:=run_make_row' (P:=N) 36 5 (I jl 0) 1 Tryz.underlying36 bU rfl W W 256 za za;rw [show ((256:Nat):Int)=256 from rfl] at Js;have Ga:=run_make_row' (P:=N) 36 5 (I jl 0) 1 Tryz.underlying36 bU rfl W W n za za;go_enter Tryz.func289,Tryz.ntmps289
 go_wp2;go_loopw [8] (fun i wr=>∃ k:Nat,k<=256/\i=I W k/\O (Own wr w.heap.size 256 (upto k (pI c) (fun _=>0)))/\O (Only w.heap.size w wr)) (fun i _=>256-(intOf i).toNat)
 case atStart=>exact⟨0,jb _,rfl,by rw [bR];exact en w 256,(Only.refl _ w).alloc _⟩
 case round =>
  obtain⟨k,hk,rfl,em,ki⟩:=hrel;by_cases hlt:k<256
  ·have c1:=em.out.2.cell hlt;have z1:=em.out.2.frozen k;go_wp2_with (go_at_call 321;refine(iN _ _ _ za za).mono ?_;rintro e w' ⟨rfl,rfl⟩)
   go_roundw
   case rel=>exact⟨k+1,za,by go_num,em.out.store (mr c hc),ki.out.setCell k _⟩
   case measure=>simp [intOf];omega
  ·obtain rfl:k=256:=za;have HO:=am (em.out.all (mr c hc));have WU:w.heap.size<wr.heap.size:=HO.out.lt;have OE:=am (HA.out.only ki.out fun hp=>HA.out.off (ji _) hp);have Tn:=am (HB.out.only ki.out fun hp=>HB.out.off (ji _) hp);have ko:b7 w wr:=ki.out.below (ji _) (ji _);obtain⟨wm,rfl⟩:∃ x,x=wr:=⟨wr,rfl⟩
   clear em HA HB Js;go_wp2;go_loopw [10] (fun i wr=>∃ k:Nat,k<=n/\i=I W k/\O (Own wr wm.heap.size n (upto k (plus f c h) (fun _=>0)))/\O (Only wm.heap.size wm wr)) (fun i _=>n-(intOf i).toNat)
   case atStart=>exact⟨0,jb _,rfl,by rw [bR];exact en wm n,(Only.refl _ wm).alloc _⟩
   case round =>
    obtain⟨k,hk,rfl,em,yp⟩:=hrel;by_cases hlt:k<n
    ·obtain⟨b0,o0,rfl,c0⟩:=OE.out.2 za;obtain⟨b1,o1,rfl,c1⟩:=Tn.out.2 za;have d0:=World.block_lt_of_cell? wm _ (c0 k hlt);have d1:=World.block_lt_of_cell? wm _ (c1 k hlt);simp only at d0 d1
     replace c0:=yp.out.cell (c0 k hlt) (by simp only;omega)
     replace c1:=yp.out.cell (c1 k hlt) (by simp only;omega)
     have Sz:=OE.out.1 k;have SC:=Tn.out.1 k;have c2:wr.cell? ⟨w.heap.size,h k,Z⟩=ja (I jl ((Gf.mul c (h k):Nat):Int)):=yp.out.cell (HO.out.2.cell SC) (by simp only;omega);have c3:=em.out.2.cell hlt;have z3:=em.out.2.frozen k;have i1:(0:Int)<=(k:Int):=za;have i2:(k:Int)<(n:Int):=za;have i3:(0:Int)<=(h k:Int):=za;have i4:(h k:Int)<256:=za;have HX:O (bits .xor jl (f k:Int) ((Gf.mul c (h k):Nat):Int)=((plus f c h k:Nat):Int)):=u8_xor_nat _ _ Sz (Gf.mul_lt _ _ hc);go_wp2;refine wp_region_still_tail 15 zh zh ?_;simp only [List.take_succ_cons,List.take_zero,List.drop_succ_cons,List.drop_zero]
     repeat still_step
     refine wpStill_nil ?_;go_wp2;go_roundw
     case rel=>exact⟨I W ((k:Int)+1),_,_,_,_,_,_,_,_,_,_,_,_,_,_,_,_,_,_,_,_,_,⟨k+1,za,by go_num,by rw [HX.out];exact em.out.store (fD f c h OE.out.1 hc),(yp.out.setCell k _).drew⟩,rfl⟩
     case measure=>simp [intOf];omega
    ·obtain rfl:k=n:=za;go_wp2;go_ret;refine⟨_,rfl,za,em.out.all (fD f c h OE.out.1 hc),ko.trans (yp.out.below za za)⟩
theorem rdot_any(w:jh)(co lo:Option jm)(lc cc ll cl:Nat)(F:Nat->Nat)(A:Nat->Option jm)(C L:Nat->Nat)(H:Nat->Nat->Nat)
  (Kz:lc<=1000000) (Hy:ll<=1000000) (hc:Rd w co lc F) (hl:Lst w lo ll A C L H) (hL:∀ i,i<ll->L i<=1000000) :
  jk N 215 #[J co lc cc,J lo ll cl] w (Made w (okL lc ll L) (n0 ll L) (tot F H ll)):=by
 have HC:=am hc;have HL:=am hl;have HM:=am hL;clear hc hl hL;by_cases h1:lc<=16
 ·by_cases h2:ll=lc
  ·subst h2;have zM:((ll:Int) == (ll:Int))=jj:=zi;by_cases hall:∀ i,i<ll->L i<=65536/\L i=L 0
   ·rw [show okL ll ll L=jj from zm ⟨h1,rfl,hall⟩];have HA:=am hall;clear hall;by_cases hz:ll=0
    ·subst hz;go_enter Tryz.func215,Tryz.ntmps215
     go_wp2;go_loop [6] (fun i=>i=I W 0) (fun i=>0)
     case atStart=>rfl
     case round =>
      obtain rfl:=hrel;go_wp2;go_ret2;exact⟨Z,rfl,.inl ⟨rfl,rfl,eF F H HC.out.1 0⟩,jg _ _⟩
    ·obtain⟨b,off,rfl,jU⟩:=HL.out.at_ za;have B6:=am jU;have c0:=jU 0 za;rw [Nat.add_zero] at c0;have Yx:((ll:Int) == 0)=jc:=by simpa using hz
     obtain⟨n,hn⟩:=fd (L 0)
     have HN:=am hn;rw [<- hn] at c0;rw [show n0 ll L=n by rw [n0,zl hz,hn]];have A8:n<=65536:=by rw [hn];exact(HA.out 0 za).1
     have HE:O (∀ i,i<ll->L i=n):=fun i hi=>by rw [hn];exact(HA.out i hi).2
     clear jU hn;have hmk:=run_make_row' (P:=N) 36 5 (I jl 0) 1 Tryz.underlying36 bU rfl W W n za za;go_enter Tryz.func215,Tryz.ntmps215
     go_wp2;go_loopw [6] (fun i wr=>∃ k:Nat,k<=ll/\i=I W k/\O (b7 w wr)) (fun i _=>ll-(intOf i).toNat)
     case atStart=>exact⟨0,jb _,rfl,jg _ _⟩
     case round =>
      obtain⟨k,hk,rfl,d8⟩:=hrel;have d0:=World.block_lt_of_cell? w _ c0;simp only at d0;have e0:=(d8.out.cell d0).trans c0;by_cases hlt:k<ll
      ·have ck:=(d8.out.cell (show (⟨b,off+k,Z⟩:jm).block<w.heap.size from d0)).trans (B6.out k hlt);rw [HE.out k hlt] at ck;have i1:(0:Int)<=(k:Int):=za;have i2:(k:Int)<(ll:Int):=za;have i3:(0:Int)<(ll:Int):=za;have hd:decide ((65536:Int)<(n:Int))=jc:=zj;have Ia:((n:Int) == (n:Int))=jj:=zi;go_wp2;go_quiet (fail)
       go_wp2;go_roundw
       case rel=>exact⟨k+1,za,by go_num,⟨d8.out.os,d8.out.tape,d8.out.output,d8.out.size,d8.out.block⟩⟩
       case measure=>simp [intOf];omega
      ·obtain rfl:k=ll:=za;obtain⟨w1,rfl⟩:∃ x,x=wr:=⟨wr,rfl⟩
       go_wp2;go_loopw [7,8] (fun v i wr=>∃ j:Nat,j<=k/\i=I W j/\(∃ g,v=J (ja ⟨g,0,Z⟩) n n/\w1.heap.size<=g/\O (Own wr g n (tot F H j)))/\O (b7 w1 wr)) (fun _ i _=>k-(intOf i).toNat)
       case atStart=>exact⟨0,jb _,rfl,⟨_,rfl,ji _,en w1 n⟩,bal _ _⟩
       case round =>
        obtain⟨j,hj,rfl,⟨g,rfl,hg,em⟩,kA⟩:=hrel;have bb:b7 w wr:=ag d8.out kA.out d8.out.size;by_cases hlt:j<k
        ·obtain⟨b',qg,rfl,jI⟩:=(HC.out.below bb).2 za;have c1:=jI j hlt;have c2:=(bb.cell (show (⟨b,off+j,Z⟩:jm).block<w.heap.size from d0)).trans (B6.out j hlt);rw [HE.out j hlt] at c2;have HR:O (Rd wr (A j) n (H j)):=by have:=(HL.out.below bb).rd j hlt;rwa [HE.out j hlt] at this
         clear jI;have i1:(0:Int)<=(j:Int):=za;have i2:(j:Int)<(k:Int):=za;have HP:O (jk N 289 #[J (ja ⟨g,0,Z⟩) n n,I jl (F j:Int),J (A j) n (C j)] wr.drew fun e w'=>∃ g,e=jd (J (ja ⟨g,0,Z⟩) n n)/\wr.drew.heap.size<=g/\Own w' g n (tot F H (j+1))/\je wr.drew.heap.size wr.drew w') :=
          vr wr.drew (F j) _ _ n n (C j) (tot F H j) (H j) za (HC.out.1 j) em.out.rd HR.out
         go_wp2;refine wp_region_still_tail 9 zh zh ?_;simp only [List.take_succ_cons,List.take_zero,List.drop_succ_cons,List.drop_zero]
         repeat still_step
         refine wpStill_nil ?_;go_wp2_with (go_at_call 289;refine HP.out.mono ?_;rintro e w' ⟨g',rfl,K1,Hx,j8⟩)
         have kS:=am Hx;have kx:w1.heap.size<=g':=Nat.le_trans kA.out.size K1;have jP:=am (ag kA.out.drew j8 kA.out.size);clear Hx j8 K1;go_roundw
         case rel=>exact⟨j+1,za,by go_num,⟨g',rfl,kx,kS⟩,jP⟩
         case measure=>simp [intOf];omega
        ·obtain rfl:j=k:=za;go_wp2;go_ret2;exact⟨_,rfl,.inr ⟨g,rfl,Nat.le_trans d8.out.size hg,em.out⟩,bb⟩
   ·rw [show okL ll ll L=jc from zp fun h=>hall h.2.2];obtain⟨q,hq,f9,heq⟩:∃ q,q<ll/\¬ (L q<=65536/\L q=L 0)/\∀ i,i<q->L i<=65536/\L i=L 0:=by
     obtain⟨i,hi⟩:=Classical.not_forall.1 hall;obtain⟨p1,p2⟩:=Classical.not_imp.1 hi;obtain⟨k,hk,p3,p4⟩:=cR (p:=fun i=>L i<=65536/\L i=L 0) i p2;exact⟨k,za,p3,p4⟩
    have HE:=am heq;have GI:=am f9;clear hall heq f9;obtain⟨b,off,rfl,jU⟩:=HL.out.at_ za;have B6:=am jU;have c0:=jU 0 za;rw [Nat.add_zero] at c0;clear jU;go_enter Tryz.func215,Tryz.ntmps215
    go_wp2;go_loopw [6] (fun i wr=>∃ k:Nat,k<=q/\i=I W k/\O (b7 w wr)) (fun i _=>ll-(intOf i).toNat)
    case atStart=>exact⟨0,jb _,rfl,jg _ _⟩
    case round =>
     obtain⟨k,hk,rfl,d8⟩:=hrel;have d0:=World.block_lt_of_cell? w _ c0;simp only at d0;have e0:=(d8.out.cell d0).trans c0;have ck:=(d8.out.cell (show (⟨b,off+k,Z⟩:jm).block<w.heap.size from d0)).trans (B6.out k za);have i1:(0:Int)<=(k:Int):=za;have i2:(k:Int)<(ll:Int):=za;have i3:(0:Int)<(ll:Int):=za;by_cases hlt:k<q
     ·rw [(HE.out k hlt).2] at ck;have hd:decide ((65536:Int)<(L 0:Int))=jc:=by have:=HE.out k hlt;simp;omega
      have Ia:((L 0:Int) == (L 0:Int))=jj:=zi;go_wp2;go_quiet (fail)
      go_wp2;go_roundw
      case rel=>exact⟨k+1,za,by go_num,⟨d8.out.os,d8.out.tape,d8.out.output,d8.out.size,d8.out.block⟩⟩
      case measure=>simp [intOf];omega
     ·obtain rfl:k=q:=za;by_cases hbig:L k<=65536
      ·have hd:decide ((65536:Int)<(L k:Int))=jc:=zj;have Ia:((L k:Int) != (L 0:Int))=jj:=by
        have:¬ L k=L 0:=fun e=>GI.out ⟨hbig,e⟩;simp;omega
       go_wp2;go_quiet (fail)
       go_wp2;go_ret2;exact⟨Z,rfl,.inl ⟨rfl,rfl,eF F H HC.out.1 ll⟩,⟨d8.out.os,d8.out.tape,d8.out.output,d8.out.size,d8.out.block⟩⟩
      ·have hd:decide ((65536:Int)<(L k:Int))=jj:=zj;go_wp2;go_quiet (fail)
       go_wp2;go_ret2;exact⟨Z,rfl,.inl ⟨rfl,rfl,eF F H HC.out.1 ll⟩,⟨d8.out.os,d8.out.tape,d8.out.output,d8.out.size,d8.out.block⟩⟩
  ·have zM:((ll:Int) != (lc:Int))=jj:=zj;rw [show okL lc ll L=jc from zp fun h=>h2 h.2.1];go_enter Tryz.func215,Tryz.ntmps215
   go_wp2;go_ret2;exact⟨Z,rfl,.inl ⟨rfl,rfl,eF F H HC.out.1 ll⟩,jg _ _⟩
 ·rw [show okL lc ll L=jc from zp fun h=>h1 h.1];go_enter Tryz.func215,Tryz.ntmps215
  go_wp2;go_ret2;exact⟨Z,rfl,.inl ⟨rfl,rfl,eF F H HC.out.1 ll⟩,jg _ _⟩
end Go.Proofs.YtemlojjkokooeaaGreat.Cod.Ker
namespace Go.Proofs.YtemlojjkokooeaaGreat.Cod
open Go.RowKit
theorem vw(w:jh)(co lo:Option jm)(k cc cl n:Nat)(F:Nat->K)(A:Nat->Option jm)(C L:Nat->Nat)(H:M)(kD:1<=k)(hk:k<=16)(A8:1<=n)(hn:n<=65536)(hc:Rd w co k F)(hl:Lst w lo k A C L H)(hL:∀ i,i<k->L i=n):
  jk N 215 #[J co k cc,J lo k cl] w (New w n (lin k F H)):=by
 obtain⟨h1,h2⟩:=sT hk hn kD hL;refine(Ker.rdot_any w co lo k cc k cl _ A C L _ za za (pP hc) (sF hl) (fun i hi=>by rw [hL i hi];omega)).mono fun e w' h=>?_;rw [h2] at h;exact wK h h1 A8 hn (tg k F H)
def DH (w:jh) (B T:Nat) (ao:Option jm) (n b8:Nat) (f:Nat->K):Prop:=(ao=Z/\n=0/\b8=0)\/∃ g,ao=ja ⟨g,0,Z⟩/\B<=g/\g<T/\Own w g n b8 f
def Bg (w:jh) (ok:Bool) (err:Int) (n:Nat) (f:Nat->K) (e:Ending) (w':jh):Prop :=
  ∃ ao b8,e=.returned (.tuple #[.slice ao (dS ok n) b8,.int .i64 (dE ok err)])/\DH w' w.heap.size w'.heap.size ao (dS ok n) b8 f/\b7 w w'
def eu (k r c:Int):Bool:=mayB k r && decide (0<=c/\c<k+r)
theorem DV{L:Nat->Nat}{i n:Nat}(hi:i<n)(h:L i ≠ 0):sel L n (cnt L i)=i:=by
 rw [iO L (show i+1<=n by omega) (by rw [cnt_take h];omega),sel_take h,put_at]
theorem pG{ll:Nat}{L:Nat->Nat}{k r:Int}(h:okEnc ll L k r=jj):mayB k r=jj/\okC ll L k=jj/\k<=(cnt L ll:Int):=by
 unfold okEnc at h;rw [Bool.and_eq_true,Bool.and_eq_true,decide_eq_true_eq] at h;exact h
theorem iK(w:jh)(k r:Int):jk N 211 #[I W k,I W r] w fun e w'=>e=jd (.bool (mayB k r))/\w'=w:=by
 by_cases h1:1<=k
 ·by_cases h2:k<=12
  ·by_cases h3:0<=r
   ·by_cases h4:r<=4
    ·rw [show mayB k r=jj from zm ⟨h1,h2,h3,h4⟩];go_enter Tryz.func211,Tryz.ntmps211
     go_wp2;go_ret;exact⟨zi,rfl⟩
    ·rw [show mayB k r=jc from zp fun h=>h4 h.2.2.2];go_enter Tryz.func211,Tryz.ntmps211
     go_wp2;go_ret;exact⟨zi,rfl⟩
   ·rw [show mayB k r=jc from zp fun h=>h3 h.2.2.1];go_enter Tryz.func211,Tryz.ntmps211
    go_wp2;go_ret;exact⟨zi,rfl⟩
  ·rw [show mayB k r=jc from zp fun h=>h2 h.2.1];go_enter Tryz.func211,Tryz.ntmps211
   go_wp2;go_ret;exact⟨zi,rfl⟩
 ·rw [show mayB k r=jc from zp fun h=>h1 h.1];go_enter Tryz.func211,Tryz.ntmps211
  go_wp2;go_ret;exact⟨zi,rfl⟩
theorem AR(w:jh)(k r c:Int):jk N 213 #[I W k,I W r,I W c] w (Bg w (eu k r c) 2 k.toNat (gen k.toNat c.toNat)):=by
 have HM:=iK w k r;have OG:Bg w jc 2 k.toNat (gen k.toNat c.toNat) (jd (jn #[J Z 0 0,I W 2])) w:=⟨Z,0,rfl,.inl ⟨rfl,rfl,rfl⟩,jg _ _⟩
 cases hmay:mayB k r
 ·rw [show eu k r c=jc by unfold eu;rw [hmay];rfl];rw [hmay] at HM;clear hmay;go_enter Tryz.func213,Tryz.ntmps213
  go_wp2_with (go_at_call 211;refine HM.mono ?_;rintro e w' ⟨rfl,rfl⟩)
  go_ret2;exact OG
 ·obtain⟨h1,h2,h3,h4⟩:=dJ hmay;rw [hmay] at HM;by_cases h5:0<=c
  ·by_cases h6:c<k+r
   ·rw [show eu k r c=jj by unfold eu;rw [hmay];simp [h5,h6]];clear hmay OG;obtain⟨k,rfl⟩:=Int.eq_ofNat_of_zero_le (show 0<=k by omega);obtain⟨r,rfl⟩:=Int.eq_ofNat_of_zero_le (show 0<=r by omega);obtain⟨c,rfl⟩:=Int.eq_ofNat_of_zero_le h5;rw [jf,jf];by_cases hck:c<k
    ·have hmk:=run_make_row' (P:=N) 36 5 (I jl 0) 1 Tryz.underlying36 vR rfl W W k za za;have HO:O (Own (w.alloc (jo (madeCells #[I jl 0] k) 5)) w.heap.size k k (fun _=>0)):=⟨ji _,by unfold maxLen;omega,_,fA w 5 k _,fun i _=>rfl⟩
     obtain⟨wa,yw⟩:=fd (w.alloc (jo (madeCells #[I jl 0] k) 5))
     have Ga:=hmk w;rw [<- yw] at Ga HO;have ba:=jt yw
     have c1:=HO.out.cell (i:=c) hck;have z1:=HO.out.frozen c;clear yw hmk;have i1:(0:Int)<=(c:Int):=za;have i2:(c:Int)<(k:Int):=za;go_enter Tryz.func213,Tryz.ntmps213
     go_wp2_with (go_at_call 211;refine HM.mono ?_;rintro e w' ⟨rfl,g8⟩;obtain rfl:=g8.symm)
     go_ret2;have ho:=HO.out.set c 1;refine⟨_,_,rfl,.inr ⟨w.heap.size,rfl,ji _,ho.lt,ho.congr fun i hi=>?_⟩,ba.trans (((Keeps.refl w.heap.size (w.heap.size+1) wa).setCell (ji _) za c _).below ba.size (ji _))⟩;rw [sA hck];unfold one;by_cases e:i=c
     ·rw [zk e,zk e.symm]
     ·rw [zl e,zl (Ne.symm e)]
    ·have CY:=nX w (k:Int) (r:Int);rw [show okN (k:Int) 12=jj from zm za,show okN (r:Int) 4=jj from zm za,jf,jf] at CY;go_enter Tryz.func213,Tryz.ntmps213
     go_wp2_with fail
     refine HM.mono ?_;rintro e w' ⟨rfl,g8⟩;obtain rfl:=g8.symm;go_wp2_with fail
     refine CY.mono ?_;intro e w2 hh;obtain⟨l,cl,G,U,rfl,hm,b2⟩:=mA hh za;obtain⟨q,hq⟩:∃ q,c=k+q:=⟨c-k,za⟩
     have HQ:=am hq;have FW:q<r:=za;have ck:=hm.cell_l FW;have i1:(0:Int)<=(c:Int)-(k:Int):=za;have i2:(c:Int)-(k:Int)<(r:Int):=za;have i3:((c:Int)-(k:Int)).toNat=q:=za;have HO:O (Own w2 (G q) k (U q) (cau k q)/\w.heap.size<=G q):=⟨hm.row q FW,hm.los q FW⟩
     clear hm hh CY hq;go_wp2_with fail
     go_ret2;refine⟨_,_,rfl,.inr ⟨G q,rfl,HO.out.2,HO.out.1.lt,HO.out.1.congr fun i _=>?_⟩,b2⟩;rw [HQ.out,sJ]
   ·rw [show eu k r c=jc by unfold eu;simp [h6]];clear hmay;go_enter Tryz.func213,Tryz.ntmps213
    go_wp2_with (go_at_call 211;refine HM.mono ?_;rintro e w' ⟨rfl,rfl⟩)
    go_ret2;exact OG
  ·rw [show eu k r c=jc by unfold eu;simp [h5]];clear hmay;go_enter Tryz.func213,Tryz.ntmps213
   go_wp2_with (go_at_call 211;refine HM.mono ?_;rintro e w' ⟨rfl,rfl⟩)
   go_ret2;exact OG
theorem mn(w:jh)(k r c:Nat)(kD:1<=k)(hk:k<=12)(hr:r<=4)(hc:c<k+r):
  jk N 213 #[I W (k:Int),I W (r:Int),I W (c:Int)] w fun e w'=>∃ g u,e=jd (jn #[J (ja ⟨g,0,Z⟩) k u,I W 0])/\w.heap.size<=g/\Own w' g k u (gen k c)/\b7 w w':=by
 have HR:=AR w k r c;have h1:eu k r c=jj:=by
  unfold eu;rw [show mayB k r=jj from zm za];simp;omega
 rw [h1,jf,jf] at HR;refine HR.mono ?_;rintro e w' ⟨ao,b8,rfl,hs,hb⟩;rcases hs with ⟨_,h0,_⟩ | ⟨g,rfl,hg,_,ho⟩
 ·exact absurd (show k=0 from h0) za
 ·exact⟨g,b8,rfl,hg,ho,hb⟩
theorem lY(w:jh)(k r a z m:Nat)(lo:Option jm)(cl:Nat)(A:Nat->Option jm)(C L:Nat->Nat)(D:M)(kD:1<=k)(hk:k<=12)(hr:r<=4)(IZ:1<=m)(hm:m<=65536)(FR:a+z<=k+r)(hl:Lst w lo k A C L D)(hL:∀ i,i<k->L i=m):
  jk N 216 #[I W (k:Int),I W (r:Int),I W (a:Int),I W ((a:Int)+(z:Int)),J lo k cl] w fun e w'=>∃ ao b8 T U,e=jd (J ao z b8)/\Copied w' w.heap.size z (J ao z b8) T (fun _=>m) U (fun i=>enc k D (a+i))/\b7 w w':=by
 obtain⟨j0,hj,kE,kB,kt⟩:=info_parts info23c;have HL:=am hl;have EB:=am hL;clear hl hL;go_enter Tryz.func216,Tryz.ntmps216
 go_wp2;go_loopw [11,12] (fun v x wr=>∃ j:Nat,j<=z/\x=I W ((a:Int)+(j:Int))/\(∃ ao b8,v=J ao j b8)/\O (∃ T U,Copied wr w.heap.size j v T (fun _=>m) U (fun i=>enc k D (a+i)))/\O (b7 w wr)) (fun _ x _=>a+z-(intOf x).toNat)
 case atStart=>exact⟨0,jb _,zi,⟨Z,0,rfl⟩,⟨fun _=>Z,fun _=>0,Copied.start _ _ _ _ _ _⟩,jg _ _⟩
 case round =>
  obtain⟨j,Yy,rfl,⟨ao,b8,rfl⟩,jY,d8⟩:=hrel;by_cases hlt:j<z
  ·obtain⟨T,U,o9⟩:=jY.out;have EC:=am o9;have qA:=d8.out.size;have HR:=mn wr k r (a+j) kD hk hr za;rw [Int.natCast_add] at HR;obtain⟨XS,kh⟩:∃ X,X=rowsOf j T (fun _=>m) U:=⟨_,rfl⟩
   have o7:=am (kh.symm);have J7:(a:Int)+(j:Int)<(a:Int)+(z:Int):=za;clear jY o9 kh;go_wp2_with fail
   refine HR.mono ?_;rintro e w1 ⟨g,u,rfl,hg,ho,b1⟩;have HS:=vw w1 (ja ⟨g,0,Z⟩) lo k u cl m (gen k (a+j)) A C L D kD za IZ hm ho.rd ((HL.out.below d8.out).below b1) EB.out;have B1:=am b1;clear HR ho hg b1;go_wp2_with fail
   refine HS.mono ?_;rintro e w2 ⟨g2,rfl,kx,kS,jP⟩;have kH:=am kS;have jv:=am (ag B1.out jP B1.out.size);have WV:wr.heap.size<=g2:=Nat.le_trans B1.out.size kx;have zQ:=am (EC.out.stay (Stay.of_below jv.out));have ye:O (w2.ownsRow w.heap.size 36 1 (J ao j b8) j XS):=by rw [<- o7.out];exact zQ.out.out
   have hs2:w.heap.size<=w2.heap.size:=Nat.le_trans qA jv.out.size;clear kS jP HS;go_wp2_with (at_builtin;refine wpList_append_lies _ zg (jp 36) (jp 38) 33 zg w.heap.size 36 j0 (J Z 0 0) 1 24 Tryz.underlying33 hj kE kB kt zg zb (J ao j b8) j XS zg (ye.out.alloc _) ⟨w2.heap.size,0,Z⟩ 1 1 [J (ja ⟨g2,0,Z⟩) m m] zg zg (World.news_of_block (heap_alloc_new w2 _)) (by simp [Value.oneCell']) zb (by unfold maxLen;omega) za zj (w2.heap.size+1) zi ?_;intro g3 m7 w3 ka jC _ _)
   have yg:O (∃ T U,Copied w3 w.heap.size (j+1) (J (ja ⟨g3,0,Z⟩) (j+1) m7) T (fun _=>m) U (fun i=>enc k D (a+i))):=by
    have hp:=zQ.out.push (cy (ep kH.out) za) (fun i a b hi ea eb=>by
     have:=EC.out.old hi ea;cases eb
     show a.block ≠ g2;omega) jC (by rw [o7.out];exact ka)
    exact⟨_,_,hp.congr (fun _ _=>rfl) (fun i _=>bG j i (fun _=>m)) (fun _ _=>rfl) (fun i _=>bG j i (fun i=>enc k D (a+i)))⟩
   have m9:O (b7 w w3):=((ag d8.out jv.out qA).alloc hs2 _).grown jC zj (fun q hq=>(ye.out.lt q hq).1);clear ka jC;go_roundw
   case rel=>exact⟨j+1,za,by go_num,⟨_,_,rfl⟩,yg,m9⟩
   case measure=>simp [intOf];omega
  ·obtain rfl:j=z:=za;have Yz:¬ ((a:Int)+(j:Int)<(a:Int)+(j:Int)):=za;go_wp2;go_ret;obtain⟨T,U,o9⟩:=jY.out;exact⟨ao,b8,rfl,⟨T,U,o9⟩,d8.out⟩
def bM (all:Bool) (L:Nat->Nat) (n:Nat):Prop:=okT L n=jj/\(all=jj->cnt L n=n)
theorem nt{all:Bool}{L:Nat->Nat}{n:Nat}(h:¬ bM all L n):∃ q,q<n/\bM all L q/\¬ bM all L (q+1):=by
 induction n with
 | zero=>exact absurd ⟨rfl,fun _=>rfl⟩ h
 | succ n ih =>
  by_cases g:bM all L n
  ·exact⟨n,za,g,h⟩
  ·obtain⟨q,h1,h2⟩:=ih g;exact⟨q,za,h2⟩
theorem lP{all:Bool}{L:Nat->Nat}{i n:Nat}(h:bM all L n)(hi:i<=n):bM all L i:=by
 refine⟨vq h.1 hi,fun ha=>?_⟩;have h1:=h.2 ha;exact cnt_full fun j hj=>fun e=>by have:=rB (show j<n by omega) e;omega
theorem gD{all:Bool}{L:Nat->Nat}{i:Nat}(h:bM all L (i+1))(hz:L i ≠ 0):L i<=65536/\L i=len0 L (i+1):=iu h.1 za hz
theorem gf{all:Bool}{L:Nat->Nat}{i:Nat}(h:bM all L (i+1))(hz:L i=0):all=jc:=by
 cases all
 ·rfl
 ·have:=h.2 rfl;have:=rB (show i<i+1 by omega) hz;omega
theorem vH{all:Bool}{L:Nat->Nat}{q:Nat}(h:bM all L q)(hn:¬ bM all L (q+1)):(L q=0/\all=jj)\/(L q ≠ 0/\(65536<L q\/(0<cnt L q/\L q ≠ len0 L q))):=by
 by_cases hz:L q=0
 ·left
  refine⟨hz,?_⟩;cases all
  ·exact absurd ⟨eo h.1 (.inl hz),fun e=>by cases e⟩ hn
  ·rfl
 ·right
  refine⟨hz,?_⟩;by_cases h1:L q<=65536
  ·right
   by_cases h2:L q=len0 L (q+1)
   ·exact absurd ⟨eo h.1 (.inr ⟨h1,h2⟩),fun e=>by rw [cnt_take hz,h.2 e]⟩ hn
   ·rcases len0_sel L q with ⟨g1,g2⟩ | ⟨g1,g2,g3⟩
    ·exact absurd (by rw [len0,zk g2]) h2
    ·exact⟨g1,fun e=>h2 (by rw [len0,zl g3];exact e)⟩
  ·exact .inl za
theorem lI{L:Nat->Nat}{n:Nat}(h:L n=0):len0 L (n+1)=len0 L n:=by
 rw [len0];by_cases e:len0 L n=0
 ·rw [zk e,h,e]
 ·rw [zl e]
def okA (ll:Nat) (L:Nat->Nat) (many:Int) (all:Bool):Bool:=okC ll L many && (!all || decide (cnt L ll=ll))
def Alike (w:jh) (ll:Nat) (L:Nat->Nat) (many:Int) (all:Bool) (e:Ending) (w':jh):Prop:=e=.returned (.tuple #[.int .i64 ((dS (okA ll L many all) (cnt L ll):Nat):Int),.bool (okA ll L many all)])/\w'=w
theorem okA_good{ll:Nat}{L:Nat->Nat}{all:Bool}:okA ll L (ll:Int) all=jj ↔ bM all L ll:=by
 unfold okA okC bM;cases all <;> simp
theorem iC(w:jh)(lo:Option jm)(ll cl:Nat)(A:Nat->Option jm)(C L:Nat->Nat)(H:M)(many:Int)(all:Bool)(hm:many<=16)(hl:Lst w lo ll A C L H):
  jk N 212 #[J lo ll cl,I W many,.bool all] w (Alike w ll L many all):=by
 have HL:=am hl;clear hl;by_cases hmany:(ll:Int)=many
 ·subst hmany;have zM:((ll:Int) != (ll:Int))=jc:=zi;by_cases hgood:bM all L ll
  ·have kN:=am (okA_good.2 hgood);have HG:=am hgood;clear hgood;go_enter Tryz.func212,Tryz.ntmps212
   go_wp2;go_loop [8,9,10] (fun t g x=>∃ i:Nat,i<=ll/\x=I W i/\t=I W (cnt L i:Int)/\g=I W (len0 L i:Int)) (fun _ _ x=>ll-(intOf x).toNat)
   case atStart=>exact⟨0,jb _,rfl,rfl,rfl⟩
   case round =>
    obtain⟨i,PP,rfl,rfl,rfl⟩:=hrel;by_cases hlt:i<ll
    ·obtain⟨b,off,rfl,jU⟩:=HL.out.at_ za;have ck:=jU i hlt;have j1:(0:Int)<=(i:Int):=za;have j2:(i:Int)<(ll:Int):=za;have kU:=lP HG.out (show i+1<=ll by omega);have Gw:=cnt_le L i;by_cases hz:L i=0
     ·have hall:=gf kU hz;rw [hz] at ck;have HS:O (cnt L (i+1)=cnt L i/\len0 L (i+1)=len0 L i):=⟨cnt_skip hz,lI hz⟩
      subst hall;clear jU hz kU;go_wp2;go_round
      case rel=>exact⟨i+1,za,by go_num,by rw [HS.out.1],by rw [HS.out.2]⟩
      case measure=>simp [intOf];omega
     ·obtain⟨qe,heq⟩:=gD kU hz;have HS:O (cnt L (i+1)=cnt L i+1/\len0 L (i+1)=L i):=⟨cnt_take hz,heq.symm⟩
      have JO:0<L i:=za;rcases len0_sel L i with ⟨g1,g2⟩ | ⟨g1,g2,g3⟩
      ·rw [g1,g2];have HC:=am g1;clear jU hz kU heq g1 g2;go_wp2;go_round
       case rel=>exact⟨i+1,za,by go_num,by rw [HS.out.1,HC.out];rfl,by rw [HS.out.2]⟩
       case measure=>simp [intOf];omega
      ·have MO:L i=len0 L i:=by rw [heq,len0,zl g3]
       rw [<- MO];have Ia:((L i:Int) != (L i:Int))=jc:=zi;have o9:(0:Int)<(cnt L i:Int):=za;clear jU hz kU heq g2 g3 MO;go_wp2;go_round
       case rel=>exact⟨i+1,za,by go_num,by rw [HS.out.1];go_num,by rw [HS.out.2]⟩
       case measure=>simp [intOf];omega
    ·obtain rfl:i=ll:=za;go_wp2;go_ret2;exact⟨by rw [kN.out];rfl,rfl⟩
  ·have kN:O (okA ll L (ll:Int) all=jc):=by show _=_;rw [<- Bool.not_eq_true];exact fun h=>hgood (okA_good.1 h)
   obtain⟨q,hq,Gq,Fo⟩:=nt hgood;have HG:=am Gq;have HN:=am (vH Gq Fo);clear hgood Gq Fo;go_enter Tryz.func212,Tryz.ntmps212
   go_wp2;go_loop [8,9,10] (fun t g x=>∃ i:Nat,i<=q/\x=I W i/\t=I W (cnt L i:Int)/\g=I W (len0 L i:Int)) (fun _ _ x=>ll-(intOf x).toNat)
   case atStart=>exact⟨0,jb _,rfl,rfl,rfl⟩
   case round =>
    obtain⟨i,PP,rfl,rfl,rfl⟩:=hrel;have hlt:i<ll:=za;obtain⟨b,off,rfl,jU⟩:=HL.out.at_ za;have ck:=jU i hlt;have j1:(0:Int)<=(i:Int):=za;have j2:(i:Int)<(ll:Int):=za;have Gw:=cnt_le L i;by_cases hiq:i<q
    ·have kU:=lP HG.out (show i+1<=q by omega);by_cases hz:L i=0
     ·have hall:=gf kU hz;rw [hz] at ck;have HS:O (cnt L (i+1)=cnt L i/\len0 L (i+1)=len0 L i):=⟨cnt_skip hz,lI hz⟩
      subst hall;clear jU hz kU;go_wp2;go_round
      case rel=>exact⟨i+1,za,by go_num,by rw [HS.out.1],by rw [HS.out.2]⟩
      case measure=>simp [intOf];omega
     ·obtain⟨qe,heq⟩:=gD kU hz;have HS:O (cnt L (i+1)=cnt L i+1/\len0 L (i+1)=L i):=⟨cnt_take hz,heq.symm⟩
      have JO:0<L i:=za;rcases len0_sel L i with ⟨g1,g2⟩ | ⟨g1,g2,g3⟩
      ·rw [g1,g2];have HC:=am g1;clear jU hz kU heq g1 g2;go_wp2;go_round
       case rel=>exact⟨i+1,za,by go_num,by rw [HS.out.1,HC.out];rfl,by rw [HS.out.2]⟩
       case measure=>simp [intOf];omega
      ·have MO:L i=len0 L i:=by rw [heq,len0,zl g3]
       rw [<- MO];have Ia:((L i:Int) != (L i:Int))=jc:=zi;have o9:(0:Int)<(cnt L i:Int):=za;clear jU hz kU heq g2 g3 MO;go_wp2;go_round
       case rel=>exact⟨i+1,za,by go_num,by rw [HS.out.1];go_num,by rw [HS.out.2]⟩
       case measure=>simp [intOf];omega
    ·obtain rfl:i=q:=za;rcases HN.out with ⟨hz,hall⟩ | ⟨hz,hbig | ⟨Ff,f9⟩⟩
     ·rw [hz] at ck;subst hall;clear jU hz;go_wp2;go_ret2;exact⟨by rw [kN.out];rfl,rfl⟩
     ·have JO:0<L i:=za;clear jU hz;go_wp2;go_ret2;exact⟨by rw [kN.out];rfl,rfl⟩
     ·have JO:0<L i:=za;have o9:(0:Int)<(cnt L i:Int):=za;have Ia:((L i:Int) != (len0 L i:Int))=jj:=zj;clear jU hz f9;by_cases qe:L i<=65536
      ·go_wp2;go_ret2;exact⟨by rw [kN.out];rfl,rfl⟩
      ·have hbig:65536<L i:=za;go_wp2;go_ret2;exact⟨by rw [kN.out];rfl,rfl⟩
 ·have zM:((ll:Int) != many)=jj:=by simp [hmany]
  have kN:O (okA ll L many all=jc):=by show _=_;unfold okA okC;rw [zp hmany];rfl
  clear hmany;go_enter Tryz.func212,Tryz.ntmps212
  go_wp2;go_ret2;exact⟨by rw [kN.out];rfl,rfl⟩
theorem Ck(ll:Nat)(L:Nat->Nat)(k:Int):okA ll L k jj=(okC ll L k && decide (k<=(cnt L ll:Int))):=by
 unfold okA;cases h:okC ll L k
 ·rfl
 ·obtain⟨h1,_⟩:=ey h;have:=cnt_le L ll;simp only [Bool.true_and,Bool.not_true,Bool.false_or];apply decide_eq_decide.2
  omega
theorem Ca(ll:Nat)(L:Nat->Nat)(k:Int):okA ll L k jc=okC ll L k:=by unfold okA;simp
theorem rEncode_any(w:jh)(k r:Int)(lo:Option jm)(ll cl:Nat)(A:Nat->Option jm)(C L:Nat->Nat)(H:M)(hl:Lst w lo ll A C L H):
  jk N 222 #[I W k,I W r,J lo ll cl] w (Out w (okEnc ll L k r) (errE (mayB k r) (okEnc ll L k r)) r.toNat (len0 L ll) (par k.toNat H)):=by
 have HM:=iK w k r;cases hmay:mayB k r
 ·rw [show okEnc ll L k r=jc by unfold okEnc;rw [hmay];rfl];rw [hmay] at HM;clear hmay;go_enter Tryz.func222,Tryz.ntmps222
  go_wp2_with (go_at_call 211;refine HM.mono ?_;rintro e w' ⟨rfl,rfl⟩)
  go_ret2;exact Out.no (jg _ _)
 ·obtain⟨h1,h2,h3,h4⟩:=dJ hmay;rw [hmay] at HM;have HT:=iC w lo ll cl A C L H k jj za hl;unfold Alike at HT;have hE:okEnc ll L k r=okA ll L k jj:=by unfold okEnc;rw [hmay,Bool.true_and,Ck]
  cases hoa:okA ll L k jj
  ·have kN:O (okEnc ll L k r=jc):=by show _=_;rw [hE,hoa]
   rw [hoa] at HT;clear hmay hoa hl hE;go_enter Tryz.func222,Tryz.ntmps222
   go_wp2_with (first | (go_at_call 211;refine HM.mono ?_;rintro e w' ⟨rfl,g8⟩;obtain rfl:=g8.symm) | (go_at_call 212;refine HT.mono ?_;rintro e w' ⟨rfl,g8⟩;obtain rfl:=g8.symm))
   go_ret2;rw [kN.out];exact Out.no (jg _ _)
  ·have hok:okEnc ll L k r=jj:=by rw [hE,hoa]
   have kN:=am hok;rw [hoa] at HT;obtain⟨_,q2,q3⟩:=pG hok;obtain⟨Hy,xz⟩:=ey q2;subst Hy;obtain⟨r,rfl⟩:=Int.eq_ofNat_of_zero_le h3;obtain⟨m1,m2,m3⟩:=fO xz za;have Mw:∀ i,i<ll->L i=len0 L ll:=fun i hi=>(m3 i hi).resolve_left (lV za i hi);have zN:=lY w ll r ll r (len0 L ll) lo cl A C L H za za za m1 m2 za hl Mw;rw [jf,jf];clear hmay hoa hl hE hok q2 q3 xz m3 Mw;go_enter Tryz.func222,Tryz.ntmps222
   go_wp2_with (first | (go_at_call 211;refine HM.mono ?_;rintro e w' ⟨rfl,g8⟩;obtain rfl:=g8.symm) | (go_at_call 212;refine HT.mono ?_;rintro e w' ⟨rfl,g8⟩;obtain rfl:=g8.symm) | (go_at_call 216;refine zN.mono ?_;rintro e w2 ⟨KY,jK,T,U,rfl,jY,b2⟩))
   go_ret2;rw [kN.out];exact⟨KY,jK,T,U,rfl,jY,b2⟩
theorem rDecode_any(w:jh)(k r:Int)(lo:Option jm)(ll cl:Nat)(A:Nat->Option jm)(C L:Nat->Nat)(H:M)(hl:Lst w lo ll A C L H):
    jk N 140 #[I W k,I W r,J lo ll cl] w (Out w (okDec ll L k r) (errD (mayB k r) (okC ll L (k+r)) (okDec ll L k r)) (k.toNat+r.toNat) (len0 L ll) (enc k.toNat (dec k.toNat (sel L ll) H))):=by
  have HM:=iK w k r
  cases hmay:mayB k r
  · rw [show okDec ll L k r=jc by unfold okDec;rw [hmay];rfl]
    rw [hmay] at HM
    clear hmay
    go_enter Tryz.func140,Tryz.ntmps140
    go_wp2_with (go_at_call 211;refine HM.mono ?_;rintro e w' ⟨rfl,rfl⟩)
    go_ret2
    exact Out.no (jg _ _)
  · obtain⟨h1,h2,h3,h4⟩:=dJ hmay
    rw [hmay] at HM
    have HT:=iC w lo ll cl A C L H (k+r) jc za hl
    unfold Alike at HT
    rw [Ca] at HT
    cases hoc:okC ll L (k+r)
    · have kN:O (okDec ll L k r=jc):=by show _=_;unfold okDec;rw [hoc,Bool.false_and,Bool.and_false]
      rw [hoc] at HT
      clear hmay hoc hl
      go_enter Tryz.func140,Tryz.ntmps140
      go_wp2_with (first | (go_at_call 211;refine HM.mono ?_;rintro e w' ⟨rfl,g8⟩;obtain rfl:=g8.symm) | (go_at_call 212;refine HT.mono ?_;rintro e w' ⟨rfl,g8⟩;obtain rfl:=g8.symm))
      go_ret2
      rw [kN.out]
      exact Out.no (jg _ _)
    · obtain⟨Hy,xz⟩:=ey hoc
      obtain⟨k,rfl⟩:=Int.eq_ofNat_of_zero_le (show 0<=k by omega)
      obtain⟨r,rfl⟩:=Int.eq_ofNat_of_zero_le h3
      obtain rfl:ll=k+r:=za;clear Hy
      rw [jf,jf]
      rw [hoc] at HT
      obtain⟨cn,qD⟩:=fd (cnt L (k+r))
      rw [<- qD,show dS jj cn=cn from rfl] at HT
      by_cases hck:cn<k
      · have kN:O (okDec (k+r) L k r=jc):=by show _=_;unfold okDec;rw [show decide ((k:Int)<=(cnt L (k+r):Int))=jc from zp za,Bool.and_false,Bool.and_false]
        have N6:(cn:Int)<(k:Int):=za;clear hmay hoc hl xz qD
        go_enter Tryz.func140,Tryz.ntmps140
        go_wp2_with (first | (go_at_call 211;refine HM.mono ?_;rintro e w' ⟨rfl,g8⟩;obtain rfl:=g8.symm) | (go_at_call 212;refine HT.mono ?_;rintro e w' ⟨rfl,g8⟩;obtain rfl:=g8.symm))
        go_ret2
        rw [kN.out]
        exact Out.no (jg _ _)
      · have kN:O (okDec (k+r) L k r=jj):=by show _=_;unfold okDec;rw [hmay,hoc,show decide ((k:Int)<=(cnt L (k+r):Int))=jj from zm za];rfl
        obtain⟨m1,m2,m3⟩:=fO xz za
        obtain⟨m,hm⟩:=fd (len0 L (k+r))
        rw [<- hm] at m1 m2 m3 ⊢
        have KX:=am m3
        have kQ:O (Sel L (k+r) cn (sel L (k+r))):=by rw [qD];exact sel_is L (k+r)
        have zG:=am fun i (hi:i<k+r)(hz:L i ≠ 0)=>DV hi hz
        have Hd:=am (qD.symm)
        obtain⟨R,hR⟩:=fd (sel L (k+r))
        rw [<- hR] at kQ zG ⊢
        obtain⟨j0,hj,kE,kB,kt⟩:=info_parts info23c
        have HL:=am hl
        obtain⟨bl,ol,rfl,jU⟩:=hl.at_ za
        have B6:=am jU
        have N6:¬ ((cn:Int)<(k:Int)):=za;clear hmay hoc hl xz m3 qD hm hR jU
        go_enter Tryz.func140,Tryz.ntmps140
        go_wp2_with (first | (go_at_call 211;refine HM.mono ?_;rintro e w' ⟨rfl,g8⟩;obtain rfl:=g8.symm) | (go_at_call 212;refine HT.mono ?_;rintro e w' ⟨rfl,g8⟩;obtain rfl:=g8.symm))
        go_loopw [10,11,12] (fun v u x wr=>∃ i:Nat,i<=k+r/\x=I W i/\cnt L i<=k/\(∃ a1 c1,v=J a1 (cnt L i) c1)/\(∃ a2 c2,u=J a2 (cnt L i) c2)/\O (∃ G U,Picked wr w.heap.size k m (cnt L i) v u G U A C R)/\O (b7 w wr)) (fun _ _ x _=>k+r-(intOf x).toNat)
        case atStart=>exact⟨0,jb _,rfl,jb _,⟨Z,0,rfl⟩,⟨Z,0,rfl⟩,⟨_,_,Picked.start _ _ _ _ _ _ _⟩,jg _ _⟩
        case round =>
          obtain⟨i,PP,rfl,MP,⟨a1,c1,rfl⟩,⟨a2,c2,rfl⟩,kG,d8⟩:=hrel
          obtain⟨t,ht⟩:=fd (cnt L i)
          rw [<- ht] at kG MP ⊢
          by_cases hgo:i<k+r/\t<k
          · obtain⟨kU,kx⟩:=hgo
            have qA:=d8.out.size
            have ck:=held (B6.out i kU) d8.out
            have i1:(0:Int)<=(i:Int):=za;have i2:(i:Int)<(k:Int)+(r:Int):=za;have i3:(t:Int)<(k:Int):=za;by_cases hz:L i=0
            · rw [hz] at ck
              have yQ:O (cnt L (i+1)=t):=by show _=_;rw [cnt_skip hz,ht]
              clear hz ht
              go_wp2
              go_roundw
              case rel=>exact⟨i+1,za,by go_num,by rw [yQ.out];omega,⟨a1,c1,by rw [yQ.out]⟩,⟨a2,c2,by rw [yQ.out]⟩,by rw [yQ.out];exact kG,d8⟩
              case measure=>simp [intOf];omega
            · have yQ:O (cnt L (i+1)=t+1):=by show _=_;rw [cnt_take hz,ht]
              have QG:L i=m:=(KX.out i kU).resolve_left hz
              have Ii:O (R t=i):=by show _=_;rw [ht];exact zG.out i kU hz
              have KW:(0:Int)<(m:Int):=za;rw [QG] at ck
              obtain⟨G,U,hp⟩:=kG.out
              have HP:=am hp
              have HR:=mn wr k r i za za za kU
              obtain⟨XS,kh⟩:∃ X,X=rowsOf t (fun s=>ja ⟨G s,0,Z⟩) (fun _=>k) U:=⟨_,rfl⟩
              have o7:=am (kh.symm)
              obtain⟨YS,KV⟩:∃ Y,Y=rowsOf t (fun s=>A (R s)) (fun _=>m) (fun s=>C (R s)):=⟨_,rfl⟩
              have N5:=am (KV.symm)
              have dq:=B6.out i kU
              rw [QG] at dq
              clear hz ht QG kG hp kh KV
              go_wp2_with (first
                | (go_at_call 213;refine HR.mono ?_;rintro e w1 ⟨g, u, rfl, hg, ho, QH⟩
                   have S1:=am (Stay.of_below QH)
                   have kp:=am (HP.out.stay S1.out)
                   have qi:O (Own w1 g k u (gen k (R t))):=(by rw [Ii.out];exact ho)
                   have jZ:=am (ag d8.out QH qA)
                   have ye:O (w1.ownsRow w.heap.size 36 1 (J a1 t c1) t XS):=(by rw [<- o7.out];exact kp.out.rows)
                   have zR:O (w1.ownsRow w.heap.size 36 1 (J a2 t c2) t YS):=(by rw [<- N5.out];exact kp.out.cells)
                   have xW:w.heap.size<=w1.heap.size:=jZ.out.size
                   clear hg ho QH)
                | (at_builtin;refine wpList_append_lies _ zg (jp 64) (jp 66) 33 zg w.heap.size 36 j0 (J Z 0 0) 1 24 Tryz.underlying33 hj kE kB kt zg zb (J a1 t c1) t XS zg (ye.out.alloc _) ⟨w1.heap.size, 0, Z⟩ 1 1 [J (ja ⟨g, 0, Z⟩) k u] zg zg (World.news_of_block (heap_alloc_new w1 _)) (by simp [Value.oneCell']) zb (by unfold maxLen;omega) za zj (w1.heap.size + 1) zi ?_;intro g2 jK w2 jF jH GN _
                   have I9:=am jH
                   have KQ:=am jF
                   have NU:=am GN
                   have jv:O (b7 w w2):=(jZ.out.alloc xW _).grown jH zj (fun q hq=>(ye.out.lt q hq).1)
                   have d2:w2.cell? ⟨bl,ol+i,Z⟩=ja (J (A i) m (C i)):=held dq jv.out
                   have MQ:O (w2.ownsRow w.heap.size 36 1 (J a2 t c2) t YS):=(zR.out.alloc _).kept jH (nH kp.out.apart)
                   have hs2:w.heap.size<=w2.heap.size:=jv.out.size
                   clear jF jH GN)
                | (at_builtin;refine wpList_append_lies _ zg (jp 68) (jp 73) 33 zg w.heap.size 36 j0 (J Z 0 0) 1 24 Tryz.underlying33 hj kE kB kt zg zb (J a2 t c2) t YS zg (MQ.out.alloc _) ⟨w2.heap.size,0,Z⟩ 1 1 [J (A i) m (C i)] zg zg (World.news_of_block (heap_alloc_new w2 _)) (by simp [Value.oneCell']) zb (by unfold maxLen;omega) za zj (w2.heap.size+1) zi ?_;intro g3 m7 w3 ka jC MR _))
              have ES:O (∃ G U,Picked w3 w.heap.size k m (t+1) (J (ja ⟨g2,0,Z⟩) (t+1) jK) (J (ja ⟨g3,0,Z⟩) (t+1) m7) G U A C R) :=
                ⟨_,_,kp.out.step qi.out I9.out (by rw [o7.out];exact KQ.out) NU.out jC (by rw [N5.out,Ii.out];exact ka) MR⟩
              have m9:O (b7 w w3):=(jv.out.alloc hs2 _).grown jC zj (fun q hq=>(MQ.out.lt q hq).1)
              clear ka jC MR
              go_roundw
              case rel=>exact⟨i+1,za,by go_num,by rw [yQ.out];omega,⟨_,_,by rw [yQ.out]⟩,⟨_,_,by rw [yQ.out]⟩,by rw [yQ.out];exact ES,m9⟩
              case measure=>simp [intOf];omega
          · have KU:t=k:=by
              by_cases e:i<k+r
              · have:¬ t<k:=fun g=>hgo ⟨e,g⟩
                omega
              · obtain rfl:i=k+r:=za
                have:=Hd.out
                omega
            subst KU
            obtain⟨G,U,hp⟩:=kG.out
            have HI:=ni wr a1 t c1 _ _ _ _ hp.lst1
            rw [oM za za (iF za (show t+r<=16 by omega) (fun s hs=>kQ.out.lt s za) (fun s s' h1 h2=>kQ.out.rise s s' h1 za))] at HI
            have HF:O (Lst wr a2 t (fun s=>A (R s)) (fun s=>C (R s)) (fun _=>m) (fun s=>H (R s))):=hp.lst2 fun s hs=>by
              have EV:=kQ.out.lt s za
              have:=(HL.out.rd (R s) EV).below d8.out
              rcases KX.out (R s) EV with e | e
              · exact absurd e (kQ.out.there s za)
              · rwa [e] at this
            have Mg:=am HI
            have HB:=am (d8.out)
            obtain⟨wm,rfl⟩:∃ x,x=wr:=⟨wr,rfl⟩
            have YB:¬ ((t:Int)<(t:Int)):=za;have MS:i<t+r\/¬ i<t+r:=za;clear kG hp HI hgo ht MP d8
            rcases MS with hi2 | hi2
            all_goals
              go_wp2_with fail
              refine Mg.out.mono ?_
              intro e wi hh
              obtain⟨lb,cb,Gb,Ub,rfl,Jz,GC⟩:=mA hh za
              have JR:=am Jz
              have zu:=am (HF.out.below GC)
              have K4:=am (ag HB.out GC HB.out.size)
              clear hh Jz GC Mg
              go_wp2_with fail
              go_loopw [17,18] (fun v x wr=>∃ i:Nat,i<=t/\x=I W i/\(∃ ao b8,v=J ao i b8)/\O (∃ T U,Copied wr wi.heap.size i v T (fun _=>m) U (dec t R H))/\O (b7 wi wr)) (fun _ x _=>t-(intOf x).toNat)
              case atStart=>exact⟨0,jb _,rfl,⟨Z,0,rfl⟩,⟨fun _=>Z,fun _=>0,Copied.start _ _ _ _ _ _⟩,jg _ _⟩
              case round =>
                obtain⟨i,Jm,rfl,⟨ao,b8,rfl⟩,jY,d8⟩:=hrel
                by_cases hlt:i<t
                · obtain⟨T,U',o9⟩:=jY.out
                  have EC:=am o9
                  have jB:=d8.out.size
                  obtain⟨XS,kh⟩:∃ X,X=rowsOf i T (fun _=>m) U':=⟨_,rfl⟩
                  have o7:=am (kh.symm)
                  have i1:(0:Int)<=(i:Int):=za;have i3:(i:Int)<(t:Int):=za;have d2:=held (JR.out.cell_l hlt) d8.out
                  have HS:=vw wr (ja ⟨Gb i,0,Z⟩) a2 t (Ub i) c2 m (bX t (bN t R) i) _ _ _ _ za za m1 m2 ((JR.out.row i hlt).below d8.out).rd (zu.out.below d8.out) (fun _ _=>rfl)
                  have zA:=am HS
                  clear jY o9 kh HS
                  go_wp2_with (first
                    | (go_at_call 215;refine zA.out.mono ?_;rintro e w2 ⟨g2, rfl, kx, kS, jP⟩
                       have kH:=am kS
                       have jv:=am jP
                       have zQ:=am (EC.out.stay (Stay.of_below jP))
                       have ye:O (w2.ownsRow wi.heap.size 36 1 (J ao i b8) i XS):=(by rw [<- o7.out];exact zQ.out.out)
                       have hs2:wi.heap.size<=w2.heap.size:=Nat.le_trans jB jP.size
                       clear kS jP zA)
                    | (at_builtin;refine wpList_append_lies _ zg (jp 94) (jp 96) 33 zg wi.heap.size 36 j0 (J Z 0 0) 1 24 Tryz.underlying33 hj kE kB kt zg zb (J ao i b8) i XS zg (ye.out.alloc _) ⟨w2.heap.size,0,Z⟩ 1 1 [J (ja ⟨g2,0,Z⟩) m m] zg zg (World.news_of_block (heap_alloc_new w2 _)) (by simp [Value.oneCell']) zb (by unfold maxLen;omega) za zj (w2.heap.size+1) zi ?_;intro g3 m7 w3 ka jC _ _))
                  have yg:O (∃ T U,Copied w3 wi.heap.size (i+1) (J (ja ⟨g3,0,Z⟩) (i+1) m7) T (fun _=>m) U (dec t R H)):=by
                    have hp:=zQ.out.push (cy (ep kH.out) za) (fun x a b hx ea eb=>by
                      have:=EC.out.old hx ea
                      cases eb
                      show a.block ≠ g2
                      omega) jC (by rw [o7.out];exact ka)
                    exact⟨_,_,hp.congr (fun _ _=>rfl) (fun x _=>bG i x (fun _=>m)) (fun _ _=>rfl) (fun x _=>bG i x (dec t R H))⟩
                  have m9:O (b7 wi w3):=((ag d8.out jv.out jB).alloc hs2 _).grown jC zj (fun q hq=>(ye.out.lt q hq).1)
                  clear ka jC
                  go_roundw
                  case rel=>exact⟨i+1,za,by go_num,⟨_,_,rfl⟩,yg,m9⟩
                  case measure=>simp [intOf];omega
                · obtain rfl:i=t:=za
                  obtain⟨T,U',o9⟩:=jY.out
                  have J8:=lY wr i r 0 (i+r) m ao b8 T U' (fun _=>m) (dec i R H) za za za m1 m2 za o9.lst (fun _ _=>rfl)
                  rw [show ((0:Nat):Int)=0 from rfl,Int.zero_add,Int.natCast_add] at J8
                  have zN:=am J8
                  have yD:=am (ag K4.out d8.out K4.out.size)
                  clear jY o9 J8
                  go_wp2_with (go_at_call 216;refine zN.out.mono ?_;rintro e w9 ⟨WW,QI,T9,U9,rfl,WX,b9⟩)
                  go_ret2
                  rw [kN.out]
                  exact⟨WW,QI,T9,U9,rfl,(WX.congr (fun _ _=>rfl) (fun _ _=>rfl) (fun _ _=>rfl) (fun x _=>by rw [Nat.zero_add])).base yD.out.size,ag yD.out b9 yD.out.size⟩
end Go.Proofs.YtemlojjkokooeaaGreat.Cod
