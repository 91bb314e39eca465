import Derived.Laws.BitsAllLaws
import Derived.WalkMore
import Derived.Lib.BufferWrite
import Derived.Test.YtemlojjkokooeaaGreatTj3
set_option maxHeartbeats 4000000
set_option maxRecDepth 100000
namespace Go.Proofs.YtemlojjkokooeaaGreat
open Go.RowKit
structure Only (X:Nat->Prop) (w w':World):Prop where
  os:w'.os=w.os
  tape:w'.tape=w.tape
  output:w'.output=w.output
  size:w.heap.size<=w'.heap.size
  block:∀ b,b<w.heap.size->¬ X b->w'.heap[b]? = w.heap[b]?
theorem Only.refl(X:Nat->Prop)(w:World):Only X w w:=⟨rfl,rfl,rfl,Nat.le_refl _,fun _ _ _=>rfl⟩
theorem Only.trans{X:Nat->Prop}{a b c:World}(h:Only X a b)(k:Only X b c):Only X a c :=
 ⟨k.os.trans h.os,k.tape.trans h.tape,k.output.trans h.output,Nat.le_trans h.size k.size,fun i hi hx=>(k.block i (Nat.lt_of_lt_of_le hi h.size) hx).trans (h.block i hi hx)⟩
theorem Only.of_below{X:Nat->Prop}{a b:World}(h:Below a.heap.size a b):Only X a b:=⟨h.os,h.tape,h.output,h.size,fun i hi _=>h.block i hi⟩
theorem Only.below{X:Nat->Prop}{B:Nat}{a b:World}(h:Only X a b)(k:∀ i,X i->B<=i)(hB:B<=a.heap.size):Below B a b:=⟨h.os,h.tape,h.output,h.size,fun i hi=>h.block i (by omega) fun hx=>by have:=k i hx; omega⟩
theorem Only.setCell{X:Nat->Prop}{a b:World}(h:Only X a b){p:Addr}(hp:X p.block)(v:Value):Only X a (b.setCell p v) :=
 h.trans ⟨rfl,rfl,rfl,by simp [World.setCell],fun i _ hx=>Below.heap_setCell _ _ _ _ (fun e=>hx (e ▸ hp))⟩
theorem Only.alloc{X:Nat->Prop}{a b:World}(h:Only X a b)(o:Obj):Only X a (b.alloc o):=h.trans (.of_below (bal _ _))
theorem Only.drew{X:Nat->Prop}{a b:World}(h:Only X a b):Only X a b.drew:=h.trans (.of_below (bdw _ _))
theorem Only.then{X:Nat->Prop}{a b c:World}(h:Only X a b)(k:Below b.heap.size b c):Only X a c:=h.trans (.of_below k)
theorem Only.cell{X:Nat->Prop}{a b:World}(h:Only X a b){p:Addr}{v:Value}(hc:a.cell? p=some v)(hp:¬ X p.block):b.cell? p=some v :=
 (World.cell?_of_block (h.block p.block (World.block_lt_of_cell? a _ hc) hp)).trans hc
theorem Only.step{X Y:Nat->Prop}{a b c:World}(h:Only X a b)(k:Only Y b c)(hx:∀ i,i<a.heap.size->Y i->X i):Only X a c :=
 ⟨k.os.trans h.os,k.tape.trans h.tape,k.output.trans h.output,Nat.le_trans h.size k.size,fun i hi hn=>(k.block i (Nat.lt_of_lt_of_le hi h.size) fun hy=>hn (hx i hi hy)).trans (h.block i hi hn)⟩
def tk (G:Nat->UInt8) (o k m t:Nat):Nat->UInt8:=fun j=>if o+(k-t)<=j/\j<o+k then dg m (o+k-1-j) else G j
theorem tk_zero(G:Nat->UInt8)(o k m:Nat):tk G o k m 0=G:=by
 funext j; unfold tk; rw [if_neg (by omega)]
theorem tk_succ(G:Nat->UInt8){o k m t:Nat}(ht:t<k):put (o+(k-1-t)) (dg m t) (tk G o k m t)=tk G o k m (t+1):=by
 funext j
 unfold put tk;by_cases e:j=o+(k-1-t)
 ·rw [if_pos e,if_pos (by omega),show o+k-1-j=t by omega]
 ·rw [if_neg e];by_cases h:o+(k-t)<=j/\j<o+k
  ·rw [if_pos h,if_pos (by omega)]
  ·rw [if_neg h,if_neg (by omega)]
theorem tk_all(G:Nat->UInt8)(o k m:Nat):tk G o k m k=upR G o k (fun i=>dg m (k-1-i)):=by
 funext j
 unfold tk upR;by_cases h:o<=j/\j<o+k
 ·rw [if_pos (by omega),if_pos h,show o+k-1-j=k-1-(j-o) by omega]
 ·rw [if_neg (by omega),if_neg h]
theorem pow_step(m t:Nat):m / 256 ^ t / 256=m / 256 ^ (t+1):=by rw [Nat.div_div_eq_div_mul,Nat.pow_succ]
theorem takeApart_any(w:World)(g n o k cp m:Nat)(G:Nat->UInt8)(hg:Bk w g n G)(hk:o+k<=n)(h0:0<k)(hn:n<=1000):
  Calls Tryz.prog 298 #[.slice (some ⟨g,o,none⟩) k cp,.int .i64 (m:Int)] w fun e w'=>e=.returned (.tuple #[])/\Bk w' g n (upR G o k (fun i=>dg m (k-1-i)))/\Only (fun b=>b=g) w w':=by
 have HT:Hid (∀ t,t<k->put (o+(k-1-t)) (dg m t) (tk G o k m t)=tk G o k m (t+1)):=fun t ht=>tk_succ G ht;have HD:Hid (∀ t,(m / 256 ^ t / 256=m / 256 ^ (t+1))/\(m / 256 ^ t<=m)):=fun t=>⟨pow_step m t,Nat.div_le_self _ _⟩
 have HV:Hid (∀ t,(((dg m t).toNat:Nat):Int)=((m / 256 ^ t:Nat):Int) % 256):=fun t=>by rw [dg_toNat]; omega
 have HG:Hid (Bk w g n (tk G o k m 0)):=by show Bk _ _ _ _; rw [tk_zero]; exact hg
 have HA:Hid (tk G o k m k=upR G o k (fun i=>dg m (k-1-i))):=tk_all G o k m;have HM:Hid (m / 256 ^ 0=m):=by show _=_; rw [Nat.pow_zero,Nat.div_one]
 clear hg;go_enter Tryz.func298,Tryz.ntmps298
 go_wp2;go_loopw [1,4] (fun y x wr=>∃ t:Nat,t<=k/\(∃ z:Int,y=.int .i64 z/\Hid (z=((m / 256 ^ t:Nat):Int)))/\(∃ i:Int,x=.int .i64 i/\i=(k:Int)-1-(t:Int))/\Hid (Bk wr g n (tk G o k m t))/\Hid (Only (fun b=>b=g) w wr)) (fun _ x _=>(intOf x+1).toNat)
 case atStart=>exact⟨0,Nat.zero_le _,⟨_,rfl,by show _=_; rw [HM.out]⟩,⟨_,rfl,by go_num⟩,HG,Only.refl _ _⟩
 case round =>
  obtain⟨t,ht,⟨z,rfl,hz⟩,⟨i,rfl,hi⟩,hB,hW⟩:=hrel;by_cases hlt:t<k
  ·have e1:=HT.out t hlt;have e2:=HD.out t;have e3:=HV.out t;obtain⟨mt,hmt⟩:∃ mt:Nat,m / 256 ^ t=mt:=⟨_,rfl⟩
   rw [hmt] at e2 e3;have hz':z=(mt:Int):=by rw [hz.out,hmt]
   clear hz;subst hz';have ck:=hB.out.cell (i:=o+(k-1-t)) (by omega);have fk:=hB.out.free (o+(k-1-t));have hst:=hB.out.set (o+(k-1-t)) (dg m t);rw [e1,e3] at hst;have HST:Hid (Bk (wr.setCell ⟨g,o+(k-1-t),none⟩ (.int .u8 ((mt:Int) % 256))) g n (tk G o k m (t+1))):=hst;obtain⟨it,hit⟩:∃ it:Nat,it=k-1-t:=⟨_,rfl⟩
   have hi':i=(it:Int):=by omega
   rw [<- hit] at ck fk HST;have HZ:Hid (((mt / 256:Nat):Int)=((m / 256 ^ (t+1):Nat):Int)):=by show _=_; rw [e2.1]
   have hmt2:=e2.2;subst hi';clear hst e1 e2 e3 hmt;have i1:(0:Int)<=(it:Int):=by omega
   have i2:(it:Int)<(k:Int):=by omega
   have i3:it<k:=by omega
   have HIT:Hid (it=k-1-t):=hit;clear hit hi;go_wp2;go_roundw
   case rel=>exact⟨t+1,by omega,⟨_,rfl,by show _=_; rw [<- HZ.out]; omega⟩,⟨_,rfl,by have:=HIT.out; omega⟩,HST,hW.out.setCell rfl _⟩
   case measure=>simp [intOf]
  ·go_wp2;refine bodyPost_end (results_none rfl _ _ _) rfl ⟨rfl,?_,hW.out⟩;obtain rfl:t=k:=by omega
   rw [<- HA.out]; exact hB.out
theorem i64_or_nat(a b:Nat)(ha:a<4611686018427387904)(hb:b<4611686018427387904):bits .or .i64 (a:Int) (b:Int)=((a ||| b:Nat):Int):=by
 have hx:a ||| b<2 ^ 62:=Nat.or_lt_two_pow (by omega) (by omega)
 show IntKind.i64.wrap ((BitVec.ofInt 64 (a:Int) ||| BitVec.ofInt 64 (b:Int)).toNat:Int)=_;rw [BitVec.toNat_or,ofInt_u64 a (by omega),ofInt_u64 b (by omega)];rw [IntKind.wrap_i64];omega
theorem or_mul(a b:Nat)(h:a<256):(b*256) ||| a=b*256+a:=by
 rw [show b*256=b <<< 8 from by rw [Nat.shiftLeft_eq],<- Nat.shiftLeft_add_eq_or_of_lt (i:=8) (by omega)]
theorem putTogether_any(w:World)(g o k cp:Nat)(F:Nat->UInt8)(hr:∀ j,j<k->w.cell? ⟨g,o+j,none⟩=some (.int .u8 (((F j).toNat:Nat):Int)))(hk:k<=4):
  Calls Tryz.prog 277 #[.slice (some ⟨g,o,none⟩) k cp] w fun e w'=>e=.returned (.int .i64 ((nm F 0 k:Nat):Int))/\w'=w:=by
 have HR:Hid (∀ j,j<k->w.cell? ⟨g,o+j,none⟩=some (.int .u8 (((F j).toNat:Nat):Int))):=hr;have HB:Hid (∀ j,j<=k->nm F 0 j<4294967296):=fun j hj=>Nat.lt_of_lt_of_le (nm_lt F 0 j) (by
  rcases (show j=0\/j=1\/j=2\/j=3\/j=4 by omega) with rfl | rfl | rfl | rfl | rfl <;> decide)
 have HS:Hid (∀ j,nm F 0 (j+1)=nm F 0 j*256+(F j).toNat):=fun j=>by show _=_; rw [nm,Nat.zero_add]
 have HL:Hid (∀ j,(F j).toNat<256):=fun j=>(F j).toNat_lt;clear hr;go_enter Tryz.func277,Tryz.ntmps277
 go_wp2;go_loop [3,8] (fun y x=>∃ i:Nat,i<=k/\x=.int .i64 (i:Int)/\∃ z:Nat,y=.int .i64 (z:Int)/\Hid (z=nm F 0 i)) (fun _ x=>k-(intOf x).toNat)
 case atStart=>exact⟨0,Nat.zero_le _,rfl,0,rfl,rfl⟩
 case round =>
  obtain⟨i,hi,rfl,z,rfl,hz⟩:=hrel;by_cases hlt:i<k
  ·have ck:=HR.out i hlt;have hb:=HB.out i (by omega);have hs:=HS.out i;have hl:=HL.out i;rw [<- hz.out] at hb hs;obtain⟨u,hu⟩:∃ u:Nat,(F i).toNat=u:=⟨_,rfl⟩
   rw [hu] at ck hs hl;have HN:Hid (nm F 0 (i+1)=z*256+u):=hs;have hor:bits .or .i64 ((z:Int)*256) (u:Int)=((z*256+u:Nat):Int):=by
    rw [show (z:Int)*256=((z*256:Nat):Int) by omega,i64_or_nat _ _ (by omega) (by omega),or_mul _ _ hl]
   have i1:(0:Int)<=(i:Int):=by omega
   have i2:(i:Int)<(k:Int):=by omega
   clear hs hu hz;go_wp2;go_round
   case rel=>exact⟨i+1,by omega,by go_num,z*256+u,by go_num,HN.out.symm⟩
   case measure=>simp [intOf]; omega
  ·obtain rfl:i=k:=by omega
   go_wp2;go_ret;exact⟨ret_int (by rw [hz.out]),rfl⟩
def prt (g o v d:Nat):Array Value:=#[.slice (some ⟨g,o,none⟩) 2 2,.slice (some ⟨g,o+2,none⟩) 1 1,.slice (some ⟨g,o+3,none⟩) 1 1,.slice (some ⟨g,o+4,none⟩) 4 4,.slice (some ⟨g,o+8,none⟩) 4 4,.slice (some ⟨g,o+12,none⟩) v v,.slice (some ⟨g,o+12+v,none⟩) d d]
theorem version_any(w:World)(g o N d i:Nat)(hi:i<N)(hN:N<=16):
  Calls Tryz.prog 278 #[.agg (prt g o (4*N) d),.int .i64 (i:Int)] w fun e w'=>e=.returned (.slice (some ⟨g,o+12+4*i,none⟩) 4 4)/\Below w.heap.size w w':=by
 unfold prt;have h1:(4*(i:Int))<((4*N:Nat):Int):=by omega
 have h2:(i:Int)*4+4<=((4*N:Nat):Int):=by omega
 go_enter Tryz.func278,Tryz.ntmps278
 go_wp2;go_ret;exact⟨by rw [show (i+1)*4-i*4=4 by omega,show i*4=4*i by omega]; rfl,bal _ _⟩
theorem cut_any(w:World)(k r c q:Int)(g o n cp N:Nat)(hn:n=12+4*N+c.toNat)(hcp:n<=cp)(hN:1<=N)(hN2:N<=16)(hc:8<=c)(hc2:c<=64):
  Calls Tryz.prog 202 #[.agg #[.int .i64 k,.int .i64 r,.int .i64 c,.int .i64 q],.slice (some ⟨g,o,none⟩) n cp] w fun e w'=>e=.returned (.agg (prt g o (4*N) c.toNat))/\Below w.heap.size w w':=by
 obtain⟨d,rfl⟩:∃ d:Nat,c=(d:Int):=⟨c.toNat,by omega⟩
 rw [Int.toNat_natCast] at *;unfold prt;obtain⟨m,hm⟩:∃ m,m=12+4*N:=⟨_,rfl⟩
 have hv:4*N=m-12:=by omega
 have h1:((n:Int)-(d:Int))=(m:Int):=by omega
 rw [hv];have m1:16<=m:=by omega
 have m2:m<=76:=by omega
 have m3:n=m+d:=by omega
 clear hm hv hn hN hN2;subst m3;obtain⟨w0,hw0⟩:∃ w0,w0=w.alloc (.cells #[.int .i64 k,.int .i64 r,.int .i64 (d:Int),.int .i64 q] 23):=⟨_,rfl⟩
 obtain⟨w1,hw1⟩:∃ w1,w1=w0.alloc (.cells #[.slice none 0 0,.slice none 0 0,.slice none 0 0,.slice none 0 0,.slice none 0 0,.slice none 0 0,.slice none 0 0] 247):=⟨_,rfl⟩
 have b0:Below w.heap.size w w0:=by rw [hw0]; exact bal _ _
 have b1:Below w0.heap.size w0 w1:=by rw [hw1]; exact bal _ _
 have z0:w0.heap.size=w.heap.size+1:=by rw [hw0]; simp
 have x0:=blk_held hw1 (Below.refl _ _) 0 rfl;have x1:=blk_held hw1 (Below.refl _ _) 1 rfl;have x2:=blk_held hw1 (Below.refl _ _) 2 rfl;have x3:=blk_held hw1 (Below.refl _ _) 3 rfl;have x4:=blk_held hw1 (Below.refl _ _) 4 rfl;have x5:=blk_held hw1 (Below.refl _ _) 5 rfl;have x6:=blk_held hw1 (Below.refl _ _) 6 rfl;have xf:=blk_free hw1 (Below.refl _ _);rw [z0] at x0 x1 x2 x3 x4 x5 x6 xf;have HBB:Hid (Below w.heap.size w w1):=bth b0 b1;have n1:¬ m=12:=by omega
 have n2:((m:Int)+(d:Int)).toNat=m+d:=by omega
 have n3:¬ m+d=m:=by omega
 have n4:m+d-m=d:=by omega
 go_enter Tryz.func202,Tryz.ntmps202
 go_wp2_with fail
 rw [<- hw0,<- hw1];clear hw0 hw1 z0 b0 b1;have c2:(2:Int)<=(cp:Int):=by omega
 have c3:(3:Int)<=(cp:Int):=by omega
 have c4:(4:Int)<=(cp:Int):=by omega
 have c8:(8:Int)<=(cp:Int):=by omega
 have c12:(12:Int)<=(cp:Int):=by omega
 have cm:(m:Int)<=(cp:Int):=by omega
 have cd:(m:Int)+(d:Int)<=(cp:Int):=by omega
 have c5:(12:Int)<=(m:Int):=by omega
 have c6:(0:Int)<=(m:Int):=by omega
 have c7:(0:Int)<=(m:Int)+(d:Int):=by omega
 have c9:(m:Int)<=(m:Int)+(d:Int):=by omega
 refine wp_region_still_tail 22 (by kernel_rfl) (by kernel_rfl) ?_;simp only [List.take_succ_cons,List.take_zero,List.drop_succ_cons,List.drop_zero]
 repeat (refine wpStill_step (fun K hK=>?_); go_simp; (try simp only [c2,c3,c4,c8,c12,cm,cd,c5,c6,c7,c9,and_self,if_true]); refine hK _ ?_; clear hK K)
 refine wpStill_nil ?_;go_wp2;refine bodyPost_ret (v:=.agg #[.slice (some ⟨g,o,none⟩) 2 2,.slice (some ⟨g,o+2,none⟩) 1 1,.slice (some ⟨g,o+3,none⟩) 1 1,.slice (some ⟨g,o+4,none⟩) 4 4,.slice (some ⟨g,o+8,none⟩) 4 4,.slice (some ⟨g,o+12,none⟩) (m-12) (m-12),.slice (some ⟨g,o+m,none⟩) d d]) (by simp [results,Tryz.results202,go_sem,x0,x1,x2,x3,x4,x5,x6]) rfl ⟨?_,?_⟩
 ·rw [show o+12+(m-12)=o+m by omega]
 ·exact below_step (((((((HBB.out.setCell (Nat.le_succ _) _).setCell (Nat.le_succ _) _).setCell (Nat.le_succ _) _).setCell (Nat.le_succ _) _).setCell (Nat.le_succ _) _).setCell (Nat.le_succ _) _).setCell (Nat.le_succ _) _) (bdw _ _) (by simp [World.setCell]; exact HBB.out.size)
theorem byF_splice{n o k:Nat}(G H:Nat->UInt8)(h:o+k<=n):(byF n G).take o ++ (byF k H ++ (byF n G).drop (o+k))=byF n (upR G o k H):=by
 have e1:((byF n G).take o).length=o:=by rw [List.length_take,byF_length]; omega
 apply List.ext_getElem?
 intro j;by_cases h1:j<o
 ·rw [List.getElem?_append_left (by omega),List.getElem?_take_of_lt h1,byF_get _ _ _ (by omega),byF_get _ _ _ (by omega),upR_out (by omega)]
 ·rw [List.getElem?_append_right (by omega),e1];by_cases h2:j<o+k
  ·rw [List.getElem?_append_left (by rw [byF_length]; omega),byF_get _ _ _ (by omega),byF_get _ _ _ (by omega),upR_in (by omega)]
  ·rw [List.getElem?_append_right (by rw [byF_length]; omega),byF_length,List.getElem?_drop,show o+k+(j-o-k)=j by omega];by_cases h3:j<n
   ·rw [byF_get _ _ _ h3,byF_get _ _ _ h3,upR_out (by omega)]
   ·rw [List.getElem?_eq_none (by rw [byF_length]; omega),List.getElem?_eq_none (by rw [byF_length]; omega)]
theorem only_setRow(w:World)(g:Nat)(cs:Array Value):Only (fun b=>b=g) w (w.setRow g cs):=⟨rfl,rfl,rfl,by simp [World.setRow],fun k _ hk=>setRow_other w g k cs hk⟩
theorem run_copy_bk{w:World}{g n off k dC:Nat}{G H:Nat->UInt8}{bo:Option Addr}{cb:Nat}(h0:0<k)(hg:Bk w g n G)(hb:Bec w bo k cb H)(hfit:off+k<=n):
  ∃ w',(Builtin.copy_ #[36,36] 3 #[.slice (some ⟨g,off,none⟩) k dC,.slice bo k cb]).run Tryz.prog w=.ok (goInt k) w'/\Bk w' g n (upR G off k H)/\Only (fun b=>b=g) w w':=by
 obtain⟨b,bof,rfl,hc⟩:=hb.rd h0;have hl:(byF k H).length=Nat.min k k:=by rw [byF_length]; exact(Nat.min_self k).symm
 have hrun:=run_copy_row (P:=Tryz.prog) w 36 36 3 5 g off k dC ⟨b,bof,none⟩ k cb (byF n G).toArray 5 (byF k H) Tryz.underlying36 (by kernel_rfl) hg hl (bec_news hb) (by simp [byF_length]; exact hfit) (byF_one k H);rw [byF_length] at hrun;refine⟨_,hrun,?_,only_setRow _ _ _⟩;unfold Bk;rw [<- byF_splice G H hfit];have:=setRow_heap w g _ ((byF n G).take off ++ (byF k H ++ (byF n G).drop (off+k))).toArray 5 _ hg
 simpa using this
def mkF (i:Nat):UInt8:=if i=0 then 84 else 50
theorem run_copy_mark{w:World}{g n:Nat}{G:Nat->UInt8}(hg:Bk w g n G)(hfit:2<=n):
  ∃ w',(Builtin.copy_ #[36,9] 3 #[.slice (some ⟨g,0,none⟩) 2 2,.string ⟨#[84,50]⟩]).run Tryz.prog w=.ok (goInt 2) w'/\Bk w' g n (upR G 0 2 mkF)/\Only (fun b=>b=g) w w':=by
 have hrun:=Lib.run_copy_row_string (P:=Tryz.prog) w 36 9 3 5 g 0 2 2 ⟨#[84,50]⟩ (byF n G).toArray 5 Tryz.underlying36 (by kernel_rfl) hg (Nat.le_refl _) (by simp [byF_length]; exact hfit);refine⟨_,hrun,?_,only_setRow _ _ _⟩;unfold Bk;rw [<- byF_splice G mkF (show 0+2<=n by omega)];exact setRow_heap w g _ _ 5 _ hg
def Cel (w:World) (b:Nat) (cs:List Value):Prop:=∀ i v,cs[i]? = some v->w.cell? ⟨b,i,none⟩=some v
theorem Cel.only{X:Nat->Prop}{w w':World}{b:Nat}{cs:List Value}(h:Cel w b cs)(ho:Only X w w')(hx:¬ X b):Cel w' b cs:=fun i v hv=>ho.cell (h i v hv) hx
theorem Cel.below{w w':World}{b:Nat}{cs:List Value}(h:Cel w b cs)(ho:Below w.heap.size w w'):Cel w' b cs:=fun i v hv=>held (h i v hv) ho
theorem cel_new{w w0:World}{cs:Array Value}{t:TypeId}(h0:w0=w.alloc (.cells cs t)):Cel w0 w.heap.size cs.toList:=fun i _ hv=>blk_held h0 (Below.refl _ _) i (by simpa using hv)
theorem Vec.only{X:Nat->Prop}{w w':World}{ao:Option Addr}{n cap:Nat}{R:Nat->Int}(h:Vec w ao n cap R)(ho:Only X w w')(hx:∀ a,ao=some a->¬ X a.block):Vec w' ao n cap R :=
 ⟨fun hn=>by obtain⟨b,off,rfl,hc⟩:=h.rd hn; exact⟨b,off,rfl,fun i hi=>ho.cell (hc i hi) (hx ⟨b,off,none⟩ rfl)⟩,h.nil,h.room⟩
theorem Bec.only{X:Nat->Prop}{w w':World}{ao:Option Addr}{n cap:Nat}{F:Nat->UInt8}(h:Bec w ao n cap F)(ho:Only X w w')(hx:∀ a,ao=some a->¬ X a.block):Bec w' ao n cap F :=
 ⟨fun hn=>by obtain⟨b,off,rfl,hc⟩:=h.rd hn; exact⟨b,off,rfl,fun i hi=>ho.cell (hc i hi) (hx ⟨b,off,none⟩ rfl)⟩,h.nil,h.room⟩
def wrF (s:Sl) (i:Nat) (G:Nat->UInt8):Nat->UInt8:=fun j=>if j<12+4*i then enc s j else G j
theorem wrF_succ{s:Sl}{i:Nat}(hi:i<s.vn)(G:Nat->UInt8):upR (wrF s i G) (12+4*i) 4 (fun t=>dg (s.V i).toNat (4-1-t))=wrF s (i+1) G:=by
 funext j
 by_cases h:12+4*i<=j/\j<12+4*i+4
 ·rw [upR_in h];unfold wrF;rw [if_pos (by omega),show j=12+4*i+(j-(12+4*i)) by omega,enc_v hi (by omega),show 12+4*i+(j-(12+4*i))-(12+4*i)=j-(12+4*i) by omega]
 ·rw [upR_out h];unfold wrF;by_cases h2:j<12+4*i
  ·rw [if_pos h2,if_pos (by omega)]
  ·rw [if_neg h2,if_neg (by omega)]
theorem wrF_all{s:Sl}{n j:Nat}(G:Nat->UInt8)(hn:n=12+4*s.vn+s.dn)(hj:j<n):upR (wrF s s.vn G) (12+4*s.vn) s.dn s.D j=enc s j:=by
 by_cases h:12+4*s.vn<=j/\j<12+4*s.vn+s.dn
 ·rw [upR_in h];have:=enc_d s (j-(12+4*s.vn));rw [show 12+4*s.vn+(j-(12+4*s.vn))=j by omega] at this;exact this.symm
 ·rw [upR_out h]; unfold wrF; rw [if_pos (by omega)]
theorem wrF_head{s:Sl}(G:Nat->UInt8)(j:Nat):
  upR (upR (upR (upR (upR G 0 2 mkF) 2 1 (fun i=>dg s.kd.toNat (1-1-i))) 3 1 (fun i=>dg s.ix.toNat (1-1-i))) 4 4 (fun i=>dg s.ce.toNat (4-1-i))) 8 4 (fun i=>dg s.st.toNat (4-1-i)) j=wrF s 0 G j:=by
 unfold wrF;by_cases h5:8<=j/\j<8+4
 ·rw [upR_in h5,if_pos (by omega)];have:=enc_s s (i:=j-8) (by omega);rw [show 8+(j-8)=j by omega] at this;rw [this]
 rw [upR_out h5];by_cases h4:4<=j/\j<4+4
 ·rw [upR_in h4,if_pos (by omega)];have:=enc_c s (i:=j-4) (by omega);rw [show 4+(j-4)=j by omega] at this;rw [this]
 rw [upR_out h4];by_cases h3:3<=j/\j<3+1
 ·rw [upR_in h3,if_pos (by omega)];obtain rfl:j=3:=by omega
  rfl
 rw [upR_out h3];by_cases h2:2<=j/\j<2+1
 ·rw [upR_in h2,if_pos (by omega)];obtain rfl:j=2:=by omega
  show dg s.kd.toNat 0=s.kd;apply UInt8.toNat_inj.1
  have:=s.kd.toNat_lt;rw [dg_toNat];simp
 rw [upR_out h2];by_cases h1:0<=j/\j<0+2
 ·rw [upR_in h1,if_pos (by omega)];rcases (show j=0\/j=1 by omega) with rfl | rfl <;> rfl
 rw [upR_out h1,if_neg (by omega)]
theorem write_any{N:Nat}{c:Int}(w:World)(g:Nat)(s:Sl)(ao:Option Addr)(ca:Nat)(bo:Option Addr)(cb:Nat)(G:Nat->UInt8)(hN:1<=N)(hN2:N<=16)(hc:8<=c)(hc2:c<=64)(hg:Bk w g (sz N c) G)(hs:Has w s ao ca bo cb)(hok:okS N c s=true)
  (hav:∀ a,ao=some a->¬ a.block=g) (hab:∀ a,bo=some a->¬ a.block=g) :
  Calls Tryz.prog 231 #[.agg (prt g 0 (4*N) c.toNat),slv s ao ca bo cb] w fun e w'=>e=.returned (.tuple #[])/\Bk w' g (sz N c) (enc s)/\Only (fun b=>b=g) w w':=by
 have hnm:=okS_nums hok;obtain⟨⟨k1,k2⟩,k3,k4,k5,k6,k7,k8⟩:=okS_true hok;obtain⟨n,hn⟩:∃ n,n=sz N c:=⟨_,rfl⟩
 rw [<- hn] at hg ⊢;have hn2:n=12+4*N+c.toNat:=hn;have HA:Hid (∀ j,j<n->upR (wrF s s.vn G) (12+4*s.vn) s.dn s.D j=enc s j):=fun j hj=>wrF_all G (by omega) hj;have HS:Hid (∀ i,i<N->upR (wrF s i G) (12+4*i) 4 (fun t=>dg (s.V i).toNat (4-1-t))=wrF s (i+1) G):=fun i hi=>wrF_succ (by omega) G;have HH:Hid (∀ j,upR (upR (upR (upR (upR G 0 2 mkF) 2 1 (fun i=>dg s.kd.toNat (1-1-i))) 3 1 (fun i=>dg s.ix.toNat (1-1-i))) 4 4 (fun i=>dg s.ce.toNat (4-1-i))) 8 4 (fun i=>dg s.st.toNat (4-1-i)) j=wrF s 0 G j):=wrF_head G;have HV:Hid (∀ i,i<N->s.V i=(((s.V i).toNat:Nat):Int)):=fun i hi=>by show _=_; have:=k2 i (by omega); omega
 have HVec:Hid (Vec w ao s.vn ca s.V):=hs.vec;have HBec:Hid (Bec w bo s.dn cb s.D):=hs.bec;have HAV:Hid (∀ a,ao=some a->¬ a.block=g):=hav;have HAB:Hid (∀ a,bo=some a->¬ a.block=g):=hab;obtain⟨d,hd⟩:∃ d,d=c.toNat:=⟨_,rfl⟩
 have hdn:s.dn=d:=by omega
 have hd1:8<=d:=by omega
 have hnb:n<=1000:=by omega
 have hnd:n=12+4*N+d:=by omega
 rw [<- hd];unfold slv;obtain⟨kn,hkn⟩:∃ kn,kn=s.kd.toNat:=⟨_,rfl⟩
 obtain⟨xn,hxn⟩:∃ xn,xn=s.ix.toNat:=⟨_,rfl⟩
 obtain⟨cn,hcn⟩:∃ cn,cn=s.ce.toNat:=⟨_,rfl⟩
 obtain⟨sn,hsn⟩:∃ sn,sn=s.st.toNat:=⟨_,rfl⟩
 have e1:s.ix=(xn:Int):=by omega
 have e2:s.ce=(cn:Int):=by omega
 have e3:s.st=(sn:Int):=by omega
 have hkl:kn<256:=by rw [hkn]; exact s.kd.toNat_lt
 obtain⟨V,hV⟩:∃ V,V=s.V:=⟨_,rfl⟩
 obtain⟨D,hD⟩:∃ D,D=s.D:=⟨_,rfl⟩
 obtain⟨E,hE⟩:∃ E,E=enc s:=⟨_,rfl⟩
 obtain⟨wF,hwF⟩:∃ wF:Nat->Nat->UInt8,wF=fun i=>wrF s i G:=⟨_,rfl⟩
 have HA2:Hid (∀ j,j<n->upR (wF N) (12+4*N) d D j=E j):=fun j hj=>by have:=HA.out j hj; rw [k1,hdn] at this; rw [hwF,hD,hE]; exact this
 have HS2:Hid (∀ i,i<N->upR (wF i) (12+4*i) 4 (fun t=>dg (V i).toNat (4-1-t))=wF (i+1)):=fun i hi=>by have:=HS.out i hi; rw [hwF,hV]; exact this
 have HH2:Hid (∀ j,upR (upR (upR (upR (upR G 0 2 mkF) 2 1 (fun i=>dg kn (1-1-i))) 3 1 (fun i=>dg xn (1-1-i))) 4 4 (fun i=>dg cn (4-1-i))) 8 4 (fun i=>dg sn (4-1-i)) j=wF 0 j):=fun j=>by rw [hkn,hxn,hcn,hsn,hwF]; exact HH.out j
 rw [k1,<- hV] at HVec;rw [hdn,<- hD] at HBec;rw [<- hV] at HV;rw [<- hE,<- hkn,e1,e2,e3,k1,hdn];have HG:Hid (Bk w g n G):=hg;have hgw:=hg.lt;clear HA HS HH hnm k1 k2 k3 k4 k5 k6 k7 k8 hn hn2 hkn hxn hcn hsn e1 e2 e3 hV hD hE hwF hd hdn hs hok hav hab hg hc hc2;obtain⟨w0,hw0⟩:∃ w0,w0=w.alloc (.cells (prt g 0 (4*N) d) 247):=⟨_,rfl⟩
 obtain⟨w1,hw1⟩:∃ w1,w1=w0.alloc (.cells #[.int .u8 (kn:Int),.int .i64 (xn:Int),.int .i64 (cn:Int),.int .i64 (sn:Int),.slice ao N ca,.slice bo d cb] 107):=⟨_,rfl⟩
 have b0:Below w.heap.size w w0:=by rw [hw0]; exact bal _ _
 have b1:Below w0.heap.size w0 w1:=by rw [hw1]; exact bal _ _
 have z0:w0.heap.size=w.heap.size+1:=by rw [hw0]; simp
 have C0:Hid (Cel w1 w.heap.size (prt g 0 (4*N) d).toList):=(cel_new hw0).below b1;have C1:Hid (Cel w1 (w.heap.size+1) [.int .u8 (kn:Int),.int .i64 (xn:Int),.int .i64 (cn:Int),.int .i64 (sn:Int),.slice ao N ca,.slice bo d cb]):=by show Cel _ _ _; rw [<- z0]; exact cel_new hw1
 have HB1:Hid (Below w.heap.size w w1):=bth b0 b1;have HG1:Hid (Bk w1 g n G):=HG.out.below HB1.out;have HVec1:Hid (Vec w1 ao N ca V):=HVec.out.below HB1.out;have HBec1:Hid (Bec w1 bo d cb D):=HBec.out.below HB1.out;have q0:¬ w.heap.size=g:=by omega
 have q1:¬ w.heap.size+1=g:=by omega
 clear b0 b1 z0 HVec HBec HG;unfold prt at C0 hw0 ⊢;rw [show (0:Nat)+2=2 from rfl,show (0:Nat)+3=3 from rfl,show (0:Nat)+4=4 from rfl,show (0:Nat)+8=8 from rfl,show (0:Nat)+12=12 from rfl] at *;go_enter Tryz.func231,Tryz.ntmps231
 obtain⟨wa,hrun,ga,oa⟩:=run_copy_mark HG1.out (by omega);have ya1:=(C0.out.only oa q0) 1 _ rfl;have ua0:=(C1.out.only oa q1) 0 _ rfl;go_wp2_with fail
 rw [<- hw0,<- hw1,hrun];clear hw0 hw1 hrun;go_wp2_with fail
 refine(takeApart_any _ g n 2 1 1 kn _ ga (by omega) (by omega) hnb).mono ?_;rintro e wb ⟨rfl,gb,ob'⟩;have ob:=oa.trans ob';have yb2:=(C0.out.only ob q0) 2 _ rfl;have ub1:=(C1.out.only ob q1) 1 _ rfl;clear ya1 ua0 ob' oa ga;go_wp2_with fail
 refine(takeApart_any _ g n 3 1 1 xn _ gb (by omega) (by omega) hnb).mono ?_;rintro e wc ⟨rfl,gc,oc'⟩;have oc:=ob.trans oc';have yc3:=(C0.out.only oc q0) 3 _ rfl;have uc2:=(C1.out.only oc q1) 2 _ rfl;clear yb2 ub1 oc' ob gb;go_wp2_with fail
 refine(takeApart_any _ g n 4 4 4 cn _ gc (by omega) (by omega) hnb).mono ?_;rintro e wd ⟨rfl,gd,od'⟩;have od:=oc.trans od';have yd4:=(C0.out.only od q0) 4 _ rfl;have ud3:=(C1.out.only od q1) 3 _ rfl;clear yc3 uc2 od' oc gc;go_wp2_with fail
 refine(takeApart_any _ g n 8 4 4 sn _ gd (by omega) (by omega) hnb).mono ?_;rintro e we ⟨rfl,ge,oe'⟩;have HO:Hid (Only (fun b=>b=g) w1 we):=od.trans oe';have HE:Hid (Bk we g n (wF 0)):=ge.congr fun j _=>HH2.out j;have ue4:=(C1.out.only HO.out q1) 4 _ rfl;clear yd4 ud3 oe' od gd ge HH2;go_wp2_with fail
 go_loopw [33] (fun x wr=>∃ i:Nat,i<=N/\x=.int .i64 (i:Int)/\Hid (Bk wr g n (wF i))/\Hid (Only (fun b=>b=g) w1 wr)) (fun x _=>N-(intOf x).toNat)
 case atStart=>exact⟨0,Nat.zero_le _,rfl,HE,HO⟩
 case round =>
  obtain⟨i,hi,rfl,hB,hO⟩:=hrel;by_cases hlt:i<N
  ·obtain⟨b,off,rfl,hcc⟩:=(HVec1.out.only hO.out HAV.out).rd (by omega);have ck:=hcc i hlt;have hvi:=HV.out i hlt;obtain⟨vi,hvn⟩:∃ vi,vi=(V i).toNat:=⟨_,rfl⟩
   rw [<- hvn] at hvi;rw [hvi] at ck;have hs2:=HS2.out i hlt;rw [<- hvn] at hs2;have HS3:Hid (upR (wF i) (12+4*i) 4 (fun t=>dg vi (4-1-t))=wF (i+1)):=hs2;have i1:(0:Int)<=(i:Int):=by omega
   have i2:(i:Int)<(N:Int):=by omega
   have cc:=C0.out.only hO.out q0;have y0:=cc 0 _ rfl;have y1:=cc 1 _ rfl;have y2:=cc 2 _ rfl;have y3:=cc 3 _ rfl;have y4:=cc 4 _ rfl;have y5:=cc 5 _ rfl;have y6:=cc 6 _ rfl;clear hcc hvn hvi hs2 cc;go_wp2_with fail
   refine(version_any _ g 0 N d i hlt hN2).mono ?_;rintro e wf ⟨rfl,hf⟩;have hBf:=hB.out.below hf;have hOf:=hO.out.then hf
   clear y0 y1 y2 y3 y4 y5 y6 ck;go_wp2_with fail
   refine(takeApart_any _ g n (12+4*i) 4 4 vi _ hBf (by omega) (by omega) hnb).mono ?_;rintro e wg ⟨rfl,gg,og⟩;have HGG:Hid (Bk wg g n (wF (i+1))):=by show Bk _ _ _ _; rw [<- HS3.out]; exact gg
   have HOG:Hid (Only (fun b=>b=g) w1 wg):=hOf.trans og;clear gg og hOf hBf hf HS3;go_wp2_with fail
   go_roundw
   case rel=>exact⟨i+1,by omega,by go_num,HGG,HOG⟩
   case measure=>simp [intOf]; omega
  ·obtain rfl:i=N:=by omega
   have y6:=(C0.out.only hO.out q0) 6 _ rfl;have u5:=(C1.out.only hO.out q1) 5 _ rfl;have hbb:=HBec1.out.only hO.out HAB.out;obtain⟨wh,hrun,gh,oh⟩:=run_copy_bk (off:=12+4*i) (dC:=d) (show 0<d by omega) hB.out hbb (by omega);go_wp2_with fail
   refine bodyPost_end (results_none rfl _ _ _) rfl ⟨rfl,gh.congr HA2.out,?_⟩;exact(Only.of_below HB1.out).trans ((hO.out.trans oh))
end Go.Proofs.YtemlojjkokooeaaGreat
