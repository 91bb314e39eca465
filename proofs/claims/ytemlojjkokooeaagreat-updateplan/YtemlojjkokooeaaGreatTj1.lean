import Derived.WalkKit
import GoSem.Claim
import Derived.JoinedTies
import Derived.KernelRfl
import Derived.WalkSpells
import Derived.WalkLawsBesides
import Derived.Below
import Derived.Deep.RegionHeld3
import Derived.Test.YtemlojjkokooeaaGreatProg
set_option maxHeartbeats 400000
set_option maxRecDepth 100000
namespace Go.Proofs.YtemlojjkokooeaaGreat
def may (k r c q:Int):Bool:=decide (1<=k/\k<=12/\0<=r/\r<=4/\8<=c/\c<=64/\32<=k*c/\8<=q/\q<=256)
theorem may_true{k r c q:Int}(h:may k r c q=true):1<=k/\k<=12/\0<=r/\r<=4/\8<=c/\c<=64/\32<=k*c/\8<=q/\q<=256:=of_decide_eq_true h
theorem may_wide{k c:Int}(h1:1<=k)(h2:k<=12)(h3:8<=c)(h4:c<=64):8<=k*c/\k*c<=768:=by
 have a:=Int.mul_le_mul h2 h4 (by omega) (by omega);have b:=Int.mul_le_mul h1 h3 (by omega) (by omega);omega
def dir (w:Nat):Nat:=(w-7) / 6
def lea (w:Nat):Nat:=w / 6
def mst (w:Nat):Nat:=min 32768 (dir w*lea w*w)
theorem dir_le{w:Nat}(h:w<=768):dir w<=126:=by unfold dir; omega
theorem dir_ge{w:Nat}(h:32<=w):4<=dir w:=by unfold dir; omega
theorem lea_le{w:Nat}(h:w<=768):lea w<=128:=by unfold lea; omega
theorem lea_ge{w:Nat}(h:32<=w):5<=lea w:=by unfold lea; omega
theorem dl_le{w:Nat}(h:w<=768):dir w*lea w<=16128:=Nat.mul_le_mul (dir_le h) (lea_le h)
theorem dlw_le{w:Nat}(h:w<=768):dir w*lea w*w<=12386304:=Nat.mul_le_mul (dl_le h) h
theorem mst_le(w:Nat):mst w<=32768:=Nat.min_le_left _ _
theorem mst_ge{w:Nat}(h:32<=w)(h':w<=768):w<=mst w:=by
 have h1:1*w<=dir w*lea w*w:=Nat.mul_le_mul_right w (Nat.mul_le_mul (show 1<=dir w from Nat.le_trans (by decide) (dir_ge h)) (show 1<=lea w from Nat.le_trans (by decide) (lea_ge h)));unfold mst; omega
def pos (o e c i:Nat):Nat:=if i=0 then o else min e ((o / c+i)*c)
def frm (o c i:Nat):Nat:=if i=0 then o % c else 0
def til (o e c i:Nat):Nat:=min c (e-(o / c+i)*c)
def stp (o c k i:Nat):Nat:=(o / c+i) / k
def cel (o c k i:Nat):Nat:=(o / c+i) % k
def End (o e c n:Nat):Prop:=(e=o/\n=0)\/(o<e/\1<=n/\o / c+n=(e-1) / c+1)
theorem pos_div{o e c i:Nat}(hc:0<c)(h:pos o e c i<e):pos o e c i / c=o / c+i:=by
 unfold pos at h ⊢;split
 ·subst i; rfl
 ·rename_i h0
  rw [if_neg h0] at h;rw [Nat.min_eq_right (by omega),Nat.mul_div_cancel _ hc]
theorem pos_mod{o e c i:Nat}(h:pos o e c i<e):pos o e c i % c=frm o c i:=by
 unfold pos at h ⊢; unfold frm;split
 ·rfl
 ·rename_i h0
  rw [if_neg h0] at h;rw [Nat.min_eq_right (by omega),Nat.mul_mod_left]
theorem pos_at{o e c i:Nat}(hc:0<c)(h:pos o e c i<e):pos o e c i=(o / c+i)*c+frm o c i:=by
 have:=Nat.div_add_mod (pos o e c i) c;rw [pos_div hc h,pos_mod h,Nat.mul_comm] at this;exact this.symm
theorem frm_lt{o c i:Nat}(hc:0<c):frm o c i<c:=by
 unfold frm; split
 ·exact Nat.mod_lt _ hc
 ·exact hc
theorem pos_le{o e c i:Nat}(h:o<=e):pos o e c i<=e:=by unfold pos; split <;> omega
theorem pos_succ{o e c i:Nat}(hc:0<c)(h:pos o e c i<e):pos o e c i+min (e-pos o e c i) (c-frm o c i)=pos o e c (i+1):=by
 have h1:=pos_at hc h;have h2:=frm_lt (o:=o) (i:=i) hc;have h3:pos o e c (i+1)=min e ((o / c+i)*c+c):=by
  unfold pos; rw [if_neg (by omega),<- Nat.succ_mul]; rfl
 rw [h3];omega
theorem til_eq{o e c i:Nat}(hc:0<c)(h:pos o e c i<e):frm o c i+min (e-pos o e c i) (c-frm o c i)=til o e c i:=by
 have h1:=pos_at hc h;have h2:=frm_lt (o:=o) (i:=i) hc;unfold til;omega
theorem til_gt{o e c i:Nat}(hc:0<c)(h:pos o e c i<e):frm o c i<til o e c i:=by
 rw [<- til_eq hc h];have h2:=frm_lt (o:=o) (i:=i) hc;omega
theorem til_le(o e c i:Nat):til o e c i<=c:=Nat.min_le_left _ _
theorem pos_til{o e c i:Nat}(hc:0<c)(h:pos o e c i<e):pos o e c i+til o e c i-frm o c i=pos o e c (i+1):=by
 rw [<- til_eq hc h,<- pos_succ hc h]; omega
theorem pos_stp{o e c k i:Nat}(hc:0<c)(h:pos o e c i<e):pos o e c i / (k*c)=stp o c k i:=by
 rw [Nat.mul_comm,<- Nat.div_div_eq_div_mul,pos_div hc h]; rfl
theorem pos_cel{o e c k i:Nat}(hc:0<c)(h:pos o e c i<e):pos o e c i % (k*c) / c=cel o c k i:=by
 rw [Nat.mul_comm,Nat.mod_mul_right_div_self,pos_div hc h]; rfl
theorem end_of{o e c n:Nat}(hc:0<c)(h1:∀ i,i<n->pos o e c i<e)(h2:pos o e c n=e):End o e c n:=by
 by_cases h0:n=0
 ·subst h0;have:pos o e c 0=o:=by unfold pos; rw [if_pos rfl]
  exact .inl ⟨by omega,rfl⟩
 ·right
  have h3:=h1 (n-1) (by omega);have h4:=pos_at hc h3;have h5:=h1 0 (by omega);have h6:pos o e c 0=o:=by unfold pos; rw [if_pos rfl]
  refine⟨by omega,by omega,?_⟩;have h7:e<=(o / c+n)*c:=by
   unfold pos at h2; rw [if_neg h0] at h2; omega
  have h8:(o / c+n)*c=(o / c+(n-1))*c+c:=by rw [<- Nat.succ_mul]; congr 1; omega
  have h9:(e-1) / c=o / c+(n-1):=by
   apply Nat.div_eq_of_lt_le
   ·omega
   ·rw [Nat.succ_mul]; omega
  omega
theorem end_pos{o e c n i:Nat}(h:End o e c n)(hi:i<n):pos o e c i<e:=by
 rcases h with h | ⟨h1,h2,h3⟩
 ·omega
 ·unfold pos;split
  ·exact h1
  ·have h4:(e-1) / c*c<=e-1:=Nat.div_mul_le_self _ _;have h5:(o / c+i)*c<=(e-1) / c*c:=Nat.mul_le_mul_right c (by omega);omega
theorem end_le{o e c n:Nat}(hc:0<c)(h:End o e c n):n<=e-o:=by
 rcases h with ⟨h1,h2⟩ | ⟨h1,h2,h3⟩
 ·omega
 ·have h4:=Nat.div_add_mod (e-1) c;have h5:=Nat.div_add_mod o c;have h6:=Nat.mod_lt o hc;by_cases h7:n=1
  ·omega
  ·obtain⟨d,hd⟩:∃ d,(e-1) / c=o / c+d:=⟨(e-1) / c-o / c,by omega⟩
   obtain⟨q,rfl⟩:∃ q,d=q+1:=⟨d-1,by omega⟩
   rw [hd,Nat.mul_add,Nat.mul_succ] at h4;have h8:q<=c*q:=Nat.le_mul_of_pos_left q hc;omega
end Go.Proofs.YtemlojjkokooeaaGreat
namespace Go.Proofs.YtemlojjkokooeaaGreat
open Go.RowKit
theorem below_step{B:Nat}{a b c:World}(h:Below B a b)(k:Below b.heap.size b c)(hB:B<=b.heap.size):Below B a c:=h.trans (k.mono hB)
theorem bth{a b c:World}(h:Below a.heap.size a b)(k:Below b.heap.size b c):Below a.heap.size a c:=below_step h k h.size
theorem bal(w:World)(o:Obj):Below w.heap.size w (w.alloc o):=(Below.refl _ w).alloc (Nat.le_refl _) o
theorem bdw(B:Nat)(w:World):Below B w w.drew:=⟨rfl,rfl,rfl,Nat.le_refl _,fun _ _=>rfl⟩
theorem held{w w':World}{a:Addr}{v:Value}(h:w.cell? a=some v)(hb:Below w.heap.size w w'):w'.cell? a=some v:=(hb.cell (World.block_lt_of_cell? w _ h)).trans h
theorem ret_int{k:IntKind}{a b:Int}(h:a=b):Ending.returned (.int k a)=.returned (.int k b):=by rw [h]
theorem ret_bool{a b:Bool}(h:a=b):Ending.returned (.bool a)=.returned (.bool b):=by rw [h]
theorem blk_held{w w0 w1:World}{cs:Array Value}{t:TypeId}(h0:w0=w.alloc (.cells cs t))(hb:Below w0.heap.size w0 w1)(i:Nat){v:Value}(hi:cs[i]? = some v):w1.cell? ⟨w.heap.size,i,none⟩=some v:=by
 subst h0;rw [World.cell?_of_block (hb.block w.heap.size (by simp)),cell_of_row _ _ _ _ _ _ (heap_alloc_new w _)];exact hi
theorem blk_free{w w0 w1:World}{cs:Array Value}{t:TypeId}(h0:w0=w.alloc (.cells cs t))(hb:Below w0.heap.size w0 w1)(i:Nat):w1.frozen? ⟨w.heap.size,i,none⟩=false:=by
 subst h0;rw [World.frozen?_of_block (hb.block w.heap.size (by simp))];unfold World.frozen?;rw [heap_alloc_new w _];simp
theorem par_held{w w0 w1:World}{x0 x1 x2 x3:Value}{t:TypeId}(h0:w0=w.alloc (.cells #[x0,x1,x2,x3] t))(hb:Below w0.heap.size w0 w1):
  w1.cell? ⟨w.heap.size,0,none⟩=some x0/\w1.cell? ⟨w.heap.size,1,none⟩=some x1/\w1.cell? ⟨w.heap.size,2,none⟩=some x2/\w1.cell? ⟨w.heap.size,3,none⟩=some x3 :=
 ⟨blk_held h0 hb 0 rfl,blk_held h0 hb 1 rfl,blk_held h0 hb 2 rfl,blk_held h0 hb 3 rfl⟩
theorem mea_held{w w0 w1:World}{x0 x1 x2 x3 x4:Value}{t:TypeId}(h0:w0=w.alloc (.cells #[x0,x1,x2,x3,x4] t))(hb:Below w0.heap.size w0 w1):
  w1.cell? ⟨w.heap.size,0,none⟩=some x0/\w1.cell? ⟨w.heap.size,1,none⟩=some x1/\w1.cell? ⟨w.heap.size,2,none⟩=some x2/\w1.cell? ⟨w.heap.size,3,none⟩=some x3/\w1.cell? ⟨w.heap.size,4,none⟩=some x4 :=
 ⟨blk_held h0 hb 0 rfl,blk_held h0 hb 1 rfl,blk_held h0 hb 2 rfl,blk_held h0 hb 3 rfl,blk_held h0 hb 4 rfl⟩
theorem w64(n:Int)(h:-9223372036854775808<=n/\n<=9223372036854775807):wrap64 n=n:=by unfold wrap64; omega
theorem wrap_wide{k c:Int}(h1:1<=k)(h2:k<=12)(h3:8<=c)(h4:c<=64):wrap64 (k*c)=k*c:=by
 have:=may_wide h1 h2 h3 h4;unfold wrap64; omega
theorem within_any(n a b:Int)(w:World):
  Calls Tryz.prog 179 #[.int .i64 n,.int .i64 a,.int .i64 b] w fun e w'=>e=.returned (.bool (decide (a<=n/\n<=b)))/\w'=w:=by
 rw [Bool.decide_and];go_enter Tryz.func179,Tryz.ntmps179
 go_wp2
 ·go_ret;exact⟨ret_bool (by rw [decide_eq_true (show a<=n by omega)]; rfl),rfl⟩
 ·go_ret;exact⟨ret_bool (by rw [decide_eq_false (show ¬ a<=n by omega)]; rfl),rfl⟩
theorem may_decide(k r c q:Int):may k r c q=decide (1<=k/\k<=12/\0<=r/\r<=4/\8<=c/\c<=64/\32<=k*c/\8<=q/\q<=256):=rfl
def erP (k r c q:Int):Int:=if may k r c q=true then 0 else 2
theorem Check_any(k r c q:Int)(w:World):
  Calls Tryz.prog 109 #[.agg #[.int .i64 k,.int .i64 r,.int .i64 c,.int .i64 q]] w fun e w'=>e=.returned (.int .i64 (erP k r c q))/\Below w.heap.size w w':=by
 have HW:Hid (1<=k->k<=12->8<=c->c<=64->wrap64 (k*c)=k*c):=wrap_wide;go_enter Tryz.func109,Tryz.ntmps109
 go_wp2_with (go_at_call 179; refine(within_any _ _ _ _).mono ?_; rintro e w' ⟨rfl,hw'⟩; obtain rfl:=hw'.symm)
 all_goals (go_ret; have:=HW.out; refine⟨ret_int ?_,bal _ _⟩; unfold erP; rw [may_decide]; first | (rw [if_pos (decide_eq_true (by omega))]; done) | (rw [if_neg (by rw [decide_eq_true_eq]; omega)]; done))
def Par (k r c q:Int) (N W:Nat) (e:Int):Prop:=(may k r c q=true/\(W:Int)=k*c/\(N:Int)=k+r/\e=0)\/(may k r c q=false/\W=0/\N=0/\e=2)
theorem par_any(k r c q:Int):∃ N W e,Par k r c q N W e:=by
 cases h:may k r c q
 ·exact⟨0,0,2,.inr ⟨h,rfl,rfl,rfl⟩⟩
 ·obtain⟨h1,h2,h3,h4,h5,h6,h7,h8,h9⟩:=may_true h;exact⟨(k+r).toNat,(k*c).toNat,0,.inl ⟨h,by omega,by omega,rfl⟩⟩
theorem Par.wide{k r c q:Int}{N W:Nat}{e:Int}(h:Par k r c q N W e):W<=768:=by
 rcases h with ⟨h,h0,_⟩ | ⟨_,h0,_⟩
 ·obtain⟨h1,h2,h3,h4,h5,h6,h7,h8,h9⟩:=may_true h;have:=may_wide h1 h2 h5 h6;omega
 ·omega
theorem measure_good(k r c q:Int)(w:World)(W N:Nat)(h:wrap64 (k*c)=(W:Int))(h1:32<=W)(h2:W<=768)(he:erP k r c q=0)(hN:(N:Int)=k+r)(hk:N<=16):
  Calls Tryz.prog 142 #[.agg #[.int .i64 k,.int .i64 r,.int .i64 c,.int .i64 q]] w fun e w'=>e=.returned (.tuple #[.agg #[.int .i64 (N:Int),.int .i64 (W:Int),.int .i64 ((dir W:Nat):Int),.int .i64 ((lea W:Nat):Int),.int .i64 ((mst W:Nat):Int)],.int .i64 0])/\Below w.heap.size w w':=by
 have HC:=fun w=>Check_any k r c q w;rw [he] at HC;have HE:Hid (mst W=min 32768 (dir W*lea W*W)):=rfl;have hd:((W:Int)-7) / 6=((dir W:Nat):Int):=by unfold dir; omega
 have hl:(W:Int) / 6=((lea W:Nat):Int):=by unfold lea; omega
 have HD:Hid (((W:Int)-7) / 6=((dir W:Nat):Int)):=hd;have HL:Hid ((W:Int) / 6=((lea W:Nat):Int)):=hl;have HN:Hid (k+r=(N:Int)):=hN.symm;have p1:=dl_le h2;have p2:=dlw_le h2;obtain⟨p,hp,hpm,hpp⟩:∃ p:Nat,wrap64 (wrap64 (((W:Int)-7) / 6*((W:Int) / 6))*(W:Int))=(p:Int)/\mst W=min 32768 p/\p<=12386304:=by
  refine⟨dir W*lea W*W,?_,rfl,p2⟩;rw [hd,hl,<- Int.natCast_mul,w64 ((dir W*lea W:Nat):Int) (by omega),<- Int.natCast_mul,w64 _ (by omega)]
 have HPM:Hid (mst W=min 32768 p):=hpm;clear hpm hd hl p1 p2 HE;obtain⟨w0,hw0⟩:∃ w0,w0=w.alloc (.cells #[.int .i64 k,.int .i64 r,.int .i64 c,.int .i64 q] 23):=⟨_,rfl⟩
 obtain⟨w1,hw1⟩:∃ w1,w1=w0.alloc (.cells #[.int .i64 0,.int .i64 0,.int .i64 0,.int .i64 0,.int .i64 0] 177):=⟨_,rfl⟩
 have b0:Below w.heap.size w w0:=by rw [hw0]; exact bal _ _
 have b1:Below w0.heap.size w0 w1:=by rw [hw1]; exact bal _ _
 have z0:w0.heap.size=w.heap.size+1:=by rw [hw0]; simp
 go_enter Tryz.func142,Tryz.ntmps142
 go_wp2_with fail
 rw [<- hw0,<- hw1];refine(HC _).mono ?_;rintro e wa ⟨rfl,ha⟩;obtain⟨s0,s1,s2,s3⟩:=par_held hw0 (bth b1 ha);obtain⟨m0,m1,m2,m3,m4⟩:=mea_held hw1 ha;have f:=blk_free hw1 ha;rw [z0] at m0 m1 m2 m3 m4 f;have n0:∀ o,(wa.alloc o).cell? ⟨w.heap.size+1,0,none⟩=some (.int .i64 0):=fun o=>held m0 (bal _ _);have n1:∀ o,(wa.alloc o).cell? ⟨w.heap.size+1,1,none⟩=some (.int .i64 0):=fun o=>held m1 (bal _ _);have n2:∀ o,(wa.alloc o).cell? ⟨w.heap.size+1,2,none⟩=some (.int .i64 0):=fun o=>held m2 (bal _ _);have n3:∀ o,(wa.alloc o).cell? ⟨w.heap.size+1,3,none⟩=some (.int .i64 0):=fun o=>held m3 (bal _ _);have n4:∀ o,(wa.alloc o).cell? ⟨w.heap.size+1,4,none⟩=some (.int .i64 0):=fun o=>held m4 (bal _ _);have f':∀ o i,(wa.alloc o).frozen? ⟨w.heap.size+1,i,none⟩=false:=fun o i=>(World.frozen?_of_block (a:=⟨w.heap.size+1,i,none⟩) (Below.heap_alloc _ _ _ (World.block_lt_of_cell? wa ⟨w.heap.size+1,0,none⟩ m0))).trans (f i);clear hw0 hw1 f m0 m1 m2 m3 m4;by_cases hlt:(p:Int)<32768
 ·go_wp2_with fail
  refine bodyPost_ret (v:=.tuple #[.agg #[.int .i64 (k+r),.int .i64 (W:Int),.int .i64 (((W:Int)-7) / 6),.int .i64 ((W:Int) / 6),.int .i64 (p:Int)],.int .i64 0]) (by simp [results,Tryz.results142,go_sem,n0,n1,n2,n3,n4]) rfl ⟨?_,?_⟩
  ·rw [HN.out,HD.out,HL.out,HPM.out];rw [show min 32768 p=p by omega]
  ·have hB:=bth (bth b0 b1) ha;exact(((((hB.alloc hB.size _).setCell (Nat.le_succ _) _).setCell (Nat.le_succ _) _).setCell (Nat.le_succ _) _).setCell (Nat.le_succ _) _).setCell (Nat.le_succ _) _
 ·go_wp2_with fail
  refine bodyPost_ret (v:=.tuple #[.agg #[.int .i64 (k+r),.int .i64 (W:Int),.int .i64 (((W:Int)-7) / 6),.int .i64 ((W:Int) / 6),.int .i64 32768],.int .i64 0]) (by simp [results,Tryz.results142,go_sem,n0,n1,n2,n3,n4]) rfl ⟨?_,?_⟩
  ·rw [HN.out,HD.out,HL.out,HPM.out];rw [show min 32768 p=32768 by omega]; rfl
  ·have hB:=bth (bth b0 b1) ha;exact(((((hB.alloc hB.size _).setCell (Nat.le_succ _) _).setCell (Nat.le_succ _) _).setCell (Nat.le_succ _) _).setCell (Nat.le_succ _) _).setCell (Nat.le_succ _) _
theorem measure_bad(k r c q:Int)(w:World)(he:erP k r c q=2):
  Calls Tryz.prog 142 #[.agg #[.int .i64 k,.int .i64 r,.int .i64 c,.int .i64 q]] w fun e w'=>e=.returned (.tuple #[.agg #[.int .i64 0,.int .i64 0,.int .i64 0,.int .i64 0,.int .i64 0],.int .i64 2])/\Below w.heap.size w w':=by
 have HC:=fun w=>Check_any k r c q w;rw [he] at HC;obtain⟨w0,hw0⟩:∃ w0,w0=w.alloc (.cells #[.int .i64 k,.int .i64 r,.int .i64 c,.int .i64 q] 23):=⟨_,rfl⟩
 have b0:Below w.heap.size w w0:=by rw [hw0]; exact bal _ _
 have z0:w0.heap.size=w.heap.size+1:=by rw [hw0]; simp
 obtain⟨w1,hw1⟩:∃ w1,w1=w0.alloc (.cells #[.int .i64 0,.int .i64 0,.int .i64 0,.int .i64 0,.int .i64 0] 177):=⟨_,rfl⟩
 have b1:Below w0.heap.size w0 w1:=by rw [hw1]; exact bal _ _
 go_enter Tryz.func142,Tryz.ntmps142
 go_wp2_with fail
 rw [<- hw0,<- hw1];refine(HC _).mono ?_;rintro e wa ⟨rfl,ha⟩;obtain⟨m0,m1,m2,m3,m4⟩:=mea_held hw1 ha;have f:=blk_free hw1 ha;rw [z0] at m0 m1 m2 m3 m4 f;clear hw0 hw1;go_wp2_with fail
 refine bodyPost_ret (v:=.tuple #[.agg #[.int .i64 0,.int .i64 0,.int .i64 0,.int .i64 0,.int .i64 0],.int .i64 2]) (by simp [results,Tryz.results142,go_sem,m0,m1,m2,m3,m4]) rfl ⟨rfl,?_⟩;have hB:=bth (bth b0 b1) ha;exact((((hB.setCell (Nat.le_succ _) _).setCell (Nat.le_succ _) _).setCell (Nat.le_succ _) _).setCell (Nat.le_succ _) _).setCell (Nat.le_succ _) _
theorem measure_any{k r c q:Int}{N W:Nat}{x:Int}(h:Par k r c q N W x)(w:World):
  Calls Tryz.prog 142 #[.agg #[.int .i64 k,.int .i64 r,.int .i64 c,.int .i64 q]] w fun e w'=>e=.returned (.tuple #[.agg #[.int .i64 (N:Int),.int .i64 (W:Int),.int .i64 ((dir W:Nat):Int),.int .i64 ((lea W:Nat):Int),.int .i64 ((mst W:Nat):Int)],.int .i64 x])/\Below w.heap.size w w':=by
 have hw:=h.wide;rcases h with ⟨h0,h1,h2,rfl⟩ | ⟨h0,rfl,rfl,rfl⟩
 ·obtain⟨p1,p2,p3,p4,p5,p6,p7,p8,p9⟩:=may_true h0;exact measure_good k r c q w W N (by rw [h1]; exact wrap_wide p1 p2 p5 p6) (by omega) hw (by unfold erP; rw [if_pos h0]) h2 (by omega)
 ·exact measure_bad k r c q w (by unfold erP; rw [if_neg (by rw [h0]; decide)])
theorem Drives_any{k r c q:Int}{N W:Nat}{x:Int}(h:Par k r c q N W x)(w:World):
  Calls Tryz.prog 146 #[.agg #[.int .i64 k,.int .i64 r,.int .i64 c,.int .i64 q]] w fun e w'=>e=.returned (.tuple #[.int .i64 (N:Int),.int .i64 x])/\Below w.heap.size w w':=by
 have HC:=fun w=>measure_any h w;clear h;generalize dir W=d at *
 generalize lea W=l at *
 generalize mst W=m at *
 obtain⟨w0,hw0⟩:∃ w0,w0=w.alloc (.cells #[.int .i64 k,.int .i64 r,.int .i64 c,.int .i64 q] 23):=⟨_,rfl⟩
 have b0:Below w.heap.size w w0:=by rw [hw0]; exact bal _ _
 go_enter Tryz.func146,Tryz.ntmps146
 go_wp2_with fail
 rw [<- hw0];refine(HC _).mono ?_;rintro e wa ⟨rfl,ha⟩;go_wp2_with fail
 go_ret2;exact⟨rfl,have hB:=bth b0 ha; hB.alloc hB.size _⟩
theorem Width_any{k r c q:Int}{N W:Nat}{x:Int}(h:Par k r c q N W x)(w:World):
  Calls Tryz.prog 79 #[.agg #[.int .i64 k,.int .i64 r,.int .i64 c,.int .i64 q]] w fun e w'=>e=.returned (.tuple #[.int .i64 (W:Int),.int .i64 x])/\Below w.heap.size w w':=by
 have HC:=fun w=>measure_any h w;clear h;generalize dir W=d at *
 generalize lea W=l at *
 generalize mst W=m at *
 obtain⟨w0,hw0⟩:∃ w0,w0=w.alloc (.cells #[.int .i64 k,.int .i64 r,.int .i64 c,.int .i64 q] 23):=⟨_,rfl⟩
 have b0:Below w.heap.size w w0:=by rw [hw0]; exact bal _ _
 go_enter Tryz.func79,Tryz.ntmps79
 go_wp2_with fail
 rw [<- hw0];refine(HC _).mono ?_;rintro e wa ⟨rfl,ha⟩;go_wp2_with fail
 go_ret2;exact⟨rfl,have hB:=bth b0 ha; hB.alloc hB.size _⟩
end Go.Proofs.YtemlojjkokooeaaGreat
namespace Go.Proofs.YtemlojjkokooeaaGreat
def verB (v:Int):Bool:=decide (1<=v/\v<=1073741824)
def vok (N n:Nat) (R:Nat->Int):Bool:=decide (n=N/\∀ i,i<n->1<=R i/\R i<=1073741824)
def erV (x:Int) (N n:Nat) (R:Nat->Int):Int:=if x=0 then (if vok N n R=true then 0 else 70) else x
def celB (n m:Nat) (C:Nat->Int):Bool:=decide (∀ j,j<m->0<=C j/\C j<(n:Int))
def erB (x:Int) (N n:Nat) (R:Nat->Int) (m:Nat) (C:Nat->Int) (v:Int):Int :=
  if erV x N n R=0 then (if n<m then 20 else if celB n m C=true then (if verB v=true then 0 else 70) else 2) else erV x N n R
def lenE (e:Int) (n:Nat):Nat:=if e=0 then n else 0
def gr (a b:Int):Int:=if a<b then b else a
def mx (R:Nat->Int):Nat->Int
  | 0=>0
  | k+1=>gr (mx R k) (R k)
def bmp (C:Nat->Int) (v:Int) (R:Nat->Int):Nat->Nat->Int
  | 0,i=>R i
  | k+1,i=>if C k=(i:Int) then v else bmp C v R k i
def anyB (n:Nat) (P:Nat->Bool):Bool:=!decide (∀ i,i<n->P i=false)
def put {α:Type} (i:Nat) (v:α) (R:Nat->α):Nat->α:=fun j=>if j=i then v else R j
theorem put_at{α:Type}(i:Nat)(v:α)(R:Nat->α):put i v R i=v:=if_pos rfl
theorem put_ne{α:Type}{i j:Nat}(v:α)(R:Nat->α)(h:j ≠ i):put i v R j=R j:=if_neg h
theorem erV_of{x:Int}{N n:Nat}{R:Nat->Int}(h:erV x N n R=0):x=0/\n=N/\∀ i,i<n->1<=R i/\R i<=1073741824:=by
 unfold erV at h;by_cases hx:x=0
 ·rw [if_pos hx] at h;by_cases hv:vok N n R=true
  ·exact⟨hx,of_decide_eq_true hv⟩
  ·rw [if_neg hv] at h; cases h
 ·rw [if_neg hx] at h; exact absurd h hx
theorem erV_ok{N n:Nat}{R:Nat->Int}(h:n=N)(h1:∀ i,i<n->1<=R i/\R i<=1073741824):erV 0 N n R=0:=by
 unfold erV; rw [if_pos rfl,if_pos (show vok N n R=true from decide_eq_true ⟨h,h1⟩)]
theorem erV_x{x:Int}{N n:Nat}{R:Nat->Int}(h:x ≠ 0):erV x N n R=x:=by unfold erV; rw [if_neg h]
theorem erV_70{N n:Nat}{R:Nat->Int}(h:¬ (n=N/\∀ i,i<n->1<=R i/\R i<=1073741824)):erV 0 N n R=70:=by
 unfold erV; rw [if_pos rfl,if_neg (show ¬ vok N n R=true from fun e=>h (of_decide_eq_true e))]
theorem lenE_zero(n:Nat):lenE 0 n=n:=if_pos rfl
theorem lenE_ne{e:Int}(n:Nat)(h:e ≠ 0):lenE e n=0:=if_neg h
theorem gr_left(a b:Int):a<=gr a b:=by unfold gr; split <;> omega
theorem gr_right(a b:Int):b<=gr a b:=by unfold gr; split <;> omega
theorem gr_le{a b c:Int}:gr a b<=c ↔ a<=c/\b<=c:=by unfold gr; split <;> omega
theorem mx_le{R:Nat->Int}{n:Nat}:∀ i,i<n->R i<=mx R n:=by
 induction n with
 | zero=>intro i hi; omega
 | succ k ih =>
  intro i hi;show R i<=gr (mx R k) (R k);by_cases e:i=k
  ·subst e; exact gr_right _ _
  ·have:=ih i (by omega);have:=gr_left (mx R k) (R k);omega
theorem mx_top{R:Nat->Int}{n:Nat}{t:Int}(h0:0<=t)(h:∀ i,i<n->R i<=t):mx R n<=t:=by
 induction n with
 | zero=>exact h0
 | succ k ih=>exact gr_le.2 ⟨ih fun i hi=>h i (by omega),h k (by omega)⟩
theorem mx_one{R:Nat->Int}(h:1<=R 0):mx R 1=R 0:=by
 show gr 0 (R 0)=R 0;unfold gr; rw [if_pos (by omega)]
theorem bmp_hit {C : Nat -> Int} {v : Int} {R : Nat -> Int} {m i : Nat} (h : ∃ j, j < m /\ C j = (i : Int)) : bmp C v R m i = v := by
  induction m with
  | zero => obtain ⟨j, hj, _⟩ := h; omega
  | succ k ih =>
    show (if C k = (i : Int) then v else bmp C v R k i) = v
    by_cases e : C k = (i : Int)
    · rw [if_pos e]
    · rw [if_neg e]
      obtain ⟨j, hj, hc⟩ := h
      exact ih ⟨j, by rcases Nat.lt_or_ge j k with g | g; exact g; obtain rfl : j = k := by omega
                      exact absurd hc e, hc⟩
theorem bmp_miss{C:Nat->Int}{v:Int}{R:Nat->Int}{m i:Nat}(h:¬ ∃ j,j<m/\C j=(i:Int)):bmp C v R m i=R i:=by
 induction m with
 | zero=>rfl
 | succ k ih =>
  show (if C k=(i:Int) then v else bmp C v R k i)=R i;rw [if_neg (fun e=>h ⟨k,by omega,e⟩)];exact ih fun⟨j,hj,e⟩=>h ⟨j,by omega,e⟩
theorem first_bad{p:Nat->Prop}:∀ i,¬ p i->∃ k,k<=i/\¬ p k/\∀ j,j<k->p j:=by
 intro i;induction i using Nat.strongRecOn with
 | ind i ih =>
  intro hi;by_cases h:∀ j,j<i->p j
  ·exact⟨i,Nat.le_refl _,hi,h⟩
  ·obtain⟨j,hj⟩:=Classical.not_forall.1 h;obtain⟨h1,h2⟩:=Classical.not_imp.1 hj;obtain⟨k,h3,h4⟩:=ih j h1 h2;exact⟨k,by omega,h4⟩
theorem first_not{p:Nat->Prop}{n:Nat}(h:¬ ∀ i,i<n->p i):∃ q,q<n/\¬ p q/\∀ i,i<q->p i:=by
 obtain⟨i,hi⟩:=Classical.not_forall.1 h;obtain⟨p1,p2⟩:=Classical.not_imp.1 hi;obtain⟨k,hk,p3,p4⟩:=first_bad (p:=p) i p2;exact⟨k,by omega,p3,p4⟩
end Go.Proofs.YtemlojjkokooeaaGreat
