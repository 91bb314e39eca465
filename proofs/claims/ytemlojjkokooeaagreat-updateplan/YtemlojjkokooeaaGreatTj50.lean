import Derived.Test.YtemlojjkokooeaaGreatTj39
import Derived.Test.YtemlojjkokooeaaGreatTj49
set_option maxHeartbeats 8000000
set_option maxRecDepth 100000
namespace Go.Proofs.YtemlojjkokooeaaGreat
open Go.RowKit
theorem ucut_any{K m:Nat}(r q:Int)(w:World)(b off dn dc i:Nat)(hi:i<K)(hK:K<=12)(hm:m<=64)(hdn:dn=K*m)(hdc:dn<=dc)(hm0:0<m):
  Calls Tryz.prog 157 #[.agg #[.int .i64 (K:Int),.int .i64 r,.int .i64 (m:Int),.int .i64 q],.slice (some ⟨b,off,none⟩) dn dc,.int .i64 (i:Int)] w fun e w'=>e=.returned (.slice (some ⟨b,off+i*m,none⟩) m (dc-i*m))/\Below w.heap.size w w':=by
 obtain⟨w0,hw0⟩:∃ w0,w0=w.alloc (.cells #[.int .i64 (K:Int),.int .i64 r,.int .i64 (m:Int),.int .i64 q] 23):=⟨_,rfl⟩
 have b0:Below w.heap.size w w0:=by rw [hw0]; exact bal _ _
 obtain⟨p,hp⟩:∃ p,p=i*m:=⟨_,rfl⟩
 have hp1:p+m=(i+1)*m:=by rw [hp,Nat.succ_mul]
 have hp2:p+m<=dn:=by rw [hdn,hp1]; exact Nat.mul_le_mul_right m hi
 have hp3:p+m<=1024:=by rw [hp1]; exact Nat.le_trans (Nat.mul_le_mul (show i+1<=12 by omega) hm) (by decide)
 obtain⟨v1,v3⟩:=val_mul hp (by omega);obtain⟨v2,v4⟩:=val_mul2 hp1 (by omega);have i1:(0:Int)<=(p:Int):=by omega
 have i2:(p:Int)<=(p:Int)+(m:Int):=by omega
 have i3:(p:Int)+(m:Int)<=(dc:Int):=by omega
 have i4:¬ (p:Int)+(m:Int)<0:=by omega
 have i5:¬ dc=p:=by omega
 rw [<- hp];clear hp hp1 hdn;go_enter Tryz.func157,Tryz.ntmps157
 go_wp2;go_ret;exact⟨rfl,bal _ _⟩
theorem run_copy_ow{w:World}{B g n cap off k kk dC:Nat}{G H:Nat->UInt8}{bo:Option Addr}{cb:Nat}(hg:OwU B w (some ⟨g,0,none⟩) n cap G)(hb:Bec w bo kk cb H)(h0:0<k)(hk:k<=kk)(hfit:off+k<=n):
  ∃ w',(Builtin.copy_ #[36,36] 3 #[.slice (some ⟨g,off,none⟩) k dC,.slice bo kk cb]).run Tryz.prog w=.ok (goInt k) w'/\OwU B w' (some ⟨g,0,none⟩) n cap (upR G off k H)/\Only (fun b=>b=g) w w':=by
 obtain⟨b,bof,rfl,hc⟩:=hb.rd (by omega);have hl:(byF k H).length=Nat.min kk k:=by rw [byF_length]; exact(Nat.min_eq_right hk).symm
 rcases hg.2 with ⟨e,_⟩ | ⟨g',c',cur,e,h1,h2,h3,h4,h5,h6⟩
 ·cases e
 ·cases e
  rw [Nat.mul_one] at h5 h6;have hrun:=run_copy_row (P:=Tryz.prog) w 36 36 3 5 g off k dC ⟨b,bof,none⟩ kk cb cur 5 (byF k H) Tryz.underlying36 (by kernel_rfl) h2 hl
   (fun j v hv=>by
    have hj:=list_lt (byF_length k H) hv;rw [byF_get _ _ _ hj] at hv;rw [Addr.add_lit,hc j (by omega)]; exact hv) (by rw [byF_length]; omega) (byF_one k H)
  rw [byF_length] at hrun;refine⟨_,hrun,?_,only_setRow _ _ _⟩;have hh:=setRow_heap w g _ (cur.toList.take off ++ byF k H ++ cur.toList.drop (off+k)).toArray 5 _ h2;have hcl:cur.toList.length=cap:=by simpa using h5
  refine⟨by rw [byF_length,Nat.mul_one],.inr ⟨g,cap,_,rfl,h1,hh,h3,h4,?_,?_⟩⟩
  ·simp [byF_length,h5]; omega
  ·rw [Nat.mul_one,List.toList_toArray,<- byF_splice G H hfit,<- h6,List.append_assoc,List.take_append,List.take_take,Nat.min_eq_right (show off<=n by omega),List.take_take,Nat.min_eq_left (show off<=n by omega),List.length_take,hcl,Nat.min_eq_left (show off<=cap by omega),List.take_append,byF_length,List.take_of_length_le (l:=byF k H) (by rw [byF_length]; omega),List.drop_take,show n-off-k=n-(off+k) by omega]
def erCh (x:Int) (W on:Nat) (a:Int) (nn:Nat):Int:=if x=0 then (if on=W then (if 0<=a/\a<=(W:Int) then (if (nn:Int)<=(W:Int)-a then 0 else 20) else 2) else 20) else x
def nCh (o nn m:Nat):Nat:=if nn=0 then 0 else (o+nn-1) / m+1-o / m
theorem end_nCh{o nn m n:Nat}(h:End o (o+nn) m n):n=nCh o nn m:=by
 unfold nCh;rcases h with ⟨h1,h2⟩ | ⟨h1,h2,h3⟩
 ·rw [if_pos (by omega)]; exact h2
 ·rw [if_neg (by omega)]; omega
def chB (O M:Nat->UInt8) (o nn m i b:Nat):UInt8:=upR O o nn M ((o / m+i)*m+b)
def AnsCh (w:World) (E:Int) (n:Nat) (D:Nat->Int) (m:Nat) (H:Nat->Nat->UInt8) (e:Ending) (w':World):Prop :=
  ∃ ao cap T U,e=.returned (.tuple #[.slice ao (lenE E n) cap,.int .i64 E])/\Chs w.heap.size w' ao (lenE E n) cap D T (fun _=>m) U H/\Below w.heap.size w w'
theorem ans_none{w w':World}{E:Int}{n:Nat}{D:Nat->Int}{m:Nat}{H:Nat->Nat->UInt8}(hE:¬ E=0)(hb:Below w.heap.size w w'):AnsCh w E n D m H (.returned (.tuple #[.slice none 0 0,.int .i64 E])) w':=by
 have:lenE E n=0:=if_neg hE;refine⟨none,0,fun _=>none,fun _=>0,by rw [this],?_,hb⟩;rw [this]; exact chs_nil _ _ _ _ _ _ _
theorem ch_byte{O M:Nat->UInt8}{o nn m i:Nat}(hm:0<m)(hp:pos o (o+nn) m i<o+nn){j:Nat}(hj:j<m):
  upR (fun b=>O ((o / m+i)*m+b)) (frm o m i) (til o (o+nn) m i-frm o m i) (fun b=>M (pos o (o+nn) m i-o+b)) j=chB O M o nn m i j:=by
 have h1:=pos_at hm hp;have h2:=til_gt hm hp;have h3:til o (o+nn) m i=min m (o+nn-(o / m+i)*m):=rfl;have h4:(o<=(o / m+i)*m+j) ↔ frm o m i<=j:=by
  unfold frm;by_cases e:i=0
  ·subst e;rw [if_pos rfl,Nat.add_zero];have:=Nat.div_add_mod o m;rw [Nat.mul_comm] at this;omega
  ·rw [if_neg e];have a1:=Nat.div_add_mod o m;have a2:=Nat.mod_lt o hm;have a3:(o / m+1)*m<=(o / m+i)*m:=Nat.mul_le_mul_right m (by omega);rw [Nat.add_mul,Nat.one_mul] at a3;rw [Nat.mul_comm] at a1;omega
 have h5:pos o (o+nn) m i ≥ o:=by
  unfold pos;by_cases e:i=0
  ·rw [if_pos e]; exact Nat.le_refl o
  ·unfold pos at h1; rw [if_neg e] at h1 ⊢;have:=h4.2;have hz:frm o m i=0:=if_neg e;have a1:=Nat.div_add_mod o m;have a2:=Nat.mod_lt o hm;have a3:(o / m+1)*m<=(o / m+i)*m:=Nat.mul_le_mul_right m (by omega);rw [Nat.add_mul,Nat.one_mul] at a3;rw [Nat.mul_comm] at a1;omega
 unfold chB;generalize hP:(o / m+i)*m=P at *
 by_cases c:o<=P+j/\P+j<o+nn
 ·rw [upR_in c,upR_in ⟨h4.1 c.1,by omega⟩,show pos o (o+nn) m i-o+(j-frm o m i)=P+j-o by have:=h4.1 c.1; omega]
 ·rw [upR_out c,upR_out (by omega)]
theorem pos_ge{o e m i:Nat}(hm:0<m)(h:pos o e m i<e):o<=pos o e m i:=by
 have h1:=pos_at hm h;by_cases g:i=0
 ·unfold pos; rw [if_pos g]; exact Nat.le_refl o
 ·have hz:frm o m i=0:=if_neg g;have a1:=Nat.div_add_mod o m;have a2:=Nat.mod_lt o hm;have a3:(o / m+1)*m<=(o / m+i)*m:=Nat.mul_le_mul_right m (by omega);rw [Nat.add_mul,Nat.one_mul] at a3;rw [Nat.mul_comm] at a1;omega
theorem ch_lt{o e m i K:Nat}(hm:0<m)(h:pos o e m i<e)(he:e<=K*m):o / m+i<K:=by
 have h1:=pos_at hm h;have:(o / m+i)*m<K*m:=by omega
 exact Nat.lt_of_mul_lt_mul_right this
theorem changes_bad{k r c q:Int}{N W:Nat}{x:Int}(h:Par k r c q N W x)(w:World)(oo:Option Addr)(on oc:Nat)(a:Int)(mo:Option Addr)(mn mc:Nat)(E:Int)(hE:erCh x W on a mn=E)(h0:¬ E=0):
  Calls Tryz.prog 89 #[.agg #[.int .i64 k,.int .i64 r,.int .i64 c,.int .i64 q],.slice oo on oc,.int .i64 a,.slice mo mn mc] w fun e w'=>e=.returned (.tuple #[.slice none 0 0,.int .i64 E])/\Below w.heap.size w w':=by
 have HC:=fun w=>Width_any h w;have hW:=h.wide;obtain⟨w0,hw0⟩:∃ w0,w0=w.alloc (.cells #[.int .i64 k,.int .i64 r,.int .i64 c,.int .i64 q] 23):=⟨_,rfl⟩
 have b0:Below w.heap.size w w0:=by rw [hw0]; exact bal _ _
 unfold erCh at hE;clear h;by_cases h1:x=0
 ·subst h1;rw [if_pos rfl] at hE;by_cases h2:on=W
  ·subst h2;rw [if_pos rfl] at hE;have q1:((on:Int) != (on:Int))=false:=by simp
   by_cases h3:0<=a/\a<=(on:Int)
   ·rw [if_pos h3] at hE;by_cases h4:(mn:Int)<=(on:Int)-a
    ·rw [if_pos h4] at hE; exact absurd hE.symm h0
    ·rw [if_neg h4] at hE;subst hE;go_enter Tryz.func89,Tryz.ntmps89
     go_wp2_with fail
     rw [<- hw0];refine(HC _).mono ?_;rintro e wa ⟨rfl,ha⟩;go_wp2_with fail
     go_ret2;exact⟨rfl,bth b0 ha⟩
   ·rw [if_neg h3] at hE;subst hE;by_cases h5:a<0;all_goals (
     go_enter Tryz.func89,Tryz.ntmps89
     go_wp2_with fail
     rw [<- hw0];refine(HC _).mono ?_;rintro e wa ⟨rfl,ha⟩;go_wp2_with fail
     go_ret2;exact⟨rfl,bth b0 ha⟩)
  ·rw [if_neg h2] at hE;subst hE;have q1:((on:Int) != (W:Int))=true:=by simp; omega
   go_enter Tryz.func89,Tryz.ntmps89
   go_wp2_with fail
   rw [<- hw0];refine(HC _).mono ?_;rintro e wa ⟨rfl,ha⟩;go_wp2_with fail
   go_ret2;exact⟨rfl,bth b0 ha⟩
 ·rw [if_neg h1] at hE;subst hE;have q1:(x != 0)=true:=by simp [h1]
  go_enter Tryz.func89,Tryz.ntmps89
  go_wp2_with fail
  rw [<- hw0];refine(HC _).mono ?_;rintro e wa ⟨rfl,ha⟩;go_wp2_with fail
  go_ret2;exact⟨rfl,bth b0 ha⟩
theorem spOf_cells{w:World}{B n cap:Nat}{ao:Option Addr}{S C F T:Nat->Nat}(h:w.ownsRow B 194 4 (.slice ao n cap) n (spOf S C F T n))(hn:0<n):∃ g,ao=some ⟨g,0,none⟩/\n<=cap/\∀ i,i<n->w.cell? ⟨g,i*4,none⟩=some (.int .i64 (S i:Int))/\w.cell? ⟨g,i*4+1,none⟩=some (.int .i64 (C i:Int))/\w.cell? ⟨g,i*4+2,none⟩=some (.int .i64 (F i:Int))/\w.cell? ⟨g,i*4+3,none⟩=some (.int .i64 (T i:Int)):=by
 rcases h.2 with ⟨_,e⟩ | ⟨g,c',cur,e,h1,h2,h3,_⟩
 ·omega
 ·cases e
  refine⟨g,rfl,h3,fun i hi=>?_⟩;obtain⟨a,b,c,d⟩:=spOf_get S C F T n i hi;have c0:=h.cells (g:=g) rfl _ _ a;have c1:=h.cells (g:=g) rfl _ _ b;have c2:=h.cells (g:=g) rfl _ _ c;have c3:=h.cells (g:=g) rfl _ _ d;rw [Addr.add_lit,Nat.zero_add] at c0 c1 c2 c3;exact⟨c0,c1,c2,c3⟩
theorem Chs.push{B B':Nat}{w w':World}{ao:Option Addr}{n cap g cap' d u:Nat}{D:Nat->Int}{T:Nat->Option Addr}{U:Nat->Nat}{m:Nat}{H:Nat->Nat->UInt8}(h:Chs B w ao n cap D T (fun _=>m) U H)(hd:OwU B' w (some ⟨d,0,none⟩) m u (H n))(hB:B<=B')(hlt:∀ i,i<n->∀ a,T i=some a->a.block<B')
  (hg:w.grownBy w' (Value.slice ao n cap).ownBlock) (ho:w'.ownsRow B 124 2 (.slice (some ⟨g,0,none⟩) (n+1) cap') (n+1) (chOf D T (fun _=>m) U n ++ [.int .i64 (D n),.slice (some ⟨d,0,none⟩) m u])) (hBd:B'<=d) :
  Chs B w' (some ⟨g,0,none⟩) (n+1) cap' D (put n (some ⟨d,0,none⟩) T) (fun _=>m) (put n u U) H:=by
 have key:∀ {B2:Nat} {x:Option Addr} {c:Nat} {G:Nat->UInt8},OwU B2 w x m c G->OwU B2 w' x m c G:=fun {B2 x c G} hx=>owns_blocks hx fun a ha=>by
  obtain⟨_,k2,cur,k3⟩:=owns_at hx ha;refine hg.block _ k2 fun e=>?_;cases ao with
  | none=>cases e
  | some z =>
   have e2:z.block=a.block:=by simpa [Value.ownBlock] using e.symm
   obtain⟨_,_,cur',k4⟩:=owns_at h.out (a:=z) rfl;rw [e2,k3] at k4;cases k4
 refine⟨?_,fun i hi=>?_,fun i j hij hj a b ha hb=>?_⟩
 ·rw [chOf,put_at,put_at];rw [chOf_congr (D':=D) (T':=T) (L':=fun _=>m) (U':=U) fun i hi=>⟨rfl,put_ne _ _ (by omega),rfl,put_ne _ _ (by omega)⟩];exact ho
 ·by_cases e:i=n
  ·subst e; rw [put_at,put_at]; exact(key hd).mono hB
  ·rw [put_ne _ _ e,put_ne _ _ e]; exact key (h.row i (by omega))
 ·rw [put_ne _ _ (show i ≠ n by omega)] at ha;by_cases e:j=n
  ·subst e;rw [put_at] at hb;cases hb
   have:=hlt i hij a ha;show a.block ≠ d;omega
  ·rw [put_ne _ _ e] at hb; exact h.apart i j hij (by omega) a b ha hb
theorem chs_lt{B:Nat}{w:World}{ao:Option Addr}{n cap:Nat}{D:Nat->Int}{T:Nat->Option Addr}{L U:Nat->Nat}{H:Nat->Nat->UInt8}(h:Chs B w ao n cap D T L U H):∀ i,i<n->∀ a,T i=some a->a.block<w.heap.size:=fun i hi _ ha=>(owns_at (h.row i hi) ha).2.1
theorem bec_cut2{w:World}{b off n cap cp:Nat}{D:Nat->UInt8}(h:Bec w (some ⟨b,off,none⟩) n cap D){p m:Nat}(hp:p+m<=n)(hm:0<m)(hc:cp=cap-p:=by rfl):Bec w (some ⟨b,off+p,none⟩) m cp (fun j=>D (p+j)):=by
 have h1:=bec_cut h hp (by omega);exact⟨h1.rd,(fun e=>by cases e),by have:=h.room; omega⟩
theorem changes_good {K R m q : Nat} {N W : Nat} (h : Par (K : Int) (R : Int) (m : Int) (q : Int) N W 0) (w : World) (ob of on oc : Nat) (O : Nat -> UInt8) (hO : Bec w (some ⟨ob, of, none⟩) on oc O) (o : Nat) (mo : Option Addr) (mn mc : Nat) (M : Nat -> UInt8) (hM : Bec w mo mn mc M) (hon : on = W) (ho : o <= W) (hmn : mn <= W - o) (hWk : W = K * m) (hk : 1 <= K) (hK : K <= 12) (hc1 : 8 <= m) (hc2 : m <= 64) (hW32 : 32 <= W) :
    Calls Tryz.prog 89 #[.agg #[.int .i64 (K : Int), .int .i64 (R : Int), .int .i64 (m : Int), .int .i64 (q : Int)], .slice (some ⟨ob, of, none⟩) on oc, .int .i64 (o : Int), .slice mo mn mc] w (AnsCh w 0 (nCh o mn m) (fun i => ((o / m + i : Nat) : Int)) m (chB O M o mn m)) := by
  obtain ⟨j0, hj, hj0, hj1, hj2⟩ := info_parts info33
  have hWw := h.wide
  have HWI : Hid (∀ u, Calls Tryz.prog 79 #[.agg #[.int .i64 (K : Int), .int .i64 (R : Int), .int .i64 (m : Int), .int .i64 (q : Int)]] u fun e w' => e = .returned (.tuple #[.int .i64 (W : Int), .int .i64 0]) /\ Below u.heap.size u w') := fun u => by
    refine (Width_any h u).mono ?_
    rintro e w' ⟨rfl, hb⟩
    exact ⟨rfl, hb⟩
  have HSP := And.intro trivial (fun u => spans_good h o mn u (by have := mst_ge hW32 hWw; omega) hWk hk hc1 hc2)
  have HSP : Hid _ := HSP
  obtain ⟨w0, hw0⟩ : ∃ w0, w0 = w.alloc (.cells #[.int .i64 (K : Int), .int .i64 (R : Int), .int .i64 (m : Int), .int .i64 (q : Int)] 23) := ⟨_, rfl⟩
  have B0 : Hid (Below w.heap.size w w0) := by show Below _ _ _; rw [hw0]; exact bal _ _
  have HPAR : Hid (∀ v, Below w0.heap.size w0 v -> v.cell? ⟨w.heap.size, 0, none⟩ = some (.int .i64 (K : Int)) /\ v.cell? ⟨w.heap.size, 1, none⟩ = some (.int .i64 (R : Int)) /\ v.cell? ⟨w.heap.size, 2, none⟩ = some (.int .i64 (m : Int)) /\ v.cell? ⟨w.heap.size, 3, none⟩ = some (.int .i64 (q : Int))) := fun v hv => par_held hw0 hv
  have HOB : Hid (∀ v, Below w.heap.size w v -> Bec v (some ⟨ob, of, none⟩) on oc O) := fun v hv => hO.below hv
  have HMB : Hid (∀ v, Below w.heap.size w v -> Bec v mo mn mc M) := fun v hv => hM.below hv
  have HON : Hid (on = K * m) := by show _ = _; rw [hon]; exact hWk
  have HOC : Hid (on <= oc) := hO.room
  have HMR : Hid (mn <= mc) := hM.room
  have HW : Hid (o + mn <= K * m /\ W = K * m) := by refine ⟨?_, hWk⟩; rw [<- hWk]; omega
  subst hon
  have q1 : ((on : Int) != (on : Int)) = false := by simp
  have q2 : (0 : Int) <= (o : Int) := by omega
  have q3 : (o : Int) <= (on : Int) := by omega
  have q4 : (mn : Int) <= (on : Int) - (o : Int) := by omega
  have q5 : decide ((o : Int) < 0) = false := decide_eq_false (by omega)
  have q6 : decide ((on : Int) - (o : Int) < (mn : Int)) = false := decide_eq_false (by omega)
  clear hO hM h hWk
  go_enter Tryz.func89, Tryz.ntmps89
  go_wp2_with fail
  rw [<- hw0]
  clear hw0
  refine (HWI.out _).mono ?_
  rintro e wa ⟨rfl, ha⟩
  obtain ⟨s0, s1, s2, s3⟩ := HPAR.out wa ha
  have HA : Hid (Below w0.heap.size w0 wa) := ha
  clear ha HWI
  go_wp2_with fail
  refine (HSP.out.2 _).mono ?_
  rintro e wb ⟨n, so, sc, rfl, hend, hsp, hb⟩
  have HB : Hid (Below w0.heap.size w0 wb) := bth HA.out hb
  have HSPN : Hid (wb.ownsRow wa.heap.size 194 4 (.slice so n sc) n (spOf (stp o m K) (cel o m K) (frm o m) (til o (o + mn) m) n)) := hsp
  have HEND : Hid (End o (o + mn) m n) := hend
  have HNN : Hid (n = nCh o mn m) := end_nCh hend
  have hn16 : n <= 1000 := by have := end_le (show 0 < m by omega) hend; omega
  clear hend hsp hb s0 s1 s2 s3 HA HSP
  go_wp2_with fail
  go_loopw [3, 14, 57] (fun s l y wr => ∃ i : Nat, i <= n /\ y = .int .i64 (i : Int) /\ ∃ no nc ao cap T U, s = .slice no (mn - (pos o (o + mn) m i - o)) nc /\ l = .slice ao i cap /\ Hid (Bec wb no (mn - (pos o (o + mn) m i - o)) nc (fun j => M (pos o (o + mn) m i - o + j))) /\ Hid (Chs wb.heap.size wr ao i cap (fun i => ((o / m + i : Nat) : Int)) T (fun _ => m) U (chB O M o mn m)) /\ Hid (Below wb.heap.size wb wr)) (fun _ _ y _ => n - (intOf y).toNat)
  case atStart =>
    have e0 : pos o (o + mn) m 0 = o := if_pos rfl
    exact ⟨0, Nat.zero_le _, rfl, mo, mc, none, 0, fun _ => none, fun _ => 0, by rw [e0, Nat.sub_self, Nat.sub_zero], rfl, by rw [e0, Nat.sub_self, Nat.sub_zero]; exact (HMB.out wb (bth B0.out HB.out)).congr fun j _ => by rw [Nat.zero_add], chs_nil _ _ _ _ _ _ _, Below.refl _ _⟩
  case round =>
    obtain ⟨i, hi, rfl, no, nc, ao, cap, T, U, rfl, rfl, hnow, hchs, hbel⟩ := hrel
    by_cases hlt : i < n
    · have hm0 : 0 < m := by omega
      have hpp := end_pos HEND.out hlt
      obtain ⟨gs, rfl, hsc, hcs⟩ := spOf_cells HSPN.out (by omega)
      obtain ⟨d0, d1, d2, d3⟩ := hcs i hlt
      have hci : o / m + i < K := ch_lt hm0 hpp HW.out.1
      have hcel : cel o m K i = o / m + i := Nat.mod_eq_of_lt hci
      have hft := til_gt hm0 hpp
      have htm := til_le o (o + mn) m i
      have hpg := pos_ge hm0 hpp
      have hps := pos_til hm0 hpp
      have hpl := pos_le (c := m) (i := i + 1) (show o <= o + mn by omega)
      have hby := fun j => ch_byte (O := O) (M := M) hm0 hpp (j := j)
      rw [hcel] at d1
      have e0 : wr.cell? ⟨gs, i * 4, none⟩ = some (.int .i64 ((stp o m K i : Nat) : Int)) := held d0 hbel.out
      have e1 : wr.cell? ⟨gs, i * 4 + 1, none⟩ = some (.int .i64 ((o / m + i : Nat) : Int)) := held d1 hbel.out
      have e2 : wr.cell? ⟨gs, i * 4 + 2, none⟩ = some (.int .i64 ((frm o m i : Nat) : Int)) := held d2 hbel.out
      have e3 : wr.cell? ⟨gs, i * 4 + 3, none⟩ = some (.int .i64 ((til o (o + mn) m i : Nat) : Int)) := held d3 hbel.out
      have i1 : (0 : Int) <= (i : Int) := by omega
      have i2 : (i : Int) < (n : Int) := by omega
      clear d0 d1 d2 d3 hcs hcel
      have HBY : Hid (∀ j, j < m -> upR (fun b => O ((o / m + i) * m + b)) (frm o m i) (til o (o + mn) m i - frm o m i) (fun b => M (pos o (o + mn) m i - o + b)) j = chB O M o mn m i j) := hby
      clear hby
      have HPS : Hid (pos o (o + mn) m (i + 1) - o = pos o (o + mn) m i - o + (til o (o + mn) m i - frm o m i)) := by show _ = _; omega
      obtain ⟨ci, hci2⟩ : ∃ ci, ci = o / m + i := ⟨_, rfl⟩
      obtain ⟨f, hf⟩ : ∃ f, f = frm o m i := ⟨_, rfl⟩
      obtain ⟨t, ht⟩ : ∃ t, t = til o (o + mn) m i := ⟨_, rfl⟩
      obtain ⟨p, hp⟩ : ∃ p, p = pos o (o + mn) m i - o := ⟨_, rfl⟩
      obtain ⟨st, hst⟩ : ∃ st, st = stp o m K i := ⟨_, rfl⟩
      obtain ⟨p', hp'⟩ : ∃ p', p' = pos o (o + mn) m (i + 1) - o := ⟨_, rfl⟩
      have hr1 : t - f <= mn - p := by omega
      have hr2 : mn - p - (t - f) = mn - p' := by omega
      have hr3 : p' = p + (t - f) := by rw [hp', hp, hf, ht]; exact HPS.out
      have hfl : f < t := by omega
      have htl : t <= m := by omega
      rw [<- hci2] at e1 hci
      rw [<- hf] at e2
      rw [<- ht] at e3
      rw [<- hst] at e0
      rw [<- hci2, <- hf, <- ht, <- hp] at HBY
      rw [<- hp] at hnow ⊢
      have HP' : Hid (pos o (o + mn) m (i + 1) - o = p') := hp'.symm
      have HCI : Hid (((o / m + i : Nat) : Int) = (ci : Int)) := by show _ = _; rw [hci2]
      obtain ⟨wc, hwc⟩ : ∃ wc, wc = wr.alloc (.cells #[.int .i64 (st : Int), .int .i64 (ci : Int), .int .i64 (f : Int), .int .i64 (t : Int)] 194) := ⟨_, rfl⟩
      have HBR : Hid (Below wb.heap.size wb wr) := hbel.out
      have HC : Hid (Below wb.heap.size wb wc) := by show Below _ _ _; rw [hwc]; exact bth hbel.out (bal _ _)
      have HCC : Hid (∀ v, Below wc.heap.size wc v -> v.cell? ⟨wr.heap.size, 0, none⟩ = some (.int .i64 (st : Int)) /\ v.cell? ⟨wr.heap.size, 1, none⟩ = some (.int .i64 (ci : Int)) /\ v.cell? ⟨wr.heap.size, 2, none⟩ = some (.int .i64 (f : Int)) /\ v.cell? ⟨wr.heap.size, 3, none⟩ = some (.int .i64 (t : Int))) := fun v hv => par_held hwc hv
      have bc : Below wr.heap.size wr wc := by rw [hwc]; exact bal _ _
      have HCH : Hid (Chs wb.heap.size wc ao i cap (fun i => ((o / m + i : Nat) : Int)) T (fun _ => m) U (chB O M o mn m)) := hchs.out.below bc
      have HNO : Hid (Bec wb no (mn - p) nc (fun j => M (p + j))) := hnow.out
      have HSR : Hid (wr.heap.size < wc.heap.size) := by show _ < _; rw [hwc]; simp
      clear hci2 hf ht hp hst hp' HPS hpp hpg hps hpl hft htm hchs hnow bc hbel
      have aa := HPAR.out wr (bth HB.out HBR.out)
      have a0 := fun o => held aa.1 (bal wr o)
      have a1 := fun o => held aa.2.1 (bal wr o)
      have a2 := fun o => held aa.2.2.1 (bal wr o)
      have a3 := fun o => held aa.2.2.2 (bal wr o)
      clear aa
      go_wp2_with fail
      rw [<- hwc]
      clear hwc a0 a1 a2 a3 e0 e1 e2 e3
      refine (ucut_any (K := K) (m := m) (R : Int) (q : Int) wc ob of on oc ci hci hK hc2 HON.out HOC.out (by omega)).mono ?_
      rintro e wd ⟨rfl, hd⟩
      have hcut : Bec wd (some ⟨ob, of + ci * m, none⟩) m (oc - ci * m) (fun j => O (ci * m + j)) := bec_cut2 (HOB.out wd (bth B0.out (bth HB.out (bth HC.out hd)))) (by rw [HON.out, <- Nat.succ_mul]; exact Nat.mul_le_mul_right m hci) (by omega)
      have HCD : Hid (Below wc.heap.size wc wd) := hd
      go_wp2_with fail
      refine (bclone_any wd ob (of + ci * m) m (oc - ci * m) _ hcut (by omega) (by omega)).mono ?_
      rintro e we ⟨g, u, rfl, hg, he⟩
      have HCE : Hid (Below wc.heap.size wc we) := bth HCD.out he
      have hno2 := HNO.out.below (bth HC.out HCE.out)
      obtain ⟨wf, hrun, hof, honly⟩ := run_copy_ow (off := f) (k := t - f) (dC := u - f) hg hno2 (by omega) hr1 (by omega)
      have hgu : m <= u := hg.bec.room
      obtain ⟨_, c1, c2, c3⟩ := HCC.out we HCE.out
      have hgd : wd.heap.size <= g /\ g < we.heap.size := by obtain ⟨g', e', k1, k2⟩ := hg.at_ (by omega); cases e'; exact ⟨k1, k2⟩
      have HWF : Hid (Below wb.heap.size wb wf) := by
        show Below _ _ _
        have hs1 := HC.out.size
        have hs2 := HCD.out.size
        exact (bth HC.out HCE.out).trans (honly.below (fun _ e => by rw [e]; omega) (Nat.le_trans hs1 HCE.out.size))
      have bcf : Below wc.heap.size wc wf := HCE.out.trans (honly.below (fun _ e => by rw [e]; have := HCD.out.size; omega) HCE.out.size)
      have HCH2 : Hid (Chs wb.heap.size wf ao i cap (fun i => ((o / m + i : Nat) : Int)) T (fun _ => m) U (chB O M o mn m)) := HCH.out.below bcf
      have HOF : Hid (OwU wd.heap.size wf (some ⟨g, 0, none⟩) m u (chB O M o mn m i)) := hof.congr HBY.out
      have HLT : Hid (∀ i', i' < i -> ∀ a, T i' = some a -> a.block < wd.heap.size) := fun i' hi' a ha => Nat.lt_of_lt_of_le (chs_lt HCH.out i' hi' a ha) HCD.out.size
      have HGD : Hid (wd.heap.size <= g /\ wb.heap.size <= wd.heap.size) := ⟨hgd.1, Nat.le_trans HC.out.size HCD.out.size⟩
      obtain ⟨f0, f1, f2, f3⟩ := HCC.out wf bcf
      have i3 : (0 : Int) <= (f : Int) := by omega
      have i4 : (f : Int) <= (t : Int) := by omega
      have i5 : (t : Int) <= (u : Int) := by omega
      clear hcut hd he hno2 hg hof honly hgd bcf HBY
      obtain ⟨xs, hxs⟩ : ∃ xs, xs = chOf (fun i => ((o / m + i : Nat) : Int)) T (fun _ => m) U i := ⟨_, rfl⟩
      have HXO : Hid (wf.ownsRow wb.heap.size 124 2 (.slice ao i cap) i xs) := by show World.ownsRow _ _ _ _ _ _ _; rw [hxs]; exact HCH2.out.out
      have HXS : Hid (xs = chOf (fun i => ((o / m + i : Nat) : Int)) T (fun _ => m) U i) := hxs
      obtain ⟨nb, nf, rfl⟩ : ∃ nb nf, no = some ⟨nb, nf, none⟩ := by obtain ⟨nb, nf, e, _⟩ := HNO.out.rd (by omega); exact ⟨nb, nf, e⟩
      have hnr : mn - p <= nc := HNO.out.room
      have HNEW : Hid ((nc = t - f -> Bec wb (some ⟨nb, nf, none⟩) (mn - p') 0 (fun j => M (p' + j))) /\ (¬ nc = t - f -> Bec wb (some ⟨nb, nf + (t - f), none⟩) (mn - p') (nc - (t - f)) (fun j => M (p' + j)))) := by
        refine ⟨fun e => ?_, fun _ => ?_⟩
        · rw [show mn - p' = 0 by omega]
          exact ⟨fun h => absurd h (by omega), (fun e => by cases e), Nat.le_refl _⟩
        · refine ⟨fun hp => ⟨nb, nf + (t - f), rfl, fun j hj => ?_⟩, (fun e => by cases e), by omega⟩
          obtain ⟨b', f', e', hc⟩ := HNO.out.rd (by omega)
          cases e'
          have := hc (t - f + j) (by omega)
          rw [Nat.add_assoc, show p' + j = p + (t - f + j) by omega]
          exact this
      have HR3 : Hid (mn - (p + (t - f)) = mn - p') := by show _ = _; rw [hr3]
      have hi1000 : i <= 1000 := by omega
      clear hxs
      have ARM : Hid (∀ {w5 : World} {g5 cap5 : Nat}, w5.ownsRow wb.heap.size 124 2 (.slice (some ⟨g5, 0, none⟩) (i + 1) cap5) (i + 1) (xs ++ [.int .i64 (ci : Int), .slice (some ⟨g, 0, none⟩) m u]) -> (wf.alloc (.cells #[.int .i64 (ci : Int), .slice (some ⟨g, 0, none⟩) m u] 124)).grownBy w5 (Value.slice ao i cap).ownBlock -> Chs wb.heap.size w5 (some ⟨g5, 0, none⟩) (i + 1) cap5 (fun i => ((o / m + i : Nat) : Int)) (put i (some ⟨g, 0, none⟩) T) (fun _ => m) (put i u U) (chB O M o mn m) /\ Below wb.heap.size wb w5) := by
        intro w5 g5 cap5 hown5 hgrow5
        rw [HXS.out, <- HCI.out] at hown5
        exact ⟨(HCH2.out.below (bal _ _)).push (HOF.out.below (bal _ _)) HGD.out.2 HLT.out hgrow5 hown5 HGD.out.1, (bth HWF.out (bal _ _)).grown hgrow5 (by have := HWF.out.size; simp; omega) (fun r hr => (HCH2.out.out.lt r hr).1)⟩
      by_cases hcap : nc = t - f
      · subst hcap
        go_wp2_with (at_builtin; refine wpList_append_lies _ (by rfl) (.tmp 77) (.tmp 82) 50 (by rfl) wb.heap.size 124 j0 (.agg #[.int .i64 0, .slice none 0 0]) 2 32 Tryz.underlying50 hj hj0 hj1 hj2 (by rfl) (by decide) (.slice ao i cap) i xs (by rfl) (owns_below HXO.out (bal _ _)) ⟨wf.heap.size, 0, none⟩ 1 1 [.int .i64 (ci : Int), .slice (some ⟨g, 0, none⟩) m u] (by simp [Act.eval]) (by rfl) (World.news_of_block (heap_alloc_new wf _)) (by simp [Value.oneCell']) (by decide) (by unfold maxLen; omega) (by omega) (by have := HWF.out.size; simp; omega) (wf.heap.size + 1) (by simp) ?_; intro g5 cap5 w5 hown5 hgrow5 _ _
                     have HO5 : Hid _ := And.intro trivial (ARM.out hown5 hgrow5)
                     clear hown5 hgrow5)
        go_roundw
        case rel => exact ⟨i + 1, by omega, by go_num, some ⟨nb, nf, none⟩, 0, _, cap5, _, _, by rw [HP'.out, HR3.out], rfl, by rw [HP'.out]; exact HNEW.out.1 (by trivial), HO5.out.2.1, HO5.out.2.2⟩
        case measure => simp [intOf]; omega
      · go_wp2_with (at_builtin; refine wpList_append_lies _ (by rfl) (.tmp 77) (.tmp 82) 50 (by rfl) wb.heap.size 124 j0 (.agg #[.int .i64 0, .slice none 0 0]) 2 32 Tryz.underlying50 hj hj0 hj1 hj2 (by rfl) (by decide) (.slice ao i cap) i xs (by rfl) (owns_below HXO.out (bal _ _)) ⟨wf.heap.size, 0, none⟩ 1 1 [.int .i64 (ci : Int), .slice (some ⟨g, 0, none⟩) m u] (by simp [Act.eval]) (by rfl) (World.news_of_block (heap_alloc_new wf _)) (by simp [Value.oneCell']) (by decide) (by unfold maxLen; omega) (by omega) (by have := HWF.out.size; simp; omega) (wf.heap.size + 1) (by simp) ?_; intro g5 cap5 w5 hown5 hgrow5 _ _
                     have HO5 : Hid _ := And.intro trivial (ARM.out hown5 hgrow5)
                     clear hown5 hgrow5)
        go_roundw
        case rel => exact ⟨i + 1, by omega, by go_num, some ⟨nb, nf + (t - f), none⟩, nc - (t - f), _, cap5, _, _, by rw [HP'.out, HR3.out], rfl, by rw [HP'.out]; exact HNEW.out.2 hcap, HO5.out.2.1, HO5.out.2.2⟩
        case measure => simp [intOf]; omega
    · obtain rfl : i = n := by omega
      have HL : Hid (lenE 0 (nCh o mn m) = i) := by show _ = _; rw [HNN.out]; exact if_pos rfl
      go_wp2_with fail
      go_ret2
      refine ⟨ao, cap, T, U, ?_, ?_, bth B0.out (bth HB.out hbel.out)⟩
      · rw [HL.out]; rfl
      · rw [HL.out]; exact hchs.out.mono (Nat.le_trans B0.out.size HB.out.size)
theorem Par.nums4{k r c q:Int}{N W:Nat}(h:Par k r c q N W 0):∃ K R m Q:Nat,k=(K:Int)/\r=(R:Int)/\c=(m:Int)/\q=(Q:Int)/\1<=K/\K<=12/\R<=4/\8<=m/\m<=64/\W=K*m/\N=K+R/\32<=W/\8<=Q/\Q<=256:=by
 rcases h with ⟨hm,hW,hN,_⟩ | ⟨_,_,_,h0⟩
 ·obtain⟨h1,h2,h3,h4,h5,h6,h7,h8,h9⟩:=may_true hm;obtain⟨K,rfl⟩:=Int.eq_ofNat_of_zero_le (show 0<=k by omega);obtain⟨R,rfl⟩:=Int.eq_ofNat_of_zero_le h3;obtain⟨m,rfl⟩:=Int.eq_ofNat_of_zero_le (show 0<=c by omega);obtain⟨Q,rfl⟩:=Int.eq_ofNat_of_zero_le (show 0<=q by omega);rw [<- Int.natCast_mul] at hW h7;exact⟨K,R,m,Q,rfl,rfl,rfl,rfl,by omega,by omega,by omega,by omega,by omega,by omega,by omega,by omega,by omega,by omega⟩
 ·exact absurd h0 (by decide)
theorem erCh_zero{x:Int}{W on:Nat}{a:Int}{nn:Nat}(h:erCh x W on a nn=0):x=0/\on=W/\(0<=a/\a<=(W:Int))/\(nn:Int)<=(W:Int)-a:=by
 unfold erCh at h;by_cases e:x=0
 ·rw [if_pos e] at h;by_cases e1:on=W
  ·rw [if_pos e1] at h;by_cases e2:0<=a/\a<=(W:Int)
   ·rw [if_pos e2] at h;by_cases e3:(nn:Int)<=(W:Int)-a
    ·exact⟨e,e1,e2,e3⟩
    ·rw [if_neg e3] at h; exact absurd h (by decide)
   ·rw [if_neg e2] at h; exact absurd h (by decide)
  ·rw [if_neg e1] at h; exact absurd h (by decide)
 ·rw [if_neg e] at h; exact absurd h e
theorem Changes_any{k r c q:Int}{N W:Nat}{x:Int}(h:Par k r c q N W x)(w:World)(oo:Option Addr)(on oc:Nat)(O:Nat->UInt8)(hO:Bec w oo on oc O)(a:Int)(mo:Option Addr)(mn mc:Nat)(M:Nat->UInt8)(hM:Bec w mo mn mc M)(E:Int)(hE:erCh x W on a mn=E):
  Calls Tryz.prog 89 #[.agg #[.int .i64 k,.int .i64 r,.int .i64 c,.int .i64 q],.slice oo on oc,.int .i64 a,.slice mo mn mc] w (AnsCh w E (nCh a.toNat mn c.toNat) (fun i=>((a.toNat / c.toNat+i:Nat):Int)) c.toNat (chB O M a.toNat mn c.toNat)):=by
 by_cases h0:E=0
 ·subst h0;obtain⟨rfl,hon,ha,hmn⟩:=erCh_zero hE;obtain⟨K,R,m,Q,rfl,rfl,rfl,rfl,k1,k2,r1,m1,m2,hW,hN,hW32,_,_⟩:=h.nums4;obtain⟨o,rfl⟩:=Int.eq_ofNat_of_zero_le ha.1;obtain⟨ob,of,rfl,_⟩:=hO.rd (by omega);rw [Int.toNat_natCast,Int.toNat_natCast];exact changes_good h w ob of on oc O hO o mo mn mc M hM hon (by omega) (by omega) hW k1 k2 m1 m2 hW32
 ·refine(changes_bad h w oo on oc a mo mn mc E hE h0).mono ?_;rintro e w' ⟨rfl,hb⟩;exact ans_none h0 hb
end Go.Proofs.YtemlojjkokooeaaGreat
