import Derived.Test.YtemlojjkokooeaaGreatTm19
open Go renaming World->J,Addr->U,Calls->y,Value->q
open Option renaming none->O,some->Q
open Go.Value renaming slice->I,int->Y,tuple->W
open Nat renaming le_refl->Z,zero_le->G
open Go.Proofs.Tryz renaming prog->X
open Go.IntKind renaming i64->D,u8->V
open Go.RowKit renaming Hid->T,Below->R
open Go.Ending renaming returned->S
open Bool renaming false->z
open Go.RowKit.Below renaming refl->x
set_option maxHeartbeats 16000000
set_option maxRecDepth 100000
namespace Go.Proofs.YtemlojjkokooeaaGreat.Cod.Ker
open Go.RowKit
def Rd (w:J) (ao:Option U) (n:Nat) (f:Nat->Nat):Prop :=
  (∀ i,f i<256)/\(0<n->∃ b off,ao=Q ⟨b,off,O⟩/\∀ i,i<n->w.cell? ⟨b,off+i,O⟩=Q (.int .u8 (f i:Int)))
def Own (w:J) (g n:Nat) (f:Nat->Nat):Prop:=(∀ i,f i<256)/\w.rowIs g 5 n (fun i=>.int .u8 (f i:Int))
def Off (ao:Option U) (g:Nat):Prop:=∀ a,ao=Q a->a.block ≠ g
structure Only (g:Nat) (w w':World):Prop where
  os:w'.os=w.os
  tape:w'.tape=w.tape
  output:w'.output=w.output
  size:w.heap.size<=w'.heap.size
  block:∀ k,k<w.heap.size->k ≠ g->w'.heap[k]? = w.heap[k]?
theorem Only.refl(g:Nat)(w:J):Only g w w:=⟨rfl,rfl,rfl,Z _,fun _ _ _=>rfl⟩
theorem Only.trans{g:Nat}{a b c:J}(h:Only g a b)(k:Only g b c):Only g a c :=
 ⟨k.os.trans h.os,k.tape.trans h.tape,k.output.trans h.output,Nat.le_trans h.size k.size,fun i hi hg=>(k.block i (Nat.lt_of_lt_of_le hi h.size) hg).trans (h.block i hi hg)⟩
theorem Only.drew{g:Nat}{a w:J}(h:Only g a w):Only g a w.drew:=⟨h.os,h.tape,h.output,h.size,h.block⟩
theorem Only.alloc{g:Nat}{a w:J}(h:Only g a w)(o:Obj):Only g a (w.alloc o) :=
 h.trans ⟨rfl,rfl,rfl,zi,fun k hk _=>Below.heap_alloc _ _ _ hk⟩
theorem Only.setCell{g:Nat}{a w:J}(h:Only g a w)(i:Nat)(u:q):Only g a (w.setCell ⟨g,i,O⟩ u) :=
 h.trans ⟨rfl,rfl,rfl,by simp [World.setCell],fun k _ hg=>Below.heap_setCell _ _ _ _ (by simpa using hg)⟩
theorem Only.below{B g:Nat}{w w':J}(h:Only g w w')(hB:B<=w.heap.size)(hg:B<=g):R B w w' :=
 ⟨h.os,h.tape,h.output,h.size,fun k hk=>h.block k za za⟩
theorem Only.cell{g:Nat}{w w':J}(h:Only g w w'){a:U}{v:q}(hc:w.cell? a=Q v)(ha:a.block ≠ g):w'.cell? a=Q v :=
 (World.cell?_of_block (h.block a.block (World.block_lt_of_cell? w a hc) ha)).trans hc
theorem ag{B:Nat}{a b c:J}(h:R B a b)(k:b7 b c)(hB:B<=b.heap.size):R B a c:=h.trans (k.mono hB)
theorem Rd.only{g:Nat}{w w':J}{ao:Option U}{n:Nat}{f:Nat->Nat}(h:Rd w ao n f)(ho:Only g w w')(hg:0<n->Off ao g):Rd w' ao n f:=by
 refine⟨h.1,fun hn=>?_⟩;obtain⟨b,off,rfl,hc⟩:=h.2 hn;exact⟨b,off,rfl,fun i hi=>ho.cell (hc i hi) (hg hn ⟨b,off,O⟩ rfl)⟩
theorem Rd.below{w w':J}{ao:Option U}{n:Nat}{f:Nat->Nat}(h:Rd w ao n f)(ho:b7 w w'):Rd w' ao n f:=by
 refine⟨h.1,fun hn=>?_⟩;obtain⟨b,off,rfl,hc⟩:=h.2 hn;exact⟨b,off,rfl,fun i hi=>(ho.cell (World.block_lt_of_cell? w _ (hc i hi))).trans (hc i hi)⟩
theorem Rd.lt{w:J}{ao:Option U}{n:Nat}{f:Nat->Nat}(h:Rd w ao n f)(hn:0<n):∀ a,ao=Q a->a.block<w.heap.size:=by
 obtain⟨b,off,rfl,hc⟩:=h.2 hn;rintro a ⟨⟩;exact World.block_lt_of_cell? w _ (hc 0 hn)
theorem Rd.off{w:J}{ao:Option U}{n g:Nat}{f:Nat->Nat}(h:Rd w ao n f)(hg:w.heap.size<=g)(hn:0<n):Off ao g:=fun a ha=>by have:=h.lt hn a ha;omega
theorem Own.rd{w:J}{g n:Nat}{f:Nat->Nat}(h:Own w g n f):Rd w (Q ⟨g,0,O⟩) n f :=
 ⟨h.1,fun _=>⟨g,0,rfl,fun i hi=>by rw [Nat.zero_add];exact h.2.cell hi⟩⟩
theorem Own.lt{w:J}{g n:Nat}{f:Nat->Nat}(h:Own w g n f):g<w.heap.size:=h.2.lt
theorem Own.congr{w:J}{g n:Nat}{f h:Nat->Nat}(r:Own w g n f)(hb:∀ i,h i<256)(e:∀ i,i<n->f i=h i):Own w g n h :=
 ⟨hb,r.2.congr fun i hi=>by rw [e i hi]⟩
def upto (k:Nat) (f h:Nat->Nat) (i:Nat):Nat:=if i<k then f i else h i
theorem bR(f h:Nat->Nat):upto 0 f h=h:=by funext i;simp [upto]
theorem fI(k:Nat)(f h:Nat->Nat):upto k f h k=h k:=by simp [upto]
theorem eI(k:Nat)(f h:Nat->Nat)(i:Nat):upto (k+1) f h i=if i=k then f k else upto k f h i:=by
 unfold upto;by_cases h1:i=k
 ·subst h1;simp
 ·rw [zl h1];by_cases h2:i<k
  ·rw [zk za,zk h2]
  ·rw [zl za,zl h2]
theorem Own.store{w:J}{g n k:Nat}{f h:Nat->Nat}(hf:∀ i,f i<256)(r:Own w g n (upto k f h)):Own (w.setCell ⟨g,k,O⟩ (Y V (f k:Int))) g n (upto (k+1) f h):=by
 refine⟨fun i=>?_,(r.2.set k _).congr fun i hi=>?_⟩
 ·rw [eI];split;exact hf k;exact r.1 i
 ·rw [eI];split <;> rfl
theorem Own.all{w:J}{g n:Nat}{f h:Nat->Nat}(hf:∀ i,f i<256)(r:Own w g n (upto n f h)):Own w g n f:=r.congr hf fun i hi=>by simp [upto,hi]
def plus (f:Nat->Nat) (c:Nat) (h:Nat->Nat) (i:Nat):Nat:=Gf.add (f i) (Gf.mul c (h i))
theorem fD(f:Nat->Nat)(c:Nat)(h:Nat->Nat)(hf:∀ i,f i<256)(hc:c<256)(i:Nat):plus f c h i<256:=Gf.add_lt _ _ (hf i) (Gf.mul_lt _ _ hc)
def tot (F:Nat->Nat) (H:Nat->Nat->Nat):Nat->Nat->Nat
  | 0=>fun _=>0
  | k+1=>plus (tot F H k) (F k) (H k)
theorem eF(F:Nat->Nat)(H:Nat->Nat->Nat)(hF:∀ i,F i<256)(k i:Nat):tot F H k i<256:=by
 induction k generalizing i with
 | zero=>show 0<256;decide
 | succ k ih=>exact fD _ _ _ ih (hF k) i
theorem cR{p:Nat->Prop}(j:Nat)(h:¬ p j):∃ k,k<=j/\¬ p k/\∀ i,i<k->p i:=by
 induction j using Nat.strongRecOn with
 | _ j ih =>
  by_cases g:∀ i,i<j->p i
  ·exact⟨j,Z _,h,g⟩
  ·obtain⟨i,hi⟩:=Classical.not_forall.1 g;obtain⟨L6,PH⟩:=Classical.not_imp.1 hi;obtain⟨k,hk,h1,h2⟩:=ih i L6 PH;exact⟨k,za,h1,h2⟩
theorem Dd{w:J}{B g:Nat}{o:Obj}(h:w.heap[B]? = Q o)(hB:¬ B=g)(v:q)(j:Nat):(w.setCell ⟨g,j,O⟩ v).drew.heap[B]? = Q o:=by
 rw [<- h];exact Below.heap_setCell w ⟨g,j,O⟩ v B hB
theorem rS(w:J)(g n:Nat)(f h:Nat->Nat)(c:Nat)(ao:Option U)(cp:Nat)(hn:n<=65536)(hc:c<256)(ho:Own w g n f)(hr:Rd w ao n h)(hg:0<n->Off ao g):
  y X 339 #[I (Q ⟨g,0,O⟩) n n,.agg #[Y V (c:Int),I ao n cp]] w fun e w'=>e=S (W #[])/\Own w' g n (plus f c h)/\Only g w w':=by
 have HO:=am ho;have HR:=am hr;have HG:=am hg;have Vc:g<w.heap.size:=ho.lt;clear ho hr hg;go_enter Tryz.func339,Tryz.ntmps339
 go_wp2;go_loopw [7] (fun i wr=>∃ k:Nat,k<=n/\i=Y D k/\T (Own wr g n (upto k (plus f c h) f))/\T (wr.heap[w.heap.size]? = Q (.cells #[Y V (c:Int),I ao n cp] 364 (0,0)))/\T (Only g w wr)) (fun i _=>n-(intOf i).toNat)
 case atStart=>exact⟨0,G _,rfl,by rw [bR];exact⟨HO.out.1,HO.out.2.alloc _⟩,heap_alloc_new w _,(Only.refl g w).alloc _⟩
 case round =>
  obtain⟨k,hk,rfl,em,xQ,ki⟩:=hrel;by_cases hlt:k<n
  ·obtain⟨b,off,rfl,ld⟩:=HR.out.2 za;have Sy:¬ b=g:=HG.out za ⟨b,off,O⟩ rfl;have jV:¬ g=b:=fun e=>Sy e.symm;have KR:¬ w.heap.size=g:=za
   have NR:¬ g=w.heap.size:=za;have Sz:f k<256:=HO.out.1 k;have SC:h k<256:=HR.out.1 k;have c1:wr.cell? ⟨g,k,O⟩=Q (Y V (f k:Int)):=by have:=em.out.2.cell hlt;rwa [fI] at this
   have z1:wr.frozen? ⟨g,k,O⟩=z:=em.out.2.frozen k;have c2:wr.cell? ⟨w.heap.size,0,O⟩=Q (Y V (c:Int)):=by simp [World.cell?,xQ.out]
   have c3:wr.cell? ⟨w.heap.size,1,O⟩=Q (I (Q ⟨b,off,O⟩) n cp):=by simp [World.cell?,xQ.out]
   have c4:wr.cell? ⟨b,off+k,O⟩=Q (Y V (h k:Int)):=ki.out.cell (ld k hlt) Sy;clear ld;have i1:(0:Int)<=(k:Int):=za;have i2:(k:Int)<(n:Int):=za;go_wp2;refine wp_region_still_tail 16 zh zh ?_;simp only [List.take_succ_cons,List.take_zero,List.drop_succ_cons,List.drop_zero]
   repeat still_step
   still_call (Dx _ _ _ za za)
   still_call (Dw _ _ _ za (Gf.mul_lt _ _ za))
   repeat still_step
   refine wpStill_nil ?_;go_wp2;go_roundw
   case rel=>exact⟨k+1,za,by go_num,(em.out.store (fD f c h HO.out.1 hc):Own (wr.setCell ⟨g,k,O⟩ (Y V ((plus f c h k:Nat):Int))) g n (upto (k+1) (plus f c h) f)),Dd xQ.out KR _ _,(ki.out.setCell k _).drew⟩
   case measure=>simp [intOf];omega
  ·obtain rfl:k=n:=za;go_wp2;go_end0
   exact⟨rfl,em.out.all (fD f c h HO.out.1 hc),ki.out⟩
structure Terms (w:World) (B m:Nat) (F:Nat->Nat) (A:Nat->Option Addr) (C L:Nat->Nat) (H:Nat->Nat->Nat):Prop where
  lt:B<w.heap.size
  num:∀ i,F i<256
  rd:∀ i,i<m->Rd w (A i) (L i) (H i)
  factor:∀ i,i<m->w.cell? ⟨B,i*2,none⟩=some (.int .u8 (F i:Int))
  bytes:∀ i,i<m->w.cell? ⟨B,i*2+1,none⟩=some (.slice (A i) (L i) (C i))
theorem CL(w:J)(B m cp n:Nat)(F:Nat->Nat)(A:Nat->Option U)(C L:Nat->Nat)(H:Nat->Nat->Nat)(t:Terms w B m F A C L H)
  (hm:m<=100) (hn:n<=65536) (hL:∀ i,i<m->L i=n) (h0:m=0->n=0) :
  y X 338 #[I (Q ⟨B,0,O⟩) m cp] w fun e w'=>e=S (W #[Y D (n:Int),Y D 0])/\w'=w:=by
 by_cases hz:m=0
 ·obtain rfl:=hz;obtain rfl:=h0 rfl;go_enter Tryz.func338,Tryz.ntmps338
  go_wp2;go_ret2;exact⟨rfl,rfl⟩
 ·have c0:w.cell? ⟨B,1,O⟩=Q (I (A 0) n (C 0)):=by have:=t.bytes 0 za;rwa [hL 0 za] at this
  have HT:T (∀ i,i<m->w.cell? ⟨B,i*2+1,O⟩=Q (I (A i) n (C i))):=fun i hi=>by have:=t.bytes i hi;rwa [hL i hi] at this
  have RW:((m:Int) == 0)=z:=by simpa using hz
  clear t hL h0;go_enter Tryz.func338,Tryz.ntmps338
  go_wp2;go_loop [18] (fun i=>∃ k:Nat,k<=m/\i=Y D k) (fun i=>m-(intOf i).toNat)
  case atStart=>exact⟨0,G _,rfl⟩
  case round =>
   obtain⟨k,hk,rfl⟩:=hrel;by_cases hlt:k<m
   ·have ck:=HT.out k hlt;go_wp2;go_round
    case rel=>exact⟨k+1,za,by go_num⟩
    case measure=>simp [intOf];omega
   ·go_wp2;go_ret2;exact⟨rfl,rfl⟩
theorem Bm(w:J)(B m cp:Nat)(F:Nat->Nat)(A:Nat->Option U)(C L:Nat->Nat)(H:Nat->Nat->Nat)(t:Terms w B m F A C L H)
  (hm:m<=100) (h0:0<m) (hL:65536<L 0\/∃ j,j<m/\L j ≠ L 0) :
  y X 338 #[I (Q ⟨B,0,O⟩) m cp] w fun e w'=>e=S (W #[Y D 0,Y D 20])/\w'=w:=by
 have c0:w.cell? ⟨B,1,O⟩=Q (I (A 0) (L 0) (C 0)):=by have:=t.bytes 0 za;exact this
 have RW:((m:Int) == 0)=z:=zj;by_cases hz:65536<L 0
 ·clear t hL;go_enter Tryz.func338,Tryz.ntmps338
  go_wp2;go_ret2;exact⟨rfl,rfl⟩
 ·obtain⟨j,hj,f9,heq⟩:∃ j,j<m/\¬ L j=L 0/\∀ i,i<j->L i=L 0:=by
   rcases hL with h | ⟨j,hj,f9⟩
   ·exact absurd h hz
   ·obtain⟨k,hk,h1,h2⟩:=cR (p:=fun i=>L i=L 0) j f9;exact⟨k,za,h1,h2⟩
  have HT:=am (t.bytes);have HE:=am heq;have HN:=am f9;clear t hL heq f9;go_enter Tryz.func338,Tryz.ntmps338
  go_wp2;go_loop [18] (fun i=>∃ k:Nat,k<=j/\i=Y D k) (fun i=>m-(intOf i).toNat)
  case atStart=>exact⟨0,G _,rfl⟩
  case round =>
   obtain⟨k,hk,rfl⟩:=hrel;have ck:=HT.out k za;by_cases hlt:k<j
   ·rw [HE.out k hlt] at ck;go_wp2;go_round
    case rel=>exact⟨k+1,za,by go_num⟩
    case measure=>simp [intOf];omega
   ·obtain rfl:k=j:=za;have hb:(((L k:Nat):Int) == ((L 0:Nat):Int))=z:=by
     have:=HN.out;simp;omega
    go_wp2;go_ret2;exact⟨rfl,rfl⟩
theorem Cc(w:J)(B m cp:Nat)(F:Nat->Nat)(A:Nat->Option U)(C L:Nat->Nat)(H:Nat->Nat->Nat)(t:Terms w B m F A C L H)
  (hm:m<=100) (h0:0<m) (hL:65536<L 0\/∃ j,j<m/\L j ≠ L 0) :
  y X 322 #[I (Q ⟨B,0,O⟩) m cp] w fun e w'=>e=S (W #[I O 0 0,Y D 20])/\w'=w:=by
 have HS:=Bm w B m cp F A C L H t hm h0 hL;clear t hL;go_enter Tryz.func322,Tryz.ntmps322
 go_wp2_with (go_at_call 338;refine HS.mono ?_;rintro e w' ⟨rfl,rfl⟩)
 go_ret2;exact⟨rfl,rfl⟩
theorem bU:(Tryz.prog.info? 5).map (fun i=>(i.zero,i.size,i.bytes))=Q (Q (Y V 0),1,1):=zh
theorem Eg(w:J)(B m cp n:Nat)(F:Nat->Nat)(A:Nat->Option U)(C L:Nat->Nat)(H:Nat->Nat->Nat)(t:Terms w B m F A C L H)
  (hm:m<=100) (hn:n<=65536) (hL:∀ i,i<m->L i=n) (h0:m=0->n=0) :
  y X 322 #[I (Q ⟨B,0,O⟩) m cp] w fun e w'=>e=S (W #[I (Q ⟨w.heap.size,0,O⟩) n n,Y D 0])/\Own w' w.heap.size n (tot F H m)/\b7 w w':=by
 have HS:=CL w B m cp n F A C L H t hm hn hL h0;have HT:=am t;have HL:=am hL;have hmk:=run_make_row' (P:=X) 36 5 (Y V 0) 1 Tryz.underlying36 bU rfl D D n za za;clear t hL;go_enter Tryz.func322,Tryz.ntmps322
 go_wp2_with (go_at_call 338;refine HS.mono ?_;rintro e w' ⟨rfl,g8⟩;obtain rfl:=g8.symm)
 go_loopw [20] (fun i wr=>∃ k:Nat,k<=m/\i=Y D k/\T (Own wr w.heap.size n (tot F H k))/\T (Only w.heap.size w wr)) (fun i _=>m-(intOf i).toNat)
 case atStart=>exact⟨0,G _,rfl,⟨fun _=>by show 0<256;decide,World.rowIs_made w (Y V 0) n 5⟩,(Only.refl _ w).alloc _⟩
 case round =>
  obtain⟨k,hk,rfl,em,ki⟩:=hrel;by_cases hlt:k<m
  ·have c1:wr.cell? ⟨B,k*2,O⟩=Q (Y V (F k:Int)):=ki.out.cell (HT.out.factor k hlt) (by have:=HT.out.lt;simp;omega);have c2:wr.cell? ⟨B,k*2+1,O⟩=Q (I (A k) n (C k)):=by
    have:=ki.out.cell (HT.out.bytes k hlt) (by have:=HT.out.lt;simp;omega)
    rwa [HL.out k hlt] at this
   have HR:T (Rd w (A k) n (H k)):=by have:=HT.out.rd k hlt;rwa [HL.out k hlt] at this
   have HO:T (0<n->Off (A k) w.heap.size):=fun h=>HR.out.off (Z _) h;go_wp2_with (go_at_call 339;refine(rS wr w.heap.size n (tot F H k) (H k) (F k) (A k) (C k) hn (HT.out.num k) em.out (HR.out.only ki.out HO.out) HO.out).mono ?_;rintro e w' ⟨rfl,qd,JL⟩)
   go_roundw
   case rel=>exact⟨k+1,za,by go_num,qd,ki.out.trans JL⟩
   case measure=>simp [intOf];omega
  ·obtain rfl:k=m:=za;go_wp2;go_ret2;exact⟨rfl,em.out,ki.out.below (Z _) (Z _)⟩
def Ans (w w':J) (ro:Option U) (n:Nat) (f:Nat->Nat):Prop :=
  (ro=O/\n=0/\∀ i,f i<256)\/∃ g,ro=Q ⟨g,0,O⟩/\w.heap.size<=g/\Own w' g n f
def dS (b:Bool) (n:Nat):Nat:=if b then n else 0
def dE (b:Bool):Int:=if b then 0 else 20
def Made (w:J) (b:Bool) (n:Nat) (f:Nat->Nat) (e:Ending) (w':J):Prop :=
  ∃ ro,e=.returned (.tuple #[.slice ro (dS b n) (dS b n),.int .i64 (dE b)])/\Ans w w' ro (dS b n) f/\b7 w w'
structure Lst (w:World) (lo:Option Addr) (ll:Nat) (A:Nat->Option Addr) (C L:Nat->Nat) (H:Nat->Nat->Nat):Prop where
  rd:∀ i,i<ll->Rd w (A i) (L i) (H i)
  at_:0<ll->∃ b off,lo=some ⟨b,off,none⟩/\∀ i,i<ll->w.cell? ⟨b,off+i,none⟩=some (.slice (A i) (L i) (C i))
theorem Lst.below{w w':J}{lo:Option U}{ll:Nat}{A:Nat->Option U}{C L:Nat->Nat}{H:Nat->Nat->Nat}(h:Lst w lo ll A C L H)(hb:b7 w w'):Lst w' lo ll A C L H:=by
 refine⟨fun i hi=>(h.rd i hi).below hb,fun hp=>?_⟩;obtain⟨b,off,rfl,hc⟩:=h.at_ hp;exact⟨b,off,rfl,fun i hi=>(hb.cell (World.block_lt_of_cell? w _ (hc i hi))).trans (hc i hi)⟩
def okL (lc ll:Nat) (L:Nat->Nat):Bool:=decide (lc<=16/\ll=lc/\∀ i,i<ll->L i<=65536/\L i=L 0)
def n0 (ll:Nat) (L:Nat->Nat):Nat:=if ll=0 then 0 else L 0
theorem ie{lc ll:Nat}{L:Nat->Nat}(h:okL lc ll L=true):lc<=16/\ll=lc/\∀ i,i<ll->L i<=65536/\L i=L 0:=of_decide_eq_true h
theorem tT{lc ll:Nat}{L:Nat->Nat}(h:okL lc ll L=z)(h1:lc<=16)(h2:ll=lc):0<ll/\(65536<L 0\/∃ j,j<ll/\L j ≠ L 0):=by
 have h3:=of_decide_eq_false h;have h4:¬ ∀ i,i<ll->L i<=65536/\L i=L 0:=fun g=>h3 ⟨h1,h2,g⟩;obtain⟨i,hi⟩:=Classical.not_forall.1 h4;obtain⟨h5,h6⟩:=Classical.not_imp.1 hi;refine⟨za,?_⟩;by_cases h7:L i=L 0
 ·left
  by_cases h8:L i<=65536
  ·exact absurd ⟨h8,h7⟩ h6
  ·omega
 ·exact .inr ⟨i,h5,h7⟩
def tc (F:Nat->Nat) (A:Nat->Option U) (C L:Nat->Nat) (k j:Nat):q :=
  if j / 2<k then (if j % 2=0 then .int .u8 (F (j / 2):Int) else .slice (A (j / 2)) (L (j / 2)) (C (j / 2))) else (if j % 2=0 then .int .u8 0 else .slice O 0 0)
theorem Eh{F:Nat->Nat}{A:Nat->Option U}{C L:Nat->Nat}{k j:Nat}:
  (if j=k*2+1 then Value.slice (A k) (L k) (C k) else if j=k*2 then Y V (F k:Int) else tc F A C L k j)=tc F A C L (k+1) j:=by
 by_cases h1:j=k*2+1
 ·subst h1;have e1:(k*2+1) / 2=k:=za;have e2:¬ (k*2+1) % 2=0:=za;rw [zk rfl,tc,e1,zk za,zl e2]
 ·rw [zl h1];by_cases h2:j=k*2
  ·subst h2;have e1:k*2 / 2=k:=za;have e2:k*2 % 2=0:=za;rw [zk rfl,tc,e1,zk za,zk e2]
  ·rw [zl h2];by_cases h3:j / 2<k
   ·have h4:j / 2<k+1:=za;simp only [tc,h3,h4,if_true]
   ·have h4:¬ j / 2<k+1:=za;simp only [tc,h3,h4,if_false]
theorem DI{w:J}{B n k:Nat}{F:Nat->Nat}{A:Nat->Option U}{C L:Nat->Nat}(h:w.rowIs B 364 n (tc F A C L k)):
  ((w.setCell ⟨B,k*2,O⟩ (Y V (F k:Int))).setCell ⟨B,k*2+1,O⟩ (I (A k) (L k) (C k))).rowIs B 364 n (tc F A C L (k+1)) :=
 ((h.set (k*2) _).set (k*2+1) _).congr fun _ _=>Eh
theorem Cl(w:J)(F:Nat->Nat)(A:Nat->Option U)(C L:Nat->Nat)(m:Nat):
  (w.alloc (.cells (madeCells #[Y V 0,I O 0 0] (m*2)) 364)).rowIs w.heap.size 364 (m*2) (tc F A C L 0):=by
 refine⟨_,heap_alloc_new w _,size_madeCells _ _,fun i hi=>?_⟩;rw [tc,zl za];rcases Nat.mod_two_eq_zero_or_one i with h | h
 ·simp [madeCells,hi,h]
 ·simp [madeCells,hi,h]
theorem DK:(Tryz.prog.info? 364).map (fun i=>(i.zero,i.size,i.bytes))=Q (Q (.agg #[Y V 0,I O 0 0]),2,32):=zh
theorem ra(n:Nat)(hn:n<=1000)(w:J):
  (Instr.makeSlice 362 (Y D (n:Int)) (Y D (n:Int))).run X w=.ok (I (Q ⟨w.heap.size,0,O⟩) n n) (w.alloc (.cells (madeCells #[Y V 0,I O 0 0] (n*2)) 364)):=by
 obtain⟨i,hi,hz0,yb,yP⟩:=info_parts DK;have:=run_make (P:=X) w 362 364 i _ Tryz.underlying362 hi hz0 D D (n:Int) (n:Int) za (Int.le_refl _) (by rw [yP];omega) za;rw [yb,Int.toNat_natCast] at this;exact this
theorem Az{w wr:J}{m:Nat}{F:Nat->Nat}{A:Nat->Option U}{C L:Nat->Nat}{H:Nat->Nat->Nat}{lo:Option U}
  (jA:wr.rowIs w.heap.size 364 (m*2) (tc F A C L m)) (ho:Only w.heap.size w wr) (hF:∀ i,F i<256) (hl:Lst w lo m A C L H):Terms wr w.heap.size m F A C L H:=by
 refine⟨jA.lt,hF,fun i hi=>(hl.rd i hi).only ho fun hp=>(hl.rd i hi).off (Z _) hp,fun i hi=>?_,fun i hi=>?_⟩
 ·rw [jA.cell za];have e1:i*2 / 2=i:=za;have e2:i*2 % 2=0:=za;rw [tc,e1,zk hi,zk e2]
 ·rw [jA.cell za];have e1:(i*2+1) / 2=i:=za;have e2:¬ (i*2+1) % 2=0:=za;rw [tc,e1,zk hi,zl e2]
theorem vu(w wr:J)(m:Nat)(F:Nat->Nat)(A:Nat->Option U)(C L:Nat->Nat)(H:Nat->Nat->Nat)(ok:Bool)(N:Nat)(hm:m<=16)(t:Terms wr w.heap.size m F A C L H)
  (ho:Only w.heap.size w wr) (hok:okL m m L=ok) (hN:N=n0 m L) :
  y X 322 #[I (Q ⟨w.heap.size,0,O⟩) m m] wr (Made w ok N (tot F H m)):=by
 subst hN;have d8:b7 w wr:=ho.below (Z _) (Z _);cases ok
 ·obtain⟨h0,hb⟩:=tT hok hm rfl;refine(Cc _ _ _ m _ _ _ _ _ t za h0 hb).mono ?_;rintro e w' ⟨rfl,rfl⟩;exact⟨O,rfl,.inl ⟨rfl,rfl,eF F H t.num m⟩,d8⟩
 ·obtain⟨_,_,hL⟩:=ie hok;have hn:n0 m L<=65536:=by
   unfold n0;split
   ·decide
   ·exact(hL 0 za).1
  refine(Eg _ _ _ m (n0 m L) _ _ _ _ _ t za hn (fun i hi=>by rw [n0,zl za];exact(hL i hi).2) (fun h=>by rw [n0,zk h])).mono ?_;rintro e w' ⟨rfl,Hx,j8⟩;exact⟨_,rfl,.inr ⟨_,rfl,d8.size,Hx⟩,ag d8 j8 d8.size⟩
theorem dot_any(w:J)(co lo:Option U)(lc cc ll cl:Nat)(F:Nat->Nat)(A:Nat->Option U)(C L:Nat->Nat)(H:Nat->Nat->Nat)
  (Kz:lc<=1000000) (Hy:ll<=1000000) (hc:Rd w co lc F) (hl:Lst w lo ll A C L H) :
  y X 290 #[I co lc cc,I lo ll cl] w (Made w (okL lc ll L) (n0 ll L) (tot F H ll)):=by
 have HC:=am hc;have HL:=am hl;clear hc hl;by_cases h1:lc<=16
 ·by_cases h2:ll=lc
  ·subst h2;obtain⟨ok,hok⟩:=fd (okL ll ll L)
   have HK:=am (hok.symm);rw [<- hok];clear hok;obtain⟨N,hN⟩:=fd (n0 ll L)
   have HN:=am hN;rw [<- hN];clear hN;have hmk:=ra ll za;have zM:((ll:Int) == (ll:Int))=true:=zi;go_enter Tryz.func290,Tryz.ntmps290
   go_wp2;go_loopw [23] (fun i wr=>∃ k:Nat,k<=ll/\i=Y D k/\T (wr.rowIs w.heap.size 364 (ll*2) (tc F A C L k))/\T (Only w.heap.size w wr)) (fun i _=>ll-(intOf i).toNat)
   case atStart=>exact⟨0,G _,rfl,Cl w F A C L ll,(Only.refl _ w).alloc _⟩
   case round =>
    obtain⟨k,hk,rfl,jA,ki⟩:=hrel;by_cases hlt:k<ll
    ·obtain⟨b,off,rfl,jI⟩:=HC.out.2 za;obtain⟨b',qg,rfl,jU⟩:=HL.out.at_ za;have ko:=World.block_lt_of_cell? w _ (jI k hlt);have jP:=World.block_lt_of_cell? w _ (jU k hlt);have c1:wr.cell? ⟨b,off+k,O⟩=Q (Y V (F k:Int)):=ki.out.cell (jI k hlt) (by simp at ko ⊢;omega);have c2:wr.cell? ⟨b',qg+k,O⟩=Q (I (A k) (L k) (C k)):=ki.out.cell (jU k hlt) (by simp at jP ⊢;omega);have c3:=jA.out.cell (i:=k*2) za;have c4:=jA.out.cell (i:=k*2+1) za;have z3:=jA.out.frozen (k*2);have z4:=jA.out.frozen (k*2+1);clear jI jU;have i1:(0:Int)<=(k:Int):=za;have i2:(k:Int)<(ll:Int):=za;go_wp2;refine wp_region_still_tail 12 zh zh ?_;simp only [List.take_succ_cons,List.take_zero,List.drop_succ_cons,List.drop_zero]
     repeat still_step
     refine wpStill_nil ?_;go_wp2;go_roundw
     case rel=>exact⟨k+1,za,by go_num,DI jA.out,((ki.out.setCell (k*2) _).setCell (k*2+1) _).drew⟩
     case measure=>simp [intOf];omega
    ·obtain rfl:k=ll:=za;have t:Terms wr w.heap.size k F A C L H:=Az jA.out ki.out HC.out.1 HL.out;have HS:=vu w wr k F A C L H ok N za t ki.out HK.out HN.out;clear t;go_wp2_with (go_at_call 322;refine HS.mono ?_;rintro e w' ⟨ro,rfl,PN,d8⟩)
     go_ret2;exact⟨ro,rfl,PN,d8⟩
  ·have zM:((ll:Int) != (lc:Int))=true:=zj;have hok:okL lc ll L=z:=zp fun h=>h2 h.2.1;rw [hok];go_enter Tryz.func290,Tryz.ntmps290
   go_wp2;go_ret2;exact⟨O,rfl,.inl ⟨rfl,rfl,eF F H HC.out.1 ll⟩,x _ _⟩
 ·have hok:okL lc ll L=z:=zp fun h=>h1 h.1;rw [hok];go_enter Tryz.func290,Tryz.ntmps290
  go_wp2;go_ret2;exact⟨O,rfl,.inl ⟨rfl,rfl,eF F H HC.out.1 ll⟩,x _ _⟩
theorem bal(w:J)(o:Obj):b7 w (w.alloc o):=(x _ w).alloc (Z _) o
end Go.Proofs.YtemlojjkokooeaaGreat.Cod.Ker
