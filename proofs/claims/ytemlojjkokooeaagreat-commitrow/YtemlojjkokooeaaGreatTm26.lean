import Derived.Lib.AppendZeros
import Derived.Test.YtemlojjkokooeaaGreatTm25
open Go.Value renaming int->J,slice->I
open Go.IntKind renaming i64->O,u8->jd
open Go.Proofs.Tryz renaming prog->V
open Go.RowKit renaming Below->S,Hid->p
open Option renaming none->R,some->ja
open Go renaming Addr->y,World->f,Calls->l
open Go.RowKit.Below renaming refl->jb
open Go.Ending renaming returned->jc
open Go.Obj renaming cells->je
open Nat renaming zero_le->jf,le_refl->jg
open Int renaming toNat_natCast->jh
set_option maxHeartbeats 16000000
set_option maxRecDepth 100000
namespace Go.Proofs.YtemlojjkokooeaaGreat
open Go.RowKit
structure Cls (B:Nat) (w:World) (ao:Option Addr) (n b8 m:Nat) (T:Nat->Option Addr) (U:Nat->Nat) (H:Nat->Nat->UInt8):Prop where
  out:w.ownsRow B 36 1 (.slice ao n b8) n (Cod.rowsOf n T (fun _=>m) U)
  row:∀ i,i<n->OwU B w (T i) m (U i) (H i)
  apart:∀ i j a b,i<n->j<n->i ≠ j->T i=some a->T j=some b->a.block ≠ b.block
theorem AQ{B:Nat}{w:f}{ao:Option y}{n b8 m:Nat}{T:Nat->Option y}{U:Nat->Nat}{H:Cod.M}(h:Cod.Copied w B n (I ao n b8) T (fun _=>m) U H):Cls B w ao n b8 m T U (fun i b=>bK (H i b)) :=
 ⟨h.out,fun i hi=>by have:=h.row i hi;rw [ig] at this;exact this,h.apart⟩
theorem sm(B:Nat)(w:f)(m:Nat)(T:Nat->Option y)(U:Nat->Nat)(H:Nat->Nat->UInt8):Cls B w R 0 0 m T U H:=⟨World.ownsRow_nil _ _ _ _,fun i hi=>absurd hi za,fun i _ _ _ hi=>absurd hi za⟩
theorem Cls.below{B:Nat}{w w':f}{ao:Option y}{n b8 m:Nat}{T:Nat->Option y}{U:Nat->Nat}{H:Nat->Nat->UInt8}(h:Cls B w ao n b8 m T U H)(hb:b7 w w'):Cls B w' ao n b8 m T U H :=
 ⟨ar h.out hb,fun i hi=>(h.row i hi).below hb,h.apart⟩
theorem Cls.mono{B B':Nat}{w:f}{ao:Option y}{n b8 m:Nat}{T:Nat->Option y}{U:Nat->Nat}{H:Nat->Nat->UInt8}(h:Cls B w ao n b8 m T U H)(hb:B'<=B):Cls B' w ao n b8 m T U H:=by
 refine⟨⟨h.out.1,?_⟩,fun i hi=>(h.row i hi).mono hb,h.apart⟩;rcases h.out.2 with h1 | ⟨g,jy,jw,h1,h2,h3⟩
 ·exact .inl h1
 ·exact .inr ⟨g,jy,jw,h1,za,h3⟩
def cV (w:f) (E:Int) (n m:Nat) (H:Nat->Nat->UInt8) (e:Ending) (w':f):Prop :=
  ∃ ao b8 T U,e=.returned (.tuple #[.slice ao (aK E n) b8,.int .i64 E])/\Cls w.heap.size w' ao (aK E n) b8 m T U H/\b7 w w'
def erL (k:Nat) (z:Nat->Sl) (N:Nat):Int:=if k<=Cod.cnt (Lz z) N then 0 else 5
structure Zok (N:Nat) (c:Int) (z:Nat->Sl):Prop where
  dn:∀ i,i<N->((z i).ce=0/\(z i).dn=0)\/((z i).ce ≠ 0/\(z i).dn=c.toNat)
theorem rH{N:Nat}{c:Int}{L:Nat->Nat}{F:Nat->Nat->UInt8}{kd:UInt8}{v:Int}:Zok N c (zv N c L F kd v):=⟨fun i hi=>by
 rcases Dp (kd:=kd) (cL N c L F) (tS (yy N c L F) kd v (2*N)) hi with h | ⟨h,_⟩
 ·unfold zv;rw [h];exact .inl ⟨rfl,rfl⟩
 ·refine .inr ⟨(bD h.1).ne,?_⟩;have:=(bD h.1).dn;unfold zv;omega⟩
theorem Ct{N:Nat}{c:Int}{z:Nat->Sl}(h:Zok N c z)(hc:8<=c){i:Nat}(hi:i<N):Lz z i=0 ↔ lz z i=0:=by
 unfold Lz lz;rcases h.dn i hi with ⟨a,b⟩ | ⟨a,b⟩
 ·rw [zk a,b]
 ·rw [zl a,b];constructor
  ·intro e;omega
  ·intro e;exact absurd e zb
theorem AZ{N:Nat}{c:Int}{z:Nat->Sl}(h:Zok N c z)(hc:8<=c):Cod.cnt (Lz z) N=ct z N/\Cod.sel (Lz z) N=Cod.sel (lz z) N:=by
 have:=Cod.cnt_congr (fun i hi=>Ct h hc (i:=i) hi);unfold ct Cod.cnt Cod.sel;rw [this];exact⟨rfl,rfl⟩
theorem Cp{k r c q:Int}{N W:Nat}(h:Par k r c q N W 0)(z:Nat->Sl)(hz:Zok N c z)(w:f)(lo:Option y)(cl:Nat)(T:Nat->Option y)(U:Nat->Nat)(hl:Cod.Lst w lo N T U (Lz z) (Hz z)):
  l V 139 #[J O k,J O r,I lo N cl] w (cV w (erL k.toNat z N) N c.toNat (cH k.toNat z N)):=by
 have HD:=Cod.Decode_any w k r lo N cl T U (Lz z) (Hz z) hl;obtain⟨k9,xX⟩:=h.cell rfl;rcases h with ⟨hm,_,hN,_⟩ | ⟨_,_,_,h0⟩
 ·obtain⟨h1,h2,h3,h4,h5,h6,h7,h8,h9⟩:=aB hm;have hL:∀ i,i<N->Lz z i=0\/Lz z i=c.toNat:=fun i hi=>by
   rcases hz.dn i hi with ⟨_,a⟩ | ⟨_,a⟩
   ·exact .inl a
   ·exact .inr a
  obtain⟨g1,g2⟩:=Cod.okT_of (show c.toNat ≠ 0 by omega) za hL;have e1:Cod.mayB k r=true:=zm za;have e2:Cod.okC N (Lz z) (k+r)=true:=by unfold Cod.okC;rw [g1];simp;omega
  have e3:k.toNat+r.toNat=N:=za;rw [e1,e2,e3] at HD;unfold cV erL;by_cases hk:k.toNat<=Cod.cnt (Lz z) N
  ·have e4:Cod.okDec N (Lz z) k r=true:=by unfold Cod.okDec;rw [e1,e2];simp;omega
   have e5:Cod.len0 (Lz z) N=c.toNat:=by
    rcases Cod.len0_sel (Lz z) N with ⟨e,_⟩ | ⟨_,_,e⟩
    ·omega
    ·exact g2.resolve_left e
   rw [e4,e5] at HD;rw [zk hk];refine HD.mono ?_;rintro e w' ⟨ao,b8,T',U',rfl,jY,hb⟩;exact⟨ao,b8,T',U',rfl,AQ jY,hb⟩
  ·have e4:Cod.okDec N (Lz z) k r=false:=by unfold Cod.okDec;rw [zp za];simp
   rw [e4] at HD;rw [zl hk];refine HD.mono ?_;rintro e w' ⟨ao,b8,T',U',rfl,jY,hb⟩;have hn:ao=R/\b8=0\/True:=.inr trivial;refine⟨ao,b8,T',U',rfl,⟨jY.out,fun i hi=>absurd hi (by show ¬ i<0;omega),fun i _ _ _ hi=>absurd hi (by show ¬ i<0;omega)⟩,hb⟩
 ·exact absurd h0 zb
theorem lR{k r c q:Int}{N W:Nat}(h:Par k r c q N W 0)(w:f)(ro:Option y)(rc:Nat)(A:Nat->Option y)(L C:Nat->Nat)(F:Nat->Nat->UInt8)(hr:Rw w ro N A L C F)(hL:∀ j,j<2*N->L j=0\/L j=sz N c)(kd:UInt8)(hk:kd=1\/kd=2)(v:Int):
  l V 74 #[stv k r c q ro N rc kd,J O v] w (cV w (erL k.toNat (zv N c L F kd v) N) N c.toNat (cH k.toNat (zv N c L F kd v) N)):=by
 have qe:=h.le;obtain⟨z,hz⟩:=fd (zv N c L F kd v)
 have Ie:p (∀ wf gp,b7 w wf->Cap w wf gp 33 36 1 0 [] (fun x=>x=gp)->l V 71 #[stv k r c q ro N rc kd,J O v,.func (.func 138) #[] #[.pointer (ja ⟨gp,0,R⟩)]] wf fun e w'=>e=jc (.tuple #[])/\∃ Y,Thr w gp z N w' Y/\Only (fun x=>x=gp) wf w'/\∀ g,Y g->g=gp\/wf.heap.size<=g):=fun wf gp hb hc=>by
  rw [hz];refine iD h w wf hb ro rc A L C F hr hL kd hk v _ rfl 138 _ (Thr w gp (zv N c L F kd v)) ⟨fun _ _=>rfl,fun d a b Y hI hb=>?_,fun d a Y hI g hg=>?_,fun d hd u Y B hI _ hB ao ca bo cb hg=>?_⟩ _ ⟨fun _=>R,fun _=>0,hc,fun i hi=>absurd hi za⟩
  ·obtain⟨T,U,h1,h2⟩:=hI;exact⟨T,U,h1.below hb,fun i hi=>(h2 i hi).below hb⟩
  ·obtain⟨T,U,h1,_⟩:=hI;exact h1.at_ g hg
  ·exact pX w u gp d B (zv N c L F kd v) Y _ _ _ za ao ca bo cb hI hg.bec hB
 have G7:=am fun u lo cl T U (hl:Cod.Lst u lo N T U (Lz z) (Hz z))=>Cp h z (by rw [hz];exact rH) u lo cl T U hl;rw [<- hz];obtain⟨w0,bi⟩:=fd (w.alloc (je #[J O k,J O r,J O c,J O q,I ro N rc,J jd ((kd.toNat:Nat):Int)] 99))
 obtain⟨w1,ci⟩:=fd (w0.alloc (je #[I R 0 0] 33))
 have b0:=jt bi
 have z0:=ks bi
 have b1:b7 w w1:=by rw [ci];exact ap b0 (bal _ _)
 have Fe:=Ie.out w1 (w.heap.size+1) b1 (sZ b0 ci z0);have jZ:=am b1;have L0:p (At w w1 w.heap.size #[J O k,J O r,J O c,J O q,I ro N rc,J jd ((kd.toNat:Nat):Int)] 99):=(ah (jb _ _) bi).below (by rw [ci];exact bal _ _);clear h hr hL hk hz b0 b1 z0 Ie;unfold cV at G7 ⊢;unfold stv at Fe ⊢;go_enter Tryz.func74,Tryz.ntmps74
 go_wp2_with fail
 rw [<- bi,<- ci];clear bi ci;refine Fe.mono ?_;rintro e wf ⟨rfl,Y,⟨T,U,⟨ao,b8,ED,em,_⟩,hT⟩,hO,_⟩;have q0:At w wf w.heap.size _ 99:=L0.out.only hO za;have p0:=q0.cz 0;have p1:=q0.cz 1;have s0:=ED.cz 0;have hD:=G7.out wf ao b8 T U (Cod.owns_lst em (fun i hi=>mD (hT i hi).bec.rd));have zI:p (b7 w wf):=jZ.out.trans (hO.below (fun i hi=>by omega) jZ.out.size);clear hO ED em hT q0;go_wp2_with fail
 refine hD.mono ?_;rintro e wd ⟨g6,jy,T',U',rfl,hc',j8⟩;go_wp2_with fail
 go_ret2;exact⟨g6,jy,T',U',rfl,hc'.mono zI.out.size,ap zI.out j8⟩
def dW (E L:Int):Int:=if E=0 then L else E
theorem uU{k r c q:Int}{N W:Nat}{x:Int}(h:Par k r c q N W x)(w:f)(ro:Option y)(rn rc:Nat)(A:Nat->Option y)(L C:Nat->Nat)(F:Nat->Nat->UInt8)(hr:Rw w ro rn A L C F)(kd:UInt8)(v:Int)(E:Int)(hE:dW (erK x N c rn L kd v) (erL k.toNat (zv N c L F kd v) N)=E):
  l V 15 #[Pz k r c q,I ro rn rc,J jd ((kd.toNat:Nat):Int),J O v] w (cV w E N c.toNat (cH k.toNat (zv N c L F kd v) N)):=by
 obtain⟨D,hD⟩:=km (erK x N c rn L kd v)
 have HA:=am fun u (hu:b7 w u)=>ma h u ro rn rc A L C F (hr.below hu) kd v D hD;rw [hD] at hE;unfold dW at hE;obtain⟨w0,bi⟩:=jM w k r c q
 have B0:p (b7 w w0):=by show S _ _ _;rw [bi];exact bal _ _
 by_cases he:D=0
 ·subst he;rw [zk rfl] at hE HA;obtain⟨hR,hk,_⟩:=ec hD;obtain⟨rfl,rfl,hL⟩:=bW hR;have HC:p (∀ u,b7 w u->l V 74 #[stv k r c q ro rn rc kd,J O v] u (cV u E rn c.toNat (cH k.toNat (zv rn c L F kd v) rn))):=fun u hu=>by
   rw [<- hE];exact lR h u ro rc A L C F (hr.below hu) hL kd hk v
  generalize cH k.toNat (zv rn c L F kd v) rn=H at *
  clear h hr hE hD hR hL hk;unfold stv at HA HC;unfold cV at HC ⊢;go_enter Tryz.func15,Tryz.ntmps15
  go_wp2_with fail
  rw [<- bi];clear bi;refine(HA.out _ B0.out).mono ?_;rintro e wa ⟨rfl,ha⟩;obtain⟨w2,jz⟩:=fd (wa.alloc (je #[J O k,J O r,J O c,J O q,I ro rn rc,J jd ((kd.toNat:Nat):Int)] 99))
  have jv:p (b7 w w2):=by show S _ _ _;rw [jz];exact ap (ap B0.out ha) (bal _ _)
  go_wp2_with fail
  rw [<- jz];clear jz ha;refine(HC.out _ jv.out).mono ?_;rintro e wf ⟨ao,b8,T,U,rfl,hc,hb⟩;go_wp2_with fail
  go_ret2;exact⟨ao,b8,T,U,rfl,hc.mono jv.out.size,ap jv.out hb⟩
 ·rw [zl he] at hE HA;subst hE;have e1:(D != 0)=true:=by simp [he]
  generalize cH k.toNat (zv N c L F kd v) N=H at *
  clear h hr hD;unfold stz at HA;unfold cV;rw [show aK D N=0 from zl he];go_enter Tryz.func15,Tryz.ntmps15
  go_wp2_with fail
  rw [<- bi];clear bi;refine(HA.out _ B0.out).mono ?_;rintro e wa ⟨rfl,ha⟩;go_wp2_with fail
  go_ret2;exact⟨R,0,fun _=>R,fun _=>0,rfl,sm _ _ _ _ _ _,ap (ap B0.out ha) (bal _ _)⟩
theorem au{w:f}{pm:Array Oper}{kg:List Oper}{o:Oper}{a:Act}{Q:Exit->Act->f->Prop}(qN:o.guard=R)(s x:Operand)
  (ho:o.op=.call { callee:=.builtin .append,args:=#[s,x],argTypes:=#[36,36]}) (B k n ca cb:Nat) (ao bo:Option y) (xs:List Value) (F:Nat->UInt8)
  (hs:a.eval s=I ao k ca) (hx:a.eval x=I bo n cb) (h:w.ownsRow B 5 1 (I ao k ca) k xs) (hv:Bec w bo n cb F) (hk:k<=100000) (hn:n<=100000) (hB:B<=w.heap.size)
  (kP:∀ g6 c' w',w'.ownsRow B 5 1 (I g6 (k+n) c') (k+n) (xs ++ byF n F)->w.grownBy w' (Value.slice ao k ca).ownBlock->wpList V pm Q kg (a.put o.dst (I g6 (k+n) c')) w'):wpList V pm Q (o :: kg) a w:=by
 obtain⟨j0,hj,kE,kB,kt⟩:=info_parts bU;cases bo with
 | none =>
  obtain⟨rfl,rfl⟩:=hv.nil rfl;have:=kP ao ca w (by rw [show byF 0 F=[] from rfl,List.append_nil];exact h) ⟨rfl,rfl,rfl,jg _,fun _ _ _=>rfl⟩;exact wpList_append_own_none qN s x 36 ho B 5 j0 1 Tryz.underlying36 hj (I ao k ca) k xs hs h hx this
 | some ad =>
  refine wpList_append_own w qN s x 36 ho B 5 j0 (J jd 0) 1 1 Tryz.underlying36 hj kE kB kt rfl zb (I ao k ca) k xs hs h ad n cb (byF n F) hx (by rw [ai,Nat.mul_one]) (dF hv) (dU _ _) (by unfold maxLen;omega) za hB ?_;intro v' w' h1 h2 _;obtain⟨g6,c',rfl⟩:∃ g6 c',v'=I g6 (k+n) c':=by
   rcases h1.2 with ⟨rfl,e⟩ | ⟨g,b8,jw,rfl,_⟩
   ·rw [e];exact⟨R,0,rfl⟩
   ·exact⟨_,b8,rfl⟩
  exact kP g6 c' w' h1 h2
theorem rl(m n:Nat):(Builtin.zeroCells (Value.int jd 0).cells m ++ Builtin.zeroCells (Value.int jd 0).cells n).size=(m+n)*1:=by
 rw [Array.size_append,size_zeroCells,size_zeroCells];have:(Value.int jd 0).cells.size=1:=rfl;rw [this];omega
theorem vO(w:f)(n:Nat)(hn:n<=10000):
  l V 141 #[I R 0 0,J O (n:Int)] w fun e w'=>∃ ao b8,e=jc (I ao 0 b8)/\w'.ownsRow w.heap.size 5 1 (I ao 0 b8) 0 []/\b7 w w':=by
 by_cases h0:n=0
 ·subst h0;go_enter Tryz.func141,Tryz.ntmps141
  go_wp2;go_ret;exact⟨R,0,rfl,World.ownsRow_nil _ _ _ _,jb _ _⟩
 ·obtain⟨j0,hj,kE,kB,kt⟩:=info_parts bU;have hr:=fun ty=>Lib.run_append_nil_zeros (P:=V) w 36 3 ty 5 j0 (J jd 0) O O Tryz.underlying36 Tryz.underlying3 hj kE n za (by rw [kB];decide) za (by rw [kt];omega);have k9:=grownCap_ge w n 0 5;have xX:=grownCap_le_maxLen w n 0 5 (by unfold maxLen;omega);obtain⟨cp,o9⟩:∃ c,c=grownCap w n 0 5:=⟨_,rfl⟩
  rw [<- o9] at hr k9 xX;obtain⟨w1,ci⟩:=fd (w.drew.alloc (je (Builtin.zeroCells (Value.int jd 0).cells n ++ Builtin.zeroCells (Value.int jd 0).cells (cp-n)) 5))
  rw [<- ci] at hr;have HO:p (w1.ownsRow w.heap.size 5 1 (I (ja ⟨w.heap.size,0,R⟩) 0 cp) 0 []):=by
   refine⟨rfl,.inr ⟨w.heap.size,cp,_,rfl,jg _,by rw [ci];exact heap_alloc_new w.drew _,jf _,xX,?_,zi⟩⟩;rw [rl,Nat.add_sub_cancel' k9]
  have HB:p (b7 w w1):=by rw [ci];exact(bdw _ w).alloc (jg _) _
  clear ci o9 hj kE kB kt xX;have Fw:(0:Int)<(n:Int):=za;go_enter Tryz.func141,Tryz.ntmps141
  go_wp2_with (at_builtin;refine Lib.wpList_append_run _ zg (.tmp 20) (.tmp 21) 36 3 zg (I R 0 0) (J O (n:Int)) zg zg _ _ (hr _) ?_)
  go_ret;exact⟨_,_,rfl,HO.out,HB.out⟩
def dI (m:Nat) (H:Nat->Nat->UInt8) (b:Nat):UInt8:=H (b / m) (b % m)
theorem mq(m:Nat)(hm:0<m)(H:Nat->Nat->UInt8)(i:Nat):byF (i*m+m) (dI m H)=byF (i*m) (dI m H) ++ byF m (H i):=by
 rw [gR];congr 1
 refine bB fun b hb=>?_;unfold dI;rw [Nat.mul_comm i m,Nat.mul_add_div hm,Nat.mul_add_mod,Nat.div_eq_of_lt hb,Nat.mod_eq_of_lt hb,Nat.add_zero]
theorem fC{i n m:Nat}(h:i<=n)(hn:n<=16)(hm:m<=64):i*m<=1024:=Nat.le_trans (Nat.mul_le_mul (Nat.le_trans h hn) hm) zb
theorem rj(w:f)(lo:Option y)(n cl m:Nat)(T:Nat->Option y)(U:Nat->Nat)(H:Nat->Nat->UInt8)(hn:n<=16)(yv:0<m)(hm:m<=64)(hl:RdC w lo n T (fun _=>m) U)(hb:∀ i,i<n->Bec w (T i) m (U i) (H i)):
  l V 76 #[I lo n cl] w fun e w'=>∃ ao b8,e=jc (I ao (n*m) b8)/\OwU w.heap.size w' ao (n*m) b8 (dI m H)/\b7 w w':=by
 have HL:=am hl;have HB:=am hb;have Ja:=am fun i (hi:i<=n)=>fC hi hn hm;have Mr:=am (mq m yv H);clear hl hb;go_enter Tryz.func76,Tryz.ntmps76
 go_wp2;go_loop [3,11] (fun s x=>∃ i:Nat,i<=n/\x=J O (i:Int)/\∃ t:Nat,s=J O (t:Int)/\p (t=i*m)) (fun _ x=>n-(intOf x).toNat)
 case atStart=>exact⟨0,jf _,rfl,0,rfl,by show _=_;rw [Nat.zero_mul]⟩
 case round =>
  obtain⟨i,hi,rfl,t,rfl,ht⟩:=hrel;have Yr:t<=1024:=by rw [ht.out];exact Ja.out i hi
  by_cases hlt:i<n
  ·obtain⟨b,off,rfl,jI⟩:=HL.out za;have ck:=jI i hlt;have i1:(0:Int)<=(i:Int):=za;have i2:(i:Int)<(n:Int):=za;have Ms:¬ (t:Int)+(m:Int)<0:=za;clear jI;go_wp2;go_round
   case rel=>exact⟨i+1,za,by go_num,t+m,by go_num,by show _=_;rw [ht.out,Nat.succ_mul]⟩
   case measure=>simp [intOf];omega
  ·obtain rfl:i=n:=za;have HG:=vO w t za;go_wp2_with (go_at_call 141;refine HG.mono ?_;rintro e w1 ⟨ao,b8,rfl,em,hb⟩)
   have qi:=am em;have jZ:=am hb;clear em hb HG;go_loopw [6,27] (fun v x wr=>∃ j:Nat,j<=i/\x=J O (j:Int)/\∃ s ao c,v=I ao s c/\p (s=j*m)/\p (wr.ownsRow w.heap.size 5 1 (I ao s c) s (byF (j*m) (dI m H)))/\p (b7 w wr)) (fun _ x _=>i-(intOf x).toNat)
   case atStart=>exact⟨0,jf _,rfl,0,ao,b8,rfl,by show _=_;rw [Nat.zero_mul],by rw [Nat.zero_mul];exact qi.out,jZ.out⟩
   case round =>
    obtain⟨j,hj,rfl,s,ao,c,rfl,hs,em,d8⟩:=hrel;by_cases hlt2:j<i
    ·obtain⟨b,off,rfl,jI⟩:=HL.out za;have d0:wr.cell? ⟨b,off+j,R⟩=ja (I (T j) m (U j)):=held (jI j hlt2) d8.out;have qm:=(HB.out j hlt2).below d8.out;have A7:=am qm;have qA:=d8.out.size;have Ws:s<=1024:=by rw [hs.out];exact Ja.out j hj
     obtain⟨XS,kh⟩:∃ X,X=byF (j*m) (dI m H):=⟨_,rfl⟩
     have HO:p (wr.ownsRow w.heap.size 5 1 (I ao s c) s XS):=by rw [kh];exact em.out
     have o7:p (XS ++ byF m (H j)=byF ((j+1)*m) (dI m H)):=by show _=_;rw [kh,Nat.succ_mul,Mr.out]
     have i1:(0:Int)<=(j:Int):=za;have i2:(j:Int)<(i:Int):=za;clear kh em qm jI;go_wp2_with (at_builtin;refine au zg (.tmp 31) (.tmp 32) zg w.heap.size s m c (U j) ao (T j) XS (H j) zg zg HO.out A7.out za za za ?_;intro g6 c' w' qd yl)
     have kH:p (w'.ownsRow w.heap.size 5 1 (I g6 (s+m) c') (s+m) (byF ((j+1)*m) (dI m H))):=by rw [<- o7.out];exact qd
     have jv:=am (d8.out.grown yl qA (fun r hr=>(HO.out.lt r hr).1));clear qd yl;go_roundw
     case rel=>exact⟨j+1,za,by go_num,s+m,g6,c',rfl,by show _=_;rw [hs.out,Nat.succ_mul],kH.out,jv.out⟩
     case measure=>simp [intOf];omega
    ·obtain rfl:j=i:=za;go_wp2;go_ret;rw [<- hs.out];exact⟨ao,c,rfl,by have:=em.out;rw [<- hs.out] at this;exact this,d8.out⟩
theorem Cls.rdc{B:Nat}{w:f}{ao:Option y}{n b8 m:Nat}{T:Nat->Option y}{U:Nat->Nat}{H:Nat->Nat->UInt8}(h:Cls B w ao n b8 m T U H){j:Nat}(hj:j<=n):RdC w ao j T (fun _=>m) U:=fun hp=>by
 rcases h.out.2 with ⟨_,h1⟩ | ⟨g,jy,jw,h1,_⟩
 ·omega
 ·cases h1
  refine⟨g,0,rfl,fun i hi=>?_⟩;have:=h.out.cells (g:=g) rfl i _ (Cod.rowsOf_get n T (fun _=>m) U i za)
  rwa [Addr.add_lit] at this
theorem Cls.room{B:Nat}{w:f}{ao:Option y}{n b8 m:Nat}{T:Nat->Option y}{U:Nat->Nat}{H:Nat->Nat->UInt8}(h:Cls B w ao n b8 m T U H):n<=b8:=by
 rcases h.out.2 with ⟨h0,h1⟩ | ⟨g,jy,jw,h1,_,_,h4,_⟩
 ·omega
 ·cases h1;exact h4
theorem vj{k r c q:Int}{N W:Nat}{x:Int}(h:Par k r c q N W x)(w:f)(ro:Option y)(rn rc:Nat)(A:Nat->Option y)(L C:Nat->Nat)(F:Nat->Nat->UInt8)(hr:Rw w ro rn A L C F)(kd:UInt8)(v:Int)(E:Int)(hE:dW (erK x N c rn L kd v) (erL k.toNat (zv N c L F kd v) N)=E):
  l V 17 #[Pz k r c q,I ro rn rc,J jd ((kd.toNat:Nat):Int),J O v] w (AnsB w E (k.toNat*c.toNat) (dI c.toNat (cH k.toNat (zv N c L F kd v) N))):=by
 have HC:=am fun u (hu:b7 w u)=>uU h u ro rn rc A L C F (hr.below hu) kd v E hE;have hx:E=0->1<=k/\k<=N/\N<=16/\8<=c/\c<=64:=fun e=>by
  have h0:erK x N c rn L kd v=0:=by
   unfold dW at hE;by_cases g:erK x N c rn L kd v=0
   ·exact g
   ·rw [zl g] at hE;rw [hE];exact e
  obtain⟨rfl,_⟩:=bW (ec h0).1;have qe:=h.le;obtain⟨c1,c2⟩:=h.cell rfl;rcases h with ⟨hm,_,hN,_⟩ | ⟨_,_,_,h0⟩
  ·obtain⟨h1,h2,h3,h4,h5,h6,h7,h8,h9⟩:=aB hm;omega
  ·exact absurd h0 zb
 obtain⟨w0,bi⟩:=jM w k r c q
 have B0:p (b7 w w0):=by show S _ _ _;rw [bi];exact bal _ _
 have L0:=am fun v (hv:b7 w0 v)=>(ah (jb _ _) bi).below hv;generalize cH k.toNat (zv N c L F kd v) N=H at *
 clear h hr hE;unfold cV at HC;unfold AnsB;by_cases he:E=0
 ·subst he;obtain⟨k1,k2,k3,c1,c2⟩:=hx rfl;obtain⟨K,rfl⟩:=Int.eq_ofNat_of_zero_le (show 0<=k by omega);rw [jh];obtain⟨m,hm⟩:=fd (c.toNat)
  rw [<- hm] at HC ⊢;have m1:0<m:=za;have m2:m<=64:=za;have e0:aK 0 N=N:=zk rfl;rw [e0] at HC;rw [show aK 0 (K*m)=K*m from zk rfl];clear hm hx e0;go_enter Tryz.func17,Tryz.ntmps17
  go_wp2_with fail
  rw [<- bi];clear bi;refine(HC.out _ B0.out).mono ?_;rintro e wa ⟨ao,b8,T,U,rfl,hc,ha⟩;have p0:=(L0.out wa ha).cz 0;have l8:=hc.room;have hX:=rj wa ao K b8 m T U H za m1 m2 (hc.rdc za) (fun i hi=>(hc.row i za).bec);have i1:(0:Int)<=(K:Int):=za;have i2:(K:Int)<=(b8:Int):=za;have yN:=am (ap B0.out ha);clear hc ha;go_wp2_with fail
  refine hX.mono ?_;rintro e wb ⟨bo,cb,rfl,em,hb⟩;go_wp2_with fail
  go_ret2;exact⟨bo,cb,rfl,em.mono yN.out.size,ap yN.out hb⟩
 ·have e1:(E != 0)=true:=by simp [he]
  rw [show aK E (k.toNat*c.toNat)=0 from zl he];rw [show aK E N=0 from zl he] at HC;clear hx;go_enter Tryz.func17,Tryz.ntmps17
  go_wp2_with fail
  rw [<- bi];clear bi;refine(HC.out _ B0.out).mono ?_;rintro e wa ⟨ao,b8,T,U,rfl,hc,ha⟩;go_wp2_with fail
  go_ret2;exact⟨R,0,rfl,cE _ _ _,ap B0.out ha⟩
def slC (kd:UInt8) (N:Nat) (X:Nat->Int) (m:Nat) (G:Nat->UInt8) (i:Nat):Sl:=⟨kd,(i:Int),X i,mx X N,N,X,m,G⟩
theorem rm{N:Nat}{c:Int}{kd:UInt8}{X:Nat->Int}{G:Nat->UInt8}{i:Nat}(hk:kd=1\/kd=2)(hX:∀ j,j<N->1<=X j/\X j<=1073741824)(hi:i<N)(hc:0<=c):Ok N c (slC kd N X c.toNat G i) :=
 ⟨rfl,hX,hk,⟨by show (0:Int)<=(i:Int);omega,by show (i:Int)<(N:Int);omega⟩,by show ((c.toNat:Nat):Int)=c;omega,rfl,by show X i=X (i:Int).toNat;rw [jh]⟩
theorem uO{k r c q:Int}{N W:Nat}(h:Par k r c q N W 0)(w:f)(ro:Option y)(rn rc:Nat)(kd:UInt8)(hk:kd=1\/kd=2)(i:Nat)(hi:i<N)(vo:Option y)(vc:Nat)(X:Nat->Int)(hv:Vec w vo N vc X)(hX:∀ j,j<N->1<=X j/\X j<=1073741824)(bo:Option y)(cb:Nat)(G:Nat->UInt8)(hb:Bec w bo c.toNat cb G):
  l V 151 #[stv k r c q ro rn rc kd,J O (i:Int),I vo N vc,I bo c.toNat cb] w fun e w'=>∃ ao b8,e=jc (I ao (sz N c) b8)/\OwU w.heap.size w' ao (sz N c) b8 (enc (slC kd N X c.toNat G i))/\b7 w w':=by
 obtain⟨k9,xX⟩:=h.cell rfl;have hok:okS N c (slC kd N X c.toNat G i)=true:=(rm hk hX hi za).ok;have Mk:p (∀ u,b7 w u->l V 221 #[Pz k r c q,I vo N vc] u (oI u 0 (mx X N))):=fun u hu=>by
  refine oF h u vo N vc X (hv.below hu) 0 ?_;unfold erV;rw [zk rfl,zk];exact zm ⟨rfl,hX⟩
 have FS:p (∀ u,b7 w u->l V 159 #[Pz k r c q,slv (slC kd N X c.toNat G i) vo vc bo cb] u (AnsB u 0 (sz N c) (enc (slC kd N X c.toNat G i)))):=fun u hu=>by
  refine Bytes_any h u (slC kd N X c.toNat G i) vo vc bo cb ⟨hv.below hu,hb.below hu⟩ 0 ?_;unfold erS;rw [zk rfl,zk hok]
 obtain⟨vb,Mt,rfl,GJ⟩:=hv.rd (show 0<N by omega);have cv:=GJ i hi;obtain⟨w0,bi⟩:=fd (w.alloc (je #[J O k,J O r,J O c,J O q,I ro rn rc,J jd ((kd.toNat:Nat):Int)] 99))
 have B0:p (b7 w w0):=by show S _ _ _;rw [bi];exact bal _ _
 have L0:=am fun v (hv:b7 w0 v)=>(ah (jb _ _) bi).below hv;have SV:=am cv;generalize enc (slC kd N X c.toNat G i)=Q at *
 generalize hszz:sz N c=Z at *
 clear h hv hX hb hok GJ cv hk hszz;obtain⟨M,hM⟩:=fd (mx X N)
 unfold oI at Mk;unfold slv slC AnsB at FS;rw [<- hM] at Mk;simp only [<- hM] at FS;clear hM;obtain⟨m,hm⟩:=fd (c.toNat)
 rw [<- hm] at FS ⊢;clear hm;unfold stv;have i1:(0:Int)<=(i:Int):=za;have i2:(i:Int)<(N:Int):=za;go_enter Tryz.func151,Tryz.ntmps151
 go_wp2_with fail
 rw [<- bi];have q0:=L0.out w0 (jb _ _);have p0:=q0.cz 0;have p1:=q0.cz 1;have p2:=q0.cz 2;have p3:=q0.cz 3;clear q0 bi;go_wp2_with fail
 refine(Mk.out _ B0.out).mono ?_;rintro e wa ⟨rfl,ha⟩;have q0:=L0.out wa ha;have r0:=q0.cz 0;have r1:=q0.cz 1;have r2:=q0.cz 2;have r3:=q0.cz 3;have r5:=q0.cz 5;have rv:=held SV.out (ap B0.out ha);have yN:=am (ap B0.out ha);have Wt:=FS.out _ (yN.out.trans (bdw _ _));have CH:p (∀ v,b7 wa v->(v.cell? ⟨w.heap.size,0,R⟩=ja (J O k)/\v.cell? ⟨w.heap.size,1,R⟩=ja (J O r)/\v.cell? ⟨w.heap.size,2,R⟩=ja (J O c)/\v.cell? ⟨w.heap.size,3,R⟩=ja (J O q)/\v.cell? ⟨w.heap.size,5,R⟩=ja (J jd ((kd.toNat:Nat):Int))/\v.cell? ⟨vb,Mt+i,R⟩=ja (J O (X i)))):=fun v hv=>by
  have q:=(L0.out wa ha).below hv;exact⟨q.cz 0,q.cz 1,q.cz 2,q.cz 3,q.cz 5,held SV.out (ap yN.out hv)⟩
 clear q0 ha p0 p1 p2 p3;go_wp2_with fail
 go_region_held3 (fun v=>v.cell? ⟨w.heap.size,0,R⟩=ja (J O k)/\v.cell? ⟨w.heap.size,1,R⟩=ja (J O r)/\v.cell? ⟨w.heap.size,2,R⟩=ja (J O c)/\v.cell? ⟨w.heap.size,3,R⟩=ja (J O q)/\v.cell? ⟨w.heap.size,5,R⟩=ja (J jd ((kd.toNat:Nat):Int))/\v.cell? ⟨vb,Mt+i,R⟩=ja (J O (X i))) (go_keep) ((go_at_call 159;refine Wt.mono ?_;rintro e wf ⟨ao,b8,rfl,em,xv⟩;have Fb:=am (az xv);have Wu:=am em;obtain⟨e0,e1,e2,e3,e5,ev⟩:=CH.out wf Fb.out;clear xv em))
 all_goals (
  go_wp2_with fail
  go_ret;exact⟨ao,b8,rfl,Wu.out.mono yN.out.size,ap yN.out Fb.out⟩)
end Go.Proofs.YtemlojjkokooeaaGreat
