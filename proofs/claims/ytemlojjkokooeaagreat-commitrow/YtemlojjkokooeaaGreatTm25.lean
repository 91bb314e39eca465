import Derived.Deep.DeepMust
import Derived.Test.YtemlojjkokooeaaGreatTm24
open Go.Value renaming int->J,slice->I,tuple->jj
open Go.IntKind renaming i64->O
open Option renaming some->Q,none->H
open Go.RowKit renaming Below->G,Hid->R
open Go renaming World->S,Addr->jc,Value->je,Calls->jh
open Go.Obj renaming cells->ja
open Go.Proofs.Tryz renaming prog->jb
open Go.Ending renaming returned->jd
open Nat renaming le_refl->jf,zero_le->ji
open Bool renaming false->jg
open Go.RowKit.Below renaming refl->jk
set_option maxHeartbeats 16000000
set_option maxRecDepth 100000
namespace Go.Proofs.YtemlojjkokooeaaGreat
open Go.RowKit
def uK (w:S) (t:Sl) (e:Ending) (w':S):Prop:=∃ ao ca,e=.returned (.slice ao t.vn ca)/\Own w.heap.size w' ao t.vn ca t.V/\b7 w w'
theorem iR{k r c q:Int}{N W:Nat}(h:Par k r c q N W 0)(w:S)(ro:Option jc)(rc:Nat)(A:Nat->Option jc)(L C:Nat->Nat)(F:Nat->Nat->UInt8)(hr:Rw w ro N A L C F)(hL:∀ j,j<2*N->L j=0\/L j=sz N c)(kd:UInt8)(hk:kd=1\/kd=2)(v:Int)(t:Sl)(ht:tS (yy N c L F) kd v (2*N)=t):
  jh jb 70 #[Pz k r c q,I ro N rc,J .u8 ((kd.toNat:Nat):Int),J O v] w (uK w t):=by
 have qe:=h.le;have xJ:sz N c<=1000:=by
  rcases h with ⟨hm,_⟩ | ⟨_,_,_,e⟩
  ·obtain⟨h1,h2,h3,h4,h5,h6,h7,h8,h9⟩:=aB hm;unfold sz;omega
  ·exact absurd e zb
 obtain⟨Z,hZ⟩:=fd (yy N c L F)
 rw [<- hZ] at ht;have kN:R (∀ j,j<2*N->(Z j).ce=0->tB (Z j) kd v=jg):=fun j hj e=>by
  rw [hZ] at e ⊢;rcases cL N c L F j hj with a | a
  ·rw [a];unfold tB zSl;exact zp fun b=>by rcases hk with rfl | rfl <;> exact absurd b.1 zb
  ·exact absurd e (bD a.1).ne
 have Qa:R ((∀ j,j<2*N->tB (Z j) kd v=jg)->t=zSl):=fun g=>by
  rw [<- ht,hZ];rcases dB (v:=v) hk (cL N c L F) (2*N) (jf _) with ⟨a,_⟩ | ⟨j,hj,_,a3,_⟩
  ·exact a
  ·rw [<- hZ] at a3;rw [g j hj] at a3;cases a3
 have JV:R (∀ j,j<2*N->(∀ l,l<j->tB (Z l) kd v=jg)->tB (Z j) kd v=true->t=Z j):=fun j hj g1 g2=>by
  rw [<- ht];have e:tS Z kd v (j+1)=Z j:=by
   have hz:∀ m,m<=j->tS Z kd v m=zSl:=fun m=>by
    induction m with
    | zero=>exact fun _=>rfl
    | succ m ih=>intro hm;rw [tS,ih za,zk (show zSl.ce=0 from rfl),zl (by rw [g1 m za];decide)]
   rw [tS,hz j (jf _),zk (show zSl.ce=0 from rfl),zk g2]
  rw [sj (m:=j+1) ?_ za,e];rw [e];intro a;have:=kN.out j hj a;rw [g2] at this;cases this
 have HP:R (∀ i s,i<N->s<2->∀ u,b7 w u->jh jb 135 #[Pz k r c q,I (A (2*i+s)) (L (2*i+s)) (C (2*i+s)),J O (i:Int)] u fun e w'=>∃ ao ca bo cb,e=jd (jj #[.agg #[J .u8 (((Z (2*i+s)).kd.toNat:Nat):Int),J O (Z (2*i+s)).ix,J O (Z (2*i+s)).ce,J O (Z (2*i+s)).st,I ao (Z (2*i+s)).vn ca,I bo (Z (2*i+s)).dn cb],.bool (decide (¬ (Z (2*i+s)).ce=0))])/\Got u.heap.size w' (Z (2*i+s)) ao ca bo cb/\b7 u w'):=fun i s hi hs u hu=>by
  have hl:L (2*i+s)<=9223372036854775807:=by have:=hL (2*i+s) za;omega
  have:=fg h u _ _ _ _ ((hr.bec (2*i+s) za).below hu) hl (i:Int) (Z (2*i+s)) (by rw [hZ];unfold yy;rw [show (2*i+s) / 2=i by omega]);unfold slv at this;exact this
 obtain⟨w0,bi⟩:=jM w k r c q
 have B0:R (b7 w w0):=by show G _ _ _;rw [bi];exact bal _ _
 have L0:=am fun v (hv:b7 w0 v)=>(ah (jk _ _) bi).below hv;have HR:=am hr;clear h hr hL ht hZ xJ hk;unfold uK;go_enter Tryz.func70,Tryz.ntmps70
 go_wp2_with fail
 rw [<- bi];clear bi;go_loopw [9] (fun y wr=>∃ i:Nat,i<=N/\y=J O (i:Int)/\R (b7 w0 wr)/\R (∀ j,j<2*i->tB (Z j) kd v=jg)) (fun y _=>N-(intOf y).toNat)
 case atStart=>exact⟨0,ji _,rfl,jk _ _,fun j hj=>absurd hj za⟩
 case round =>
  obtain⟨i,hi,rfl,jB,Hf⟩:=hrel;by_cases hlt:i<N
  ·obtain⟨b,off,rfl,jI⟩:=HR.out.at_ za;have i1:(0:Int)<=(i:Int):=za;have i2:(i:Int)<(N:Int):=za;have yI:=am (jI i hlt);have yD:=am (jB.out);clear jI;go_wp2_with fail
   obtain⟨wm,Hb⟩:∃ x,x=wr:=⟨wr,rfl⟩
   rw [<- Hb] at yD ⊢;clear Hb jB wr;go_loopw [10] (fun y wr=>∃ s:Nat,s<=2/\y=J O (s:Int)/\R (b7 w0 wr)/\R (∀ j,j<2*i+s->tB (Z j) kd v=jg)) (fun y _=>2-(intOf y).toNat)
   case atStart=>exact⟨0,ji _,rfl,yD.out,fun j hj=>Hf.out j za⟩
   case round =>
    obtain⟨s,hs,rfl,yF,Hg⟩:=hrel;by_cases hs2:s<2
    ·have JW:R (∀ v,b7 wr v->(v.cell? ⟨w.heap.size,0,H⟩=Q (J O k)/\v.cell? ⟨w.heap.size,1,H⟩=Q (J O r)/\v.cell? ⟨w.heap.size,2,H⟩=Q (J O c)/\v.cell? ⟨w.heap.size,3,H⟩=Q (J O q)/\v.cell? ⟨b,off+i*2+s,H⟩=Q (I (A (2*i+s)) (L (2*i+s)) (C (2*i+s))))):=fun v hv=>by
      have p:=L0.out v (ap yF.out hv);refine⟨p.cz 0,p.cz 1,p.cz 2,p.cz 3,?_⟩;refine held ?_ (ap (ap B0.out yF.out) hv);rcases (show s=0\/s=1 by omega) with rfl | rfl
      ·exact yI.out.1
      ·exact yI.out.2
     have j1:(s:Int)<2:=za;have hP:=fun u (hu:b7 wr u)=>HP.out i s hlt hs2 u (ap (ap B0.out yF.out) hu);obtain⟨y,hy⟩:=fd (Z (2*i+s))
     rw [<- hy] at hP;have HY:=am hy;have JX:tB y kd v=jg->R (∀ j,j<2*i+(s+1)->tB (Z j) kd v=jg):=fun e j hj=>by
      by_cases g:j=2*i+s
      ·rw [g,<- HY.out];exact e
      ·exact Hg.out j za
     have z0:y.ce=0->tB y kd v=jg:=fun e=>by rw [hy] at e ⊢;exact kN.out _ za e
     clear hy;go_wp2_with fail
     refine wL wr k r c q w.heap.size b off N rc i s hs2 i1 i2 (A (2*i+s)) (L (2*i+s)) (C (2*i+s)) y (decide (¬ y.ce=0)) _ _ _ _ _ _ _ _ _ _ _ _ _ _ _ _ _ _ _ _ _ _ _ _ _ _ _ _ _ _ _ _ _ _ _ _ _ _ _ _ _ _ _ _ _ _ JW hP _ (fun v' g ao ca bo cb ku jx zH=>?_);have t0:=jx.cz 0;have t3:=jx.cz 3;have t4:=jx.cz 4;have m9:=am (ap yF.out ku);have HG:=am (zH.vec);have EQ:R (w.heap.size<=wr.heap.size):=(ap B0.out yF.out).size;clear jx ku zH hP;by_cases z:y.ce=0
     ·have X:=JX (z0 z);rw [zp (fun a=>a z)];clear JX z0 z;go_wp2_with fail
      go_roundw
      case rel=>exact⟨s+1,za,by go_num,m9.out,X.out⟩
      case measure=>simp [intOf];omega
     ·rw [zm z];have e1:=rE y.kd kd;by_cases g1:y.kd=kd
      ·rw [zm g1] at e1;by_cases g2:y.st=v
       ·have e2:(y.st == v)=true:=by simp [g2]
        obtain rfl:t=y:=by
         rw [HY.out];exact JV.out (2*i+s) za Hg.out (by rw [<- HY.out];exact zm ⟨g1,g2⟩)
        clear JX z0 z g1 g2;go_wp2_with fail
        go_ret;exact⟨ao,ca,rfl,HG.out.mono EQ.out,ap B0.out m9.out⟩
       ·have e2:(y.st == v)=jg:=by simp [g2]
        have X:=JX (zp fun a=>g2 a.2);clear JX z0 z g1 g2;go_wp2_with fail
        go_roundw
        case rel=>exact⟨s+1,za,by go_num,m9.out,X.out⟩
        case measure=>simp [intOf];omega
      ·rw [zp g1] at e1;have X:=JX (zp fun a=>g1 a.1);clear JX z0 z g1;go_wp2_with fail
       go_roundw
       case rel=>exact⟨s+1,za,by go_num,m9.out,X.out⟩
       case measure=>simp [intOf];omega
    ·have j1:¬ (s:Int)<2:=za;obtain rfl:s=2:=za;go_wp2_with fail
     go_roundw
     case rel=>exact⟨i+1,za,by go_num,yF.out,fun j hj=>Hg.out j za⟩
     case measure=>simp [intOf];omega
  ·obtain rfl:i=N:=za;obtain rfl:t=zSl:=Qa.out Hf.out;go_wp2_with fail
   go_ret;exact⟨H,0,rfl,eM _ _ _,ap B0.out jB.out⟩
def Ans (w:S) (E:Int) (n:Nat) (F:Nat->Int) (e:Ending) (w':S):Prop :=
  ∃ ao b8,e=.returned (.tuple #[.slice ao (aK E n) b8,.int .i64 E])/\Own w.heap.size w' ao (aK E n) b8 F/\b7 w w'
theorem DG{n:Nat}(h:n<=16):n=0\/n=1\/n=2\/n=3\/n=4\/n=5\/n=6\/n=7\/n=8\/n=9\/n=10\/n=11\/n=12\/n=13\/n=14\/n=15\/n=16:=za
theorem tU(w:S)(n:Nat)(hn:n<=16):jh jb 295 #[J .u64 1,J .u64 (n:Int)] w fun e w'=>e=jd (jj #[J .u64 0,J .u64 (n:Int)])/\w'=w:=by
 go_enter Tryz.func295,Tryz.ntmps295
 go_wp2;go_ret2;refine⟨?_,rfl⟩;rcases DG hn with rfl | rfl | rfl | rfl | rfl | rfl | rfl | rfl | rfl | rfl | rfl | rfl | rfl | rfl | rfl | rfl | rfl
 all_goals rfl
theorem mul_one(w:S)(n:Nat)(hn:n<=16):jh jb 219 #[J .u64 1,J .u64 (n:Int)] w fun e w'=>e=jd (jj #[J .u64 0,J .u64 (n:Int)])/\w'=w:=by
 have HM:=fun w=>tU w n hn;go_enter Tryz.func219,Tryz.ntmps219
 go_wp2_with fail
 refine(HM _).mono ?_;rintro e w' ⟨rfl,rfl⟩;go_wp2_with fail
 go_ret2;exact⟨rfl,rfl⟩
def fil (v:Int) (N j:Nat):List je:=List.replicate j (.int .i64 v) ++ List.replicate (N-j) (.int .i64 0)
theorem eZ{v:Int}{N j:Nat}(h:j<=N):(fil v N j).length=N:=by unfold fil;simp;omega
theorem fM{v:Int}{N j i:Nat}(h:i<j):(fil v N j)[i]? = Q (J O v):=by
 unfold fil;rw [List.getElem?_append_left (by simpa using h),List.getElem?_replicate,zk h]
theorem iL{v:Int}{N j c:Nat}(h:j+c<=N):splice (fil v N j) j (List.replicate c (J O v))=fil v N (j+c):=by
 unfold splice;apply List.ext_getElem?
 intro i;have e1:((fil v N j).take j).length=j:=by rw [List.length_take,eZ za];omega
 by_cases h1:i<j
 ·rw [List.getElem?_append_left za,List.getElem?_take_of_lt h1,fM h1,fM za]
 ·rw [List.getElem?_append_right za,e1];by_cases h2:i<j+c
  ·rw [List.getElem?_append_left zj,List.getElem?_replicate,zk za,fM h2]
  ·rw [List.getElem?_append_right zj,List.getElem?_drop,List.length_replicate];have:j+c+(i-j-c)=i:=za;rw [this];unfold fil;rw [List.getElem?_append_right zj,List.getElem?_append_right zj,List.length_replicate,List.length_replicate,List.getElem?_replicate,List.getElem?_replicate];by_cases h3:i<N
   ·rw [zk za,zk za]
   ·rw [zl za,zl za]
theorem vh(v:Int)(N:Nat):madeCells #[J O 0] N=(fil v N 0).toArray:=by
 apply Array.ext'
 rw [toList_madeCells_one];simp [fil]
theorem CX{w:S}{B g N:Nat}{v:Int}(h:w.heap[g]? = Q (ja (fil v N N).toArray 3 (0,0)))(hB:B<=g)(hN:N<=16):Own B w (Q ⟨g,0,H⟩) N N (fun _=>v):=by
 refine sM (f:=fun _=>J O v) ⟨_,h,by simp [fil],fun i hi=>?_⟩ hB za (fun _ _=>rfl);have:=fM (v:=v) (N:=N) hi
 simpa using this
theorem rh(w:S)(gx n:Nat)(v:Int)(hn:n<=16)(h1:1<=n)(hx:w.cell? ⟨gx,0,H⟩=Q (J O v)):
  jh jb 148 #[I (Q ⟨gx,0,H⟩) 1 1,J O (n:Int)] w fun e w'=>∃ g b8,e=jd (I (Q ⟨g,0,H⟩) n b8)/\Own w.heap.size w' (Q ⟨g,0,H⟩) n b8 (fun _=>v)/\b7 w w':=by
 have HM:=fun w=>mul_one w n hn;have hm:=run_make_row' (P:=jb) 27 3 (J O 0) 8 Tryz.underlying27 gy rfl O O n za za;rw [vh v] at hm;have SO:(Tryz.prog.info? 3).map (·.size)=Q 1:=zh
 obtain⟨w1,ci⟩:=fd (w.alloc (ja (fil v n 0).toArray 3))
 have SP:=hm w;rw [<- ci] at SP;have HG:R (w1.heap[w.heap.size]? = Q (ja (fil v n 0).toArray 3 (0,0))):=by rw [ci];exact heap_alloc_new w _
 have HB:R (b7 w w1):=by rw [ci];exact bal _ _
 have HX:=am (held hx HB.out);clear hm ci hx;have c1:(n:Int)<=9223372036854775807:=za;go_enter Tryz.func148,Tryz.ntmps148
 go_wp2_with fail
 refine(HM _).mono ?_;rintro e w' ⟨rfl,g8⟩;obtain rfl:=g8.symm;have SQ:R (∀ j u,(List.replicate 1 (Value.int O v))[j]? = Q u->w1.cell? ((⟨gx,0,H⟩:jc).add j)=Q u):=fun j u hu=>by
  have hj:j<1:=db zi hu;obtain rfl:j=0:=za;rw [Addr.add_lit];have e:u=J O v:=by simpa using hu.symm
  rw [e];exact HX.out
 go_wp2_with (refine wpList_copy_splice zg (.tmp 31) (.tmp 32) 27 27 zg 3 Tryz.underlying27 SO (Q ⟨w.heap.size,0,H⟩) (Q ⟨gx,0,H⟩) n n 1 1 zg zg w.heap.size 0 (fil v n 0) 3 HG.out (List.replicate 1 (J O v)) (by show _=min 1 n;rw [List.length_replicate];omega) (by intro _;exact⟨rfl,_,rfl,SQ.out⟩) (by rw [List.length_replicate,eZ (ji _)];omega) (by intro u hu;rw [List.eq_of_mem_replicate hu];rfl) w.heap.size w HB.out (jf _) ?_;intro w2 I9 SR)
 have Qb:R (w2.heap[w.heap.size]? = Q (ja (fil v n 1).toArray 3 (0,0))):=by
  show _=_;rw [I9.out,iL (show 0+1<=n by omega)]
 have jv:=am SR;clear I9 SR HG HB HX SQ SP HM;simp only [zp (show ¬ (n:Int)<0 by omega),zp (show ¬ (9223372036854775807:Int)<(n:Int) by omega)];clear c1;go_loopw [8] (fun x wr=>∃ j:Nat,1<=j/\j<=n/\x=J O (j:Int)/\R (wr.heap[w.heap.size]? = Q (ja (fil v n j).toArray 3 (0,0)))/\R (b7 w wr)) (fun x _=>n-(intOf x).toNat)
 case atStart=>exact⟨1,za,za,rfl,Qb.out,jv.out⟩
 case round =>
  obtain⟨j,kB,kt,rfl,jA,d8⟩:=hrel;by_cases hlt:j<n
  ·obtain⟨c,k9,xX⟩:∃ c,c=Nat.min j (n-j)/\1<=c:=⟨_,rfl,by show 1<=min j (n-j);omega⟩
   have KB:j+c<=n:=by have:c=min j (n-j):=k9;omega
   have Lv:=am k9;have Wn:R (splice (fil v n j) j (List.replicate c (J O v))=fil v n (j+c)):=iL KB;have ld:R (∀ i u,(List.replicate c (Value.int O v))[i]? = Q u->wr.drew.cell? ((⟨w.heap.size,0,H⟩:jc).add i)=Q u):=fun i u hu=>by
    have hi:i<c:=db zi hu;have Qc:c<=j:=by rw [k9];exact Nat.min_le_left _ _
    rw [Addr.add_lit,show (wr.drew.cell? ⟨w.heap.size,0+i,H⟩)=wr.cell? ⟨w.heap.size,0+i,H⟩ from rfl,cell_of_row _ _ _ _ _ _ jA.out];have e:u=J O v:=by rw [List.getElem?_replicate,zk hi] at hu;exact(Option.some.inj hu).symm
    have:=fM (v:=v) (N:=n) (show 0+i<j by omega);rw [e];simpa using this
   have kU:wr.drew.heap[w.heap.size]? = Q (ja (fil v n j).toArray 3 (0,0)):=jA.out;have Wo:R ((fil v n j).length=n):=eZ kt;have j1:(0:Int)<=(j:Int):=za;have j2:(j:Int)<=(n:Int):=za;have j3:¬ n=j:=za;have xZ:=am kU;clear kU k9;go_wp2_with fail
   have Mi:IntKind.i64.wrap ((j:Int)+(c:Int))=(j:Int)+(c:Int):=by rw [IntKind.wrap_i64];omega
   go_region_held3 (fun _=>True) (go_keep) ((refine step_copy_splice rfl (.tmp 41) (.tmp 44) 27 27 rfl 3 Tryz.underlying27 SO (Q ⟨w.heap.size,j,H⟩) (Q ⟨w.heap.size,0,H⟩) (n-j) (n-j) j n (by simp [Act.eval]) (by simp [Act.eval]) w.heap.size j (fil v n j) 3 xZ.out (List.replicate c (J O v)) (by rw [List.length_replicate];exact Lv.out) (by intro _;exact⟨rfl,_,rfl,ld.out⟩) (by rw [List.length_replicate,Wo.out];exact KB) (by intro u hu;rw [List.eq_of_mem_replicate hu];rfl) w.heap.size w (d8.out.drew) (jf _) ?_;intro w4 He E5))
   have Wp:R (w4.heap[w.heap.size]? = Q (ja (fil v n (j+c)).toArray 3 (0,0))):=by show _=_;rw [<- Wn.out];exact He.out
   have yT:=am E5;clear He E5 ld xZ;go_wp2;go_roundw
   case rel=>exact⟨j+c,za,KB,by go_num,Wp.out,yT.out⟩
   case measure=>simp [intOf];omega
  ·obtain rfl:j=n:=za;go_wp2;go_ret;exact⟨_,_,rfl,CX jA.out (jf _) hn,d8.out⟩
theorem mS{k r c q:Int}{N W:Nat}{x:Int}(h:Par k r c q N W x)(v:Int)(w:S)(E:Int)(hE:erA x v=E):
  jh jb 82 #[Pz k r c q,J O v] w (Ans w E N (fun _=>v)):=by
 have HD:=fun w=>cW h w;have hx:=h.err;have hf:=h.few;have hs:=h.some;have HV:=fun w=>eV v w;clear h;obtain⟨w0,bi⟩:=jM w k r c q
 have b0:=jt bi
 unfold Ans;rcases hx with rfl | rfl
 ·cases hv:fj v
  ·obtain rfl:E=70:=by rw [<- hE];unfold erA;rw [zk rfl,zl (by rw [hv];decide)]
   rw [hv] at HV;rw [aZ N (show (70:Int) ≠ 0 by decide)];clear hE hv hs;go_enter Tryz.func82,Tryz.ntmps82
   go_wp2_with fail
   rw [<- bi];refine(HD _).mono ?_;rintro e wa ⟨rfl,ha⟩;have hb:=ap b0 ha;clear bi;go_wp2_with fail
   refine(HV _).mono ?_;rintro e w' ⟨rfl,rfl⟩;go_wp2_with fail
   go_ret2;exact⟨_,_,rfl,eM _ _ _,hb⟩
  ·obtain rfl:E=0:=by rw [<- hE];unfold erA;rw [zk rfl,zk hv]
   rw [hv] at HV;rw [aQ];have h1:=hs rfl;have HR:=fun w gx hx=>rh w gx N v hf h1 hx;clear hE hv hs;go_enter Tryz.func82,Tryz.ntmps82
   go_wp2_with fail
   rw [<- bi];refine(HD _).mono ?_;rintro e wa ⟨rfl,ha⟩;have hb:=ap b0 ha;clear bi;go_wp2_with fail
   refine(HV _).mono ?_;rintro e w' ⟨rfl,g8⟩;obtain rfl:=g8;go_wp2_with fail
   refine(HR _ w'.heap.size ?_).mono ?_
   ·rw [cell_of_row _ _ _ _ _ _ (heap_alloc_new w' _)];rfl
   rintro e wb ⟨g,b8,rfl,em,jP⟩;have ku:=ap hb (ap (bal _ _) jP);go_wp2_with fail
   go_ret2;exact⟨_,_,rfl,em.mono (by have:=hb.size;simp;omega),ku⟩
 ·obtain rfl:E=2:=by rw [<- hE];unfold erA;rw [zl zb]
  rw [aZ N (show (2:Int) ≠ 0 by decide)];clear hE hs;go_enter Tryz.func82,Tryz.ntmps82
  go_wp2_with fail
  rw [<- bi];refine(HD _).mono ?_;rintro e wa ⟨rfl,ha⟩;have hb:=ap b0 ha;clear bi;go_wp2_with fail
  go_ret2;exact⟨_,_,rfl,eM _ _ _,hb⟩
def Cap (wz v:S) (gp:Nat) (ty e sz m:Nat) (xs:List je) (Y:Nat->Prop):Prop :=
  ∃ ao b8,At wz v gp #[.slice ao m b8] ty/\v.ownsRow wz.heap.size e sz (.slice ao m b8) m xs/\∀ g,Y g ↔ (g=gp\/∃ a:jc,ao=Q a/\g=a.block)
theorem aX{w:S}{B e sz n b8:Nat}{ao:Option jc}{xs:List je}(h:w.ownsRow B e sz (I ao n b8) n xs){a:jc}(ha:ao=Q a):B<=a.block/\a.block<w.heap.size/\∃ jw,w.heap[a.block]? = Q (ja jw e (0,0)):=by
 rcases h.2 with ⟨h1,_⟩ | ⟨g,jy,jw,h1,h2,h3,_⟩
 ·cases h1;cases ha
 ·cases h1;cases ha;exact⟨h2,(Array.getElem?_eq_some_iff.1 h3).1,jw,h3⟩
theorem bQ{w w':S}{B e sz n b8:Nat}{ao:Option jc}{xs:List je}(h:w.ownsRow B e sz (I ao n b8) n xs)(hb:∀ a:jc,ao=Q a->w'.heap[a.block]? = w.heap[a.block]?):w'.ownsRow B e sz (I ao n b8) n xs:=by
 refine⟨h.1,?_⟩;rcases h.2 with h1 | ⟨g,jy,jw,h1,h2,h3,h4⟩
 ·exact .inl h1
 ·cases h1;exact .inr ⟨g,b8,jw,rfl,h2,(hb ⟨g,0,H⟩ rfl).trans h3,h4⟩
theorem ar{w w':S}{B e sz n b8:Nat}{ao:Option jc}{xs:List je}(h:w.ownsRow B e sz (I ao n b8) n xs)(hb:b7 w w'):w'.ownsRow B e sz (I ao n b8) n xs :=
 bQ h fun _ ha=>hb.block _ (aX h ha).2.1
theorem Cap.below{wz v v':S}{gp ty e sz m:Nat}{xs:List je}{Y:Nat->Prop}(h:Cap wz v gp ty e sz m xs Y)(hb:b7 v v'):Cap wz v' gp ty e sz m xs Y:=by
 obtain⟨ao,b8,hA,hO,hY⟩:=h;exact⟨ao,b8,hA.below hb,ar hO hb,hY⟩
theorem Cap.at_{wz v:S}{gp ty e sz m:Nat}{xs:List je}{Y:Nat->Prop}(h:Cap wz v gp ty e sz m xs Y)(g:Nat)(hg:Y g):wz.heap.size<=g/\g<v.heap.size:=by
 obtain⟨ao,b8,hA,hO,hY⟩:=h;rcases (hY g).1 hg with rfl | ⟨a,ha,rfl⟩
 ·exact⟨hA.1,hA.lt⟩
 ·exact⟨(aX hO ha).1,(aX hO ha).2.1⟩
theorem oT{wz v v1 w':S}{gp ty e sz m b8 g jy:Nat}{ao:Option jc}{xs SS:List je}{Y:Nat->Prop}(Wq:ty ≠ e)(hA:At wz v gp #[I ao m b8] ty)(hO:v.ownsRow wz.heap.size e sz (I ao m b8) m xs)(hY:∀ g,Y g ↔ (g=gp\/∃ a:jc,ao=Q a/\g=a.block))
  (hb:b7 v v1) (hg:v1.grownBy w' (Value.slice ao m b8).ownBlock) (ho:w'.ownsRow wz.heap.size e sz (I (Q ⟨g,0,H⟩) (m+1) jy) (m+1) SS) (hgg:(Value.slice ao m b8).ownBlock=Q g\/g=v1.heap.size) :
  Cap wz (w'.setCell ⟨gp,0,H⟩ (I (Q ⟨g,0,H⟩) (m+1) jy)) gp ty e sz (m+1) SS (fun x=>x=gp\/x=g)/\Only Y v (w'.setCell ⟨gp,0,H⟩ (I (Q ⟨g,0,H⟩) (m+1) jy))/\∀ x,(x=gp\/x=g)->Y x\/v.heap.size<=x:=by
 have hs:=hb.size;have hlt:=hA.lt;have f9:∀ a:jc,ao=Q a->a.block ≠ gp:=fun a ha e1=>by
  obtain⟨_,_,jw,hc⟩:=aX hO ha;rw [e1,hA.2] at hc;cases hc
  exact Wq rfl
 have Qd:g ≠ gp:=by
  rcases hgg with e1 | e1
  ·cases ao with
   | none=>cases e1
   | some a=>cases e1;exact f9 a rfl
  ·omega
 have Wr:At wz w' gp #[I ao m b8] ty:=⟨hA.1,by
  rw [hg.block gp za (fun e1=>by
   cases ao with
   | none=>cases e1
   | some a=>cases e1;exact f9 a rfl rfl),hb.block gp hlt]
  exact hA.2⟩
 refine⟨⟨Q ⟨g,0,H⟩,jy,?_,?_,fun x=>?_⟩,⟨?_,?_,?_,?_,fun x hx hy=>?_⟩,fun x hx=>?_⟩
 ·exact Wr.set 0 _
 ·exact bQ ho fun a ha=>by cases ha;exact Below.heap_setCell _ _ _ _ (by simpa using Qd)
 ·constructor
  ·rintro(h | h)
   ·exact .inl h
   ·exact .inr ⟨_,rfl,h⟩
  ·rintro(h | ⟨a,ha,h⟩)
   ·exact .inl h
   ·cases ha;exact .inr h
 ·exact hg.os.trans hb.os
 ·exact hg.tape.trans hb.tape
 ·exact hg.output.trans hb.output
 ·have:=hg.size;simp [World.setCell];omega
 ·have Qe:x ≠ gp:=fun e1=>hy ((hY x).2 (.inl e1));rw [Below.heap_setCell _ _ _ _ (by simpa using Qe),hg.block x za (fun e1=>by
   cases ao with
   | none=>cases e1
   | some a=>cases e1;exact hy ((hY _).2 (.inr ⟨a,rfl,rfl⟩))),hb.block x hx]
 ·rcases hx with h | h
  ·exact .inl ((hY x).2 (.inl h))
  ·subst h;rcases hgg with e1 | e1
   ·cases ao with
    | none=>cases e1
    | some a=>cases e1;exact .inl ((hY _).2 (.inr ⟨a,rfl,rfl⟩))
   ·exact .inr za
def lz (z:Nat->Sl) (i:Nat):Nat:=if (z i).ce=0 then 0 else 1
def ct (z:Nat->Sl) (d:Nat):Nat:=Cod.cnt (lz z) d
def se (z:Nat->Sl) (d:Nat):Nat->Int:=fun t=>((Cod.sel (lz z) d t:Nat):Int)
theorem ct_le(z:Nat->Sl)(d:Nat):ct z d<=d:=Cod.cnt_le _ _
theorem nb{z:Nat->Sl}{d:Nat}(h:(z d).ce=0):ct z (d+1)=ct z d/\se z (d+1)=se z d:=by
 have:lz z d=0:=zk h;refine⟨Cod.cnt_skip this,?_⟩;unfold se;rw [Cod.sel_skip this]
def zv (N:Nat) (c:Int) (L:Nat->Nat) (F:Nat->Nat->UInt8) (kd:UInt8) (v:Int) (i:Nat):Sl:=zz (yy N c L F) kd (tS (yy N c L F) kd v (2*N)) i
theorem sZ{wz v v':S}{gp ty e sz:Nat}(hb:b7 wz v)(hv:v'=v.alloc (ja #[I H 0 0] ty))(hg:v.heap.size=gp):Cap wz v' gp ty e sz 0 [] (fun x=>x=gp):=by
 refine⟨H,0,by rw [<- hg];exact ah hb hv,World.ownsRow_nil _ _ _ _,fun g=>⟨fun h=>.inl h,fun h=>?_⟩⟩;rcases h with h | ⟨a,ha,_⟩
 ·exact h
 ·cases ha
def toK (u:UInt8):Cod.K:=⟨u.toNat,u.toNat_lt⟩
def bK (a:Cod.K):UInt8:=UInt8.ofNat (Cod.K.n a)
theorem bK_n(a:Cod.K):(bK a).toNat=Cod.K.n a:=by
 have:=Cod.K.lt a;unfold bK;simp;omega
theorem DM(u:UInt8):bK (toK u)=u:=UInt8.toNat_inj.1 (bK_n (toK u))
theorem mD{w:S}{ao:Option jc}{n:Nat}{F:Nat->UInt8}(h:RdU w ao n F):Cod.Rd w ao n (fun j=>toK (F j)):=h
theorem ig(n:Nat)(f:Nat->Cod.K):Cod.cellsOf n f=byF n (fun j=>bK (f j)):=by
 unfold Cod.cellsOf byF;refine List.map_congr_left fun i _=>?_;rw [bK_n]
def Lz (z:Nat->Sl) (i:Nat):Nat:=(z i).dn
def Hz (z:Nat->Sl) (i j:Nat):Cod.K:=toK ((z i).D j)
def cD (k:Nat) (z:Nat->Sl) (N:Nat):Cod.M:=Cod.dec k (Cod.sel (Lz z) N) (Hz z)
def cH (k:Nat) (z:Nat->Sl) (N:Nat) (i b:Nat):UInt8:=bK (Cod.enc k (cD k z N) i b)
theorem uA(d:Nat)(T:Nat->Option jc)(L U:Nat->Nat)(b:Option jc)(u:Nat):Cod.rowsOf (d+1) (Cod.put d b T) L (Cod.put d u U)=Cod.rowsOf d T L U ++ [I b (L d) u]:=by
 unfold Cod.rowsOf;rw [List.range_succ,List.map_append,List.map_cons,List.map_nil,Cod.put_at,Cod.put_at];congr 1
 refine List.map_congr_left fun i hi=>?_;have:=List.mem_range.1 hi;rw [Cod.put_ne _ _ za,Cod.put_ne _ _ za]
theorem du{wz v:S}{gp ty e sz m b t:Nat}{xs:List je}{Y:Nat->Prop}{jw:Array je}{f:Nat × Nat}(h:Cap wz v gp ty e sz m xs Y)(hb:v.heap[b]? = Q (ja jw t f))(h1:ty ≠ t)(h2:e ≠ t):¬ Y b:=fun hy=>by
 obtain⟨ao,b8,hA,hO,hY⟩:=h;rcases (hY b).1 hy with rfl | ⟨a,ha,rfl⟩
 ·rw [hA.2] at hb;cases hb;exact h1 rfl
 ·obtain⟨_,_,Gz,hc⟩:=aX hO ha;rw [hc] at hb;cases hb;exact h2 rfl
theorem fq{wz v v':S}{B n b8 gp ty e sz m:Nat}{ao:Option jc}{F:Nat->UInt8}{xs:List je}{Y:Nat->Prop}(h:OwU B v ao n b8 F)(hc:Cap wz v gp ty e sz m xs Y)(h1:ty ≠ 5)(h2:e ≠ 5)(ho:Only Y v v'):OwU B v' ao n b8 F :=
 bQ h fun a ha=>by
  obtain⟨_,hl,jw,hh⟩:=aX h ha;exact ho.block _ hl (du hc hh h1 h2)
def Thr (wz:S) (gp:Nat) (z:Nat->Sl) (d:Nat) (v:S) (Y:Nat->Prop):Prop :=
  ∃ T U,Cap wz v gp 33 36 1 d (Cod.rowsOf d T (Lz z) U) Y/\∀ i,i<d->OwU wz.heap.size v (T i) (Lz z i) (U i) (z i).D
theorem pX(wz v:S)(gp d B:Nat)(z:Nat->Sl)(Y:Nat->Prop)(x0 x1 x2:je)(hd:d<16)(ao:Option jc)(ca:Nat)(bo:Option jc)(cb:Nat)(h:Thr wz gp z d v Y)(hG:OwU B v bo (z d).dn cb (z d).D)(hB:∀ g,Y g->g<B):
    jh jb 138 #[x2,.agg #[x0,x1],slv (z d) ao ca bo cb,.pointer (Q ⟨gp,0,H⟩)] v fun e v'=>e=jd (jj #[])/\∃ Y',Thr wz gp z (d+1) v' Y'/\Only Y v v'/\∀ g,Y' g->Y g\/v.heap.size<=g:=by
  unfold slv
  obtain⟨T,U,⟨oo,cc,hA,hO,hY⟩,hT⟩:=h
  have xJ:wz.heap.size<=v.heap.size:=Nat.le_trans hA.1 (Nat.le_of_lt hA.lt)
  have SU:wz.heap.size<=B:=by have:=hB gp ((hY gp).2 (.inl rfl));have:=hA.1;omega
  obtain⟨v0,hv0⟩:=fd (v.alloc (ja #[x0,x1] 97))
  obtain⟨v1,xT⟩:=fd (v0.alloc (ja #[J .u8 (((z d).kd.toNat:Nat):Int),J O (z d).ix,J O (z d).ce,J O (z d).st,I ao (z d).vn ca,I bo (z d).dn cb] 107))
  have b0:=jt hv0
  have b1:b7 v v1:=by rw [xT];exact ap b0 (bal _ _)
  have z0:=ks hv0
  obtain⟨xs,xV⟩:=fd (Cod.rowsOf d T (Lz z) U)
  have HX:R (xs ++ [I bo (z d).dn cb]=Cod.rowsOf (d+1) (Cod.put d bo T) (Lz z) (Cod.put d cb U)):=by show _=_;rw [uA,xV];rfl
  rw [<- xV] at hO
  obtain⟨i0,hi,yJ,EW,hi2⟩:=info_parts Cod.info23c
  have HA:=am hA
  have HO:=am hO
  have HY:=am hY
  have HB:=am b1
  have xK:R (v1.heap.size=v.heap.size+1+1):=by show _=_;rw [xT];simp [z0]
  have HT:=am hT
  have HG:=am (hG.mono SU)
  have sg:=fun o o'=>((hA.alloc o).alloc o').cz 0
  clear hA hO hY b0 b1 z0 hT hG hB SU xV
  go_enter Tryz.func138,Tryz.ntmps138
  go_wp2_with (at_builtin;rw [<- hv0, <- xT];clear hv0 xT;refine wpList_append_lies _ zg (.tmp 7) (.tmp 10) 33 zg wz.heap.size 36 i0 (I H 0 0) 1 24 Tryz.underlying33 hi yJ EW hi2 zg zb (I oo d cc) d xs zg (ar HO.out (ap HB.out (bal _ _))) ⟨v.heap.size + 1 + 1, 0, H⟩ 1 1 [I bo (z d).dn cb] zg zg (by rw [<- xK.out];exact World.news_of_block (heap_alloc_new v1 _)) (by simp [Value.oneCell']) zb (by unfold maxLen;omega) za (by have := HB.out.size;simp;omega) (v1.heap.size + 1) zi ?_;intro g5 ky w5 jG i7 Id _
               have hall:=oT zb HA.out HO.out HY.out (ap HB.out (bal v1 _)) i7 jG (by rcases Id with a | a;exact .inl a;exact .inr (by rw [a];simp))
               have kU:=i7.block gp (by have:=HA.out.lt;have:=HB.out.size;simp;omega) (fun e1=>by
                 cases oo with
                 | none=>cases e1
                 | some a =>
                   cases e1
                   obtain⟨_,_,jw,hc⟩:=aX HO.out rfl
                   rw [HA.out.2] at hc
                   cases hc)
               have Fz:At wz w5 gp #[I oo d cc] 33:=⟨HA.out.1,kU.trans (((HA.out.below HB.out).alloc _).2)⟩
               have t0:=Fz.cz 0
               have tf:=Fz.free
               have yi:R _:=hall
               clear hall kU Fz jG i7 Id)
  refine bodyPost_end (results_none rfl _ _ _) rfl ?_
  refine⟨rfl,_,⟨Cod.put d bo T,Cod.put d cb U,by rw [<- HX.out];exact yi.out.1,fun i hi=>?_⟩,yi.out.2.1,yi.out.2.2⟩
  have hcap:Cap wz v gp 33 36 1 d xs Y:=⟨oo,cc,HA.out,HO.out,HY.out⟩
  by_cases e:i=d
  · subst e
    rw [Cod.put_at,Cod.put_at]
    exact fq HG.out hcap zb zb yi.out.2.1
  · rw [Cod.put_ne _ _ e,Cod.put_ne _ _ e]
    exact fq (HT.out i za) hcap zb zb yi.out.2.1
end Go.Proofs.YtemlojjkokooeaaGreat
