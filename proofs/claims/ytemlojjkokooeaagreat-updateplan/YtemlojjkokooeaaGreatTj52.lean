import Derived.Lib.SmallJoins
import Derived.Deep.FieldsWide
import Derived.Deep.Grids
import Derived.SizedLaws
import Derived.Test.YtemlojjkokooeaaGreatTj48
import Derived.Test.YtemlojjkokooeaaGreatTj51
set_option maxHeartbeats 16000000
set_option maxRecDepth 100000
namespace Go.Proofs.YtemlojjkokooeaaGreat
open Go.RowKit Go.Maps Go.ChangeShapes
theorem long_any(w:World)(lo:Option Addr)(n lc:Nat)(b:Bool)(hb:decide (40<n)=b):
  Calls Tryz.prog 29 #[.slice lo n lc] w fun e w'=>e=.returned (.bool b)/\w'=w:=by
 subst hb;by_cases h:40<n
 ·have h2:(40:Int)<(n:Int):=by omega
  rw [decide_eq_true h];go_enter Tryz.func29,Tryz.ntmps29
  go_wp2_with fail
  go_ret;exact⟨rfl,rfl⟩
 ·have h2:¬ (40:Int)<(n:Int):=by omega
  rw [decide_eq_false h];go_enter Tryz.func29,Tryz.ntmps29
  go_wp2_with fail
  go_ret;exact⟨rfl,rfl⟩
theorem up_law{k r c q:Int}{N W:Nat}{x:Int}(h:Par k r c q N W x)(w:World)(ro:Option Addr)(rn rc:Nat)(A:Nat->Option Addr)(L C:Nat->Nat)(F:Nat->Nat->UInt8)(hr:Rw w ro rn A L C F)(hn:rn*48<=140737488351232)(nu fr tv:Int)(lo:Option Addr)(n lc:Nat)(D:Nat->Int)(AA:Nat->Option Addr)(LL CC:Nat->Nat)(H:Nat->Nat->UInt8)(hl:Chl w lo n lc D AA LL CC H):
  Calls Tryz.prog 5 #[.agg #[.int .i64 k,.int .i64 r,.int .i64 c,.int .i64 q],.slice ro rn rc,.int .i64 nu,.int .i64 fr,.int .i64 tv,.slice lo n lc] w fun e w'=>e=.returned (.bool true)/\Below w.heap.size w w':=by
 obtain⟨w0,hw0⟩:∃ w0,w0=w.alloc (.cells #[.int .i64 k,.int .i64 r,.int .i64 c,.int .i64 q] 23):=⟨_,rfl⟩
 have b0:Below w.heap.size w w0:=by rw [hw0]; exact bal _ _
 by_cases hnn:40<n
 ·clear h hr hl;go_enter Tryz.func5,Tryz.ntmps5
  go_wp2_with fail
  rw [<- hw0];clear hw0;refine(Up.awake_any _).mono ?_;rintro e wa ⟨rfl,ha⟩;have HB:Hid (Below w.heap.size w wa):=bth b0 ha;clear ha b0;go_wp2_with fail
  refine(long_any wa lo n lc true (decide_eq_true hnn)).mono ?_;rintro e wl ⟨rfl,rfl⟩;go_wp2_with fail
  go_ret;exact⟨rfl,HB.out⟩
 obtain⟨E,Lc,os,S,G,hS,hboth⟩:=plan_both h rn L F nu fr tv n D LL H (by omega);have hle:=h.le;obtain⟨M,hM⟩:∃ M,M=lenE E (Cod.cnt Lc N):=⟨_,rfl⟩
 have HMM:Hid (M=lenE E (Cod.cnt Lc N)/\M<=16):=⟨hM,by
  rw [hM]; unfold lenE;have:=Cod.cnt_le Lc N;split <;> omega⟩
 have HSN:Hid (M=0\/S<=1000):=by
  rcases hS with a | a
  ·exact .inr a
  ·left; rw [hM]; unfold lenE; rw [if_neg a]
 rw [<- hM] at hboth;have K31:Hid (∀ v ao cap A2 C2 po pc AA2 CC2,Rw v ao rn A2 L C2 F->Chl v po n pc D AA2 LL CC2 H->Calls Tryz.prog 31 #[.agg #[.int .i64 k,.int .i64 r,.int .i64 c,.int .i64 q],.slice ao rn cap,.int .i64 nu,.int .i64 fr,.int .i64 tv,.slice po n pc] v fun e w'=>∃ a b T U,e=.returned (.tuple #[.slice a M b,.int .i64 E])/\(E=0->PL v.heap.size w' a (Cod.cnt Lc N) b N Lc os nu S T U G)/\Below v.heap.size v w'):=fun v ao cap A2 C2 po pc AA2 CC2 h1 h2=>(hboth v ao cap A2 C2 po pc AA2 CC2 h1 h2).1;have K32:Hid (∀ v ao cap A2 C2 po pc AA2 CC2,Rw v ao rn A2 L C2 F->Chl v po n pc D AA2 LL CC2 H->Calls Tryz.prog 32 #[.agg #[.int .i64 k,.int .i64 r,.int .i64 c,.int .i64 q],.slice ao rn cap,.int .i64 nu,.int .i64 fr,.int .i64 tv,.slice po n pc] v fun e w'=>∃ a b T U,e=.returned (.tuple #[.slice a M b,.int .i64 E])/\(E=0->PL v.heap.size w' a (Cod.cnt Lc N) b N Lc os nu S T U G)/\Below v.heap.size v w'):=fun v ao cap A2 C2 po pc AA2 CC2 h1 h2=>(hboth v ao cap A2 C2 po pc AA2 CC2 h1 h2).2;have HR:Hid (Rw w ro rn A L C F):=hr;have HL:Hid (Chl w lo n lc D AA LL CC H):=hl;have HN:Hid (rn*48<=140737488351232):=hn;have HNN:Hid (¬ 40<n):=hnn;have L0:Hid (∀ v,Below w0.heap.size w0 v->At w v w.heap.size #[.int .i64 k,.int .i64 r,.int .i64 c,.int .i64 q] 23):=fun v hv=>(at_made (Below.refl _ _) hw0).below hv;have B0:Hid (Below w.heap.size w w0):=b0;clear hr hl hn b0 hS hboth hM hle h hnn;go_enter Tryz.func5,Tryz.ntmps5
 go_wp2_with fail
 rw [<- hw0];clear hw0;refine(Up.awake_any _).mono ?_;rintro e wa ⟨rfl,ha⟩;have SA:Hid (Below w0.heap.size w0 wa):=ha;clear ha;go_wp2_with fail
 refine(long_any wa lo n lc false (decide_eq_false HNN.out)).mono ?_;rintro e wl ⟨rfl,rfl⟩;have HRA:=HR.out.below (bth B0.out SA.out);go_wp2_with fail
 refine(Twin_any wl ro rn rc A L C F HRA HN.out).mono ?_;rintro e wt ⟨ao,cap,A',C',rfl,htw⟩;have ST:Hid (Below wl.heap.size wl wt):=htw.bel;have HRT0:Hid (Rw wt ao rn A' L C' F):=htw.rw;have HRO0:Hid (Rw wt ro rn A L C F):=HRA.below ST.out;have HLT:Hid (Chl wt lo n lc D AA LL CC H):=HL.out.below (bth (bth B0.out SA.out) ST.out);clear htw HRA;go_wp2_with fail
 refine(TwinC_any wt lo n lc D AA LL CC H HLT.out (by have:=HNN.out; omega)).mono ?_;rintro e wb ⟨po,pc,AA',CC',rfl,hcq⟩;have SB:Hid (Below wt.heap.size wt wb):=hcq.bel;have HLN0:Hid (Chl wb po n pc D AA' LL CC' H):=hcq.chl;clear hcq;have HRT:Hid (∀ v,Below wb.heap.size wb v->Rw v ao rn A' L C' F):=fun v hv=>(HRT0.out.below SB.out).below hv;have HRO:Hid (∀ v,Below wb.heap.size wb v->Rw v ro rn A L C F):=fun v hv=>(HRO0.out.below SB.out).below hv;have HLN:Hid (∀ v,Below wb.heap.size wb v->Chl v po n pc D AA' LL CC' H):=fun v hv=>HLN0.out.below hv;have HLO:Hid (∀ v,Below wb.heap.size wb v->Chl v lo n lc D AA LL CC H):=fun v hv=>(HLT.out.below SB.out).below hv;have LP:Hid (∀ v,Below wb.heap.size wb v->At w v w.heap.size #[.int .i64 k,.int .i64 r,.int .i64 c,.int .i64 q] 23):=fun v hv=>L0.out v (bth (bth (bth SA.out ST.out) SB.out) hv);have HWB:Hid (Below w.heap.size w wb):=bth (bth (bth B0.out SA.out) ST.out) SB.out;clear HRT0 HRO0 HLT HLN0;have pq:=LP.out wb (Below.refl _ _);have s0:=pq.cell (i:=0) rfl;have s1:=pq.cell (i:=1) rfl;have s2:=pq.cell (i:=2) rfl;have s3:=pq.cell (i:=3) rfl;clear pq;go_wp2_with fail
 refine(K31.out wb _ _ _ _ _ _ _ _ (HRT.out wb (Below.refl _ _)) (HLN.out wb (Below.refl _ _))).mono ?_;rintro e w1 ⟨a1,k1,T1,U1,rfl,hz,hb⟩;have HZ1:Hid (E=0->PL wb.heap.size w1 a1 (Cod.cnt Lc N) k1 N Lc os nu S T1 U1 G):=hz;have S1:Hid (Below wb.heap.size wb w1):=hb;clear hz hb s0 s1 s2 s3;have pq:=LP.out w1 (S1.out);have s0:=pq.cell (i:=0) rfl;have s1:=pq.cell (i:=1) rfl;have s2:=pq.cell (i:=2) rfl;have s3:=pq.cell (i:=3) rfl;clear pq;go_wp2_with fail
 refine(K32.out w1 _ _ _ _ _ _ _ _ (HRO.out w1 S1.out) (HLO.out w1 S1.out)).mono ?_;rintro e w2 ⟨a2,k2,T2,U2,rfl,hz,hb⟩;have HZ2:Hid (E=0->PL w1.heap.size w2 a2 (Cod.cnt Lc N) k2 N Lc os nu S T2 U2 G):=hz;have S2:Hid (Below w1.heap.size w1 w2):=hb;clear hz hb s0 s1 s2 s3;have HI:=same_puts w2 a1 a2 k1 k2 E N Lc os nu S G ((rpx_of HZ1.out).below S2.out) (rpx_of HZ2.out) (by rw [<- HMM.out.1]; have:=HMM.out.2; omega);rw [<- HMM.out.1] at HI;go_wp2_with fail
 refine HI.mono ?_;rintro e w3 ⟨rfl,hb⟩;have S3:Hid (Below w2.heap.size w2 w3):=hb;have H3:Hid (Below wb.heap.size wb w3):=bth (bth S1.out S2.out) hb;clear hb HI;have HSR:=SameRow_any w3 ao ro rn cap rc A' A L C' C F F (HRT.out _ H3.out) (HRO.out _ H3.out) (by have:=HN.out; omega) (fun _ _ _ _=>rfl);go_wp2_with fail
 refine HSR.mono ?_;rintro e w4 ⟨rfl,hb⟩;have S4:Hid (Below w3.heap.size w3 w4):=hb;clear hb HSR;have HSC:=SameCh_any w4 po lo n pc lc D AA' AA LL CC' CC H (by have:=HNN.out; omega) (HLN.out _ (bth H3.out S4.out)) (HLO.out _ (bth H3.out S4.out));go_wp2_with fail
 refine HSC.mono ?_;rintro e w6 ⟨rfl,hb⟩;have S6:Hid (Below w2.heap.size w2 w6):=bth (bth S3.out S4.out) hb;clear hb HSC;have HSZ:Hid (wb.heap.size<=w1.heap.size/\w1.heap.size<=w2.heap.size/\w2.heap.size<=w6.heap.size):=⟨S1.out.size,S2.out.size,S6.out.size⟩
 have HB6:Hid (Below wb.heap.size wb w6):=bth (bth S1.out S2.out) S6.out;have HZ26:Hid (E=0->PL w1.heap.size w6 a2 (Cod.cnt Lc N) k2 N Lc os nu S T2 U2 G):=fun g=>(HZ2.out g).below S6.out;have H2B:Hid (E=0->(∀ a,a2=some a->a.block<w2.heap.size)/\∀ i,i<N->Lc i ≠ 0->∀ a,T2 i=some a->a.block<w2.heap.size):=fun g=>⟨fun a ha=>(owns_at (HZ2.out g).out ha).2.1,fun i hi hn a ha=>(owns_at ((HZ2.out g).row i hi hn) ha).2.1⟩
 obtain⟨X1,Y1,hsp1⟩:=spl_of HZ1.out (bth S2.out S6.out);rw [<- HMM.out.1] at hsp1;have HSP1:Hid (0<M->∃ g,a1=some ⟨g,0,none⟩/\Spl wb.heap.size w1.heap.size M S w6 w6 g k1 X1 Y1):=hsp1;clear hsp1 HZ1 HZ2 K32 S1 S2 S3 S4 S6 H3 L0 B0 SA ST SB HL HR;go_wp2_with fail
 go_loopw [21] (fun y wr=>∃ i:Nat,i<=M/\y=.int .i64 (i:Int)/\Hid (Only (fun b=>wb.heap.size<=b/\b<w1.heap.size) w6 wr)/\Hid (0<M->∃ g,a1=some ⟨g,0,none⟩/\Spl wb.heap.size w1.heap.size M S w6 wr g k1 X1 Y1)) (fun y _=>M-(intOf y).toNat)
 case atStart=>exact⟨0,Nat.zero_le _,rfl,Only.refl _ _,HSP1.out⟩
 case round =>
  obtain⟨i,hi,rfl,hon,hsp⟩:=hrel;by_cases hlt:i<M
  ·obtain⟨g,rfl,hsp1⟩:=hsp.out (by omega);have HS0:Hid (Spl wb.heap.size w1.heap.size M S w6 wr g k1 X1 Y1):=hsp1;have i1:(0:Int)<=(i:Int):=by omega
   have i2:(i:Int)<(M:Int):=by omega
   obtain⟨ta,hta⟩:∃ ta,ta=X1 i:=⟨_,rfl⟩
   obtain⟨tc,htc⟩:∃ tc,tc=Y1 i:=⟨_,rfl⟩
   have HTA:Hid (ta=X1 i/\tc=Y1 i):=⟨hta,htc⟩
   clear hta htc hsp1 hsp;go_wp2_with fail
   go_loopw [22] (fun y wq=>∃ u:Nat,u<=S/\y=.int .i64 (u:Int)/\Hid (Spl wb.heap.size w1.heap.size M S w6 wq g k1 X1 Y1)) (fun y _=>S-(intOf y).toNat)
   case atStart=>exact⟨0,Nat.zero_le _,rfl,HS0⟩
   case round =>
    obtain⟨u,hu,rfl,hsq⟩:=hrel;have c1:wr.cell? ⟨g,i*4+3,none⟩=some (.slice ta S tc):=by rw [HTA.out.1,HTA.out.2]; exact hsq.out.c1 hlt
    by_cases hut:u<S
    ·obtain⟨gi,hgi⟩:∃ gi,X1 i=some ⟨gi,0,none⟩:=hsq.out.inner hlt (by omega);obtain⟨⟨xo,x1⟩,x2⟩:=hsq.out.rd hlt (gi:=gi) (u:=u) hgi hut;have HPU:Hid (Spl wb.heap.size w1.heap.size M S w6 (wr.setCell ⟨gi,u,none⟩ (.int .u8 99)) g k1 X1 Y1):=hsq.out.put hlt hgi _;have hS1:S<=1000:=by have:=HSN.out; omega
     rw [show ta=some ⟨gi,0,none⟩ from HTA.out.1.trans hgi] at c1;have u1:(0:Int)<=(u:Int):=by omega
     have u2:(u:Int)<(S:Int):=by omega
     clear hgi;go_wp2_with fail
     go_roundw
     case rel=>exact⟨u+1,by omega,by go_num,HPU⟩
     case measure=>simp [intOf]; omega
    ·have u2:¬ (u:Int)<(S:Int):=by omega
     have hM1:M<=16:=HMM.out.2;go_wp2_with fail
     go_roundw
     case rel=>exact⟨i+1,by omega,by go_num,hsq.out.onl,fun _=>⟨g,rfl,hsq.out⟩⟩
     case measure=>simp [intOf]; omega
  ·have i2:¬ (i:Int)<(M:Int):=by omega
   have HO8:Hid (Only (fun b=>wb.heap.size<=b/\b<w1.heap.size) w6 wr):=hon;have HB8:Hid (Below wb.heap.size wb wr):=HB6.out.trans (HO8.out.below (fun b hb=>hb.1) HB6.out.size);have HZ28:Hid (E=0->PL w1.heap.size wr a2 (Cod.cnt Lc N) k2 N Lc os nu S T2 U2 G):=fun g=>by
    have h2:=HSZ.out;exact(HZ26.out g).stay' w2.heap.size (H2B.out g) fun b h4 h5=>HO8.out.block b (by omega) (by omega)
   clear hon hsp hi hlt;have pq:=LP.out wr (HB8.out);have s0:=pq.cell (i:=0) rfl;have s1:=pq.cell (i:=1) rfl;have s2:=pq.cell (i:=2) rfl;have s3:=pq.cell (i:=3) rfl;clear pq;go_wp2_with fail
   refine(K31.out wr _ _ _ _ _ _ _ _ (HRT.out wr HB8.out) (HLN.out wr HB8.out)).mono ?_;rintro e w9 ⟨a9,k9,T9,U9,rfl,hz,hb⟩;have HZ9:Hid (E=0->PL wr.heap.size w9 a9 (Cod.cnt Lc N) k9 N Lc os nu S T9 U9 G):=hz;have S9:Hid (Below wr.heap.size wr w9):=hb;have HB9:Hid (Below wb.heap.size wb w9):=bth HB8.out hb;clear hz hb s0 s1 s2 s3;have HI:=same_puts w9 a9 a2 k9 k2 E N Lc os nu S G (rpx_of HZ9.out) ((rpx_of HZ28.out).below S9.out) (by rw [<- HMM.out.1]; have:=HMM.out.2; omega);rw [<- HMM.out.1] at HI;go_wp2_with fail
   refine HI.mono ?_;rintro e we ⟨rfl,hb⟩;have SE:Hid (Below w9.heap.size w9 we):=hb;have HBE:Hid (Below wb.heap.size wb we):=bth HB9.out hb;clear hb HI;have HSR:=SameRow_any we ao ro rn cap rc A' A L C' C F F (HRT.out _ HBE.out) (HRO.out _ HBE.out) (by have:=HN.out; omega) (fun _ _ _ _=>rfl);go_wp2_with fail
   refine HSR.mono ?_;rintro e wf ⟨rfl,hb⟩;have HBF:Hid (Below w.heap.size w wf):=bth HWB.out (bth HBE.out hb);clear hb HSR;go_wp2_with fail
   go_ret;exact⟨rfl,HBF.out⟩
end Go.Proofs.YtemlojjkokooeaaGreat
namespace Go.Proofs.YtemlojjkokooeaaGreat
open Go.RowKit Go.ChangeShapes Go.WideShapes Go.Deep Go.Joins

section
variable {H:Type} {enc:TypeId × Value->H} {w:World} {held:Bool}
theorem u8_of{z:Int}(h:(Lit.int .u8 z).wf=true):(((UInt8.ofNat z.toNat).toNat:Nat):Int)=z:=by
 have b:=bounds_u8 h;rw [UInt8.toNat_ofNat'];omega
theorem open_bytes{fuel:Nat}{v:Value}{x:DataW H × List MemPlace}(h:DataW.trod enc Tryz.prog w 0 (fun _=>true) held fuel 36 [v]=some x):
  ∃ ao n cp F,v=.slice ao n cp/\Bec w ao n cp F/\cp<=9223372036854775807:=by
 rcases open_ints Tryz.underlying36 Tryz.underlying5 (by kernel_rfl) h with ⟨hcs,_⟩ | ⟨a,l,cp,zs,hcs,_,hl,hm,hz,_,hcell,hwz⟩
 ·simp at hcs;exact⟨none,0,0,fun _=>0,hcs,bec_nil _ _,by decide⟩
 ·simp at hcs;simp only [if_true] at hz;refine⟨some a,l,cp,fun j=>UInt8.ofNat (zs.getD j 0).toNat,hcs,⟨fun hn=>?_,(fun e=>by cases e),hl⟩,by unfold maxLen at hm; omega⟩;have h0:=hcell 0 (by omega);obtain⟨b,off,spot⟩:=a;have hspot:spot=none:=by simpa [Addr.add] using World.cell?_spot h0
  subst hspot;refine⟨b,off,rfl,fun j hj=>?_⟩;have hj2:j<zs.length:=by omega
  have hc:=hcell j hj2;rw [add_plain] at hc;rw [hc,u8_of (by rw [show zs.getD j 0=zs[j] by simp [List.getD,hj2]]; exact hwz _ (List.getElem_mem hj2))]
theorem array4{α:Type}{cs:Array α}(h:cs.size=4):∃ c0 c1 c2 c3,cs=#[c0,c1,c2,c3]:=by
 obtain⟨l⟩:=cs
 match l,h with
 | [c0,c1,c2,c3],_=>exact⟨c0,c1,c2,c3,rfl⟩
theorem cells3:Tryz.prog.cellsOf 3=1:=by kernel_rfl
theorem cells23:Tryz.prog.cellsOf 23=4:=by kernel_rfl
theorem cells25:Tryz.prog.cellsOf 36=1:=by kernel_rfl
theorem open_par{r:Reach}{b0:Nat}{v:Value}{d:DataW H}{p:List MemPlace}(hv:Value.okWide Tryz.prog w r b0 23 v)(h:DataW.Trod enc Tryz.prog w 0 (fun _=>true) held 23 v d p):
  ∃ k ro c q,v=.agg #[.int .i64 k,.int .i64 ro,.int .i64 c,.int .i64 q]:=by
 obtain⟨cs,rfl,hsz⟩:=okWide_struct Tryz.underlying23 hv;obtain⟨c0,c1,c2,c3,rfl⟩:=array4 (hsz.trans cells23);obtain⟨fuel,hf⟩:=h;obtain⟨z0,z1,z2,z3,m,_,_,t0,t1,t2,t3⟩:=trod_struct4 Tryz.underlying23 hf;simp [Value.cells,cells3] at t0 t1 t2 t3;obtain⟨a0,e0,_,_⟩:=DataW.trod_int Tryz.underlying3 t0;obtain⟨a1,e1,_,_⟩:=DataW.trod_int Tryz.underlying3 t1;obtain⟨a2,e2,_,_⟩:=DataW.trod_int Tryz.underlying3 t2;obtain⟨a3,e3,_,_⟩:=DataW.trod_int Tryz.underlying3 t3;simp at e0 e1 e2 e3;subst e0 e1 e2 e3;exact⟨a0,a1,a2,a3,rfl⟩
end

section
variable {H:Type} {enc:TypeId × Value->H} {w:World} {held:Bool}
theorem cells26:Tryz.prog.cellsOf 97=2:=by kernel_rfl
end
section
variable {H:Type} {enc:TypeId × Value->H} {w:World} {held:Bool}
theorem open_row{fuel:Nat}{v:Value}{x:DataW H × List MemPlace}(h:DataW.trod enc Tryz.prog w 0 (fun _=>true) held fuel 24 [v]=some x):
  ∃ ro n rc A L C F,v=.slice ro n rc/\Rw w ro n A L C F:=by
 rcases open_slice Tryz.underlying24 h with ⟨hcs,hx⟩ | ⟨a,len,cap,m,n,D,Pl,hcs,_,hl,hm,hmm,hx,hc⟩
 ·simp at hcs;exact⟨none,0,0,fun _=>none,fun _=>0,fun _=>0,fun _ _=>0,hcs,⟨fun h=>absurd h (Nat.lt_irrefl 0),fun i hi=>absurd hi (by omega)⟩⟩
 ·simp at hcs;simp only [if_true] at hmm;subst hmm;rw [cells26] at hc;have each:∀ i,i<m->∃ y:(Option Addr × Nat × Nat × (Nat->UInt8)) × Option Addr × Nat × Nat × (Nat->UInt8),w.cell? ((a.add (i*2)).add 0)=some (.slice y.1.1 y.1.2.1 y.1.2.2.1)/\w.cell? ((a.add (i*2)).add 1)=some (.slice y.2.1 y.2.2.1 y.2.2.2.1)/\Bec w y.1.1 y.1.2.1 y.1.2.2.1 y.1.2.2.2/\Bec w y.2.1 y.2.2.1 y.2.2.2.1 y.2.2.2.2:=by
   intro i hi;obtain⟨cs',h1,h2⟩:=hc i hi;obtain⟨_,hlen,hcell⟩:=World.cells?_some h1
   match cs',hlen with
   | [c0,c1],_ =>
    obtain⟨xs,m',_,_,_,hl',ha⟩:=DataW.trod_array Tryz.underlying97 h2
    match xs,hl' with
    | [z0,z1],_ =>
     have t0:=ha 0 (by decide);have t1:=ha 1 (by decide);simp [cells25] at t0 t1;obtain⟨a0,n0,k0,F0,rfl,r0,_⟩:=open_bytes t0;obtain⟨a1,n1,k1,F1,rfl,r1,_⟩:=open_bytes t1;exact⟨((a0,n0,k0,F0),a1,n1,k1,F1),hcell 0 (by decide),hcell 1 (by decide),r0,r1⟩
  haveI:Inhabited ((Option Addr × Nat × Nat × (Nat->UInt8)) × Option Addr × Nat × Nat × (Nat->UInt8)):=⟨((none,0,0,fun _=>0),none,0,0,fun _=>0)⟩
  obtain⟨y,hy⟩:=choose_lt each;refine⟨some a,len,m,fun j=>if j % 2=0 then (y (j / 2)).1.1 else (y (j / 2)).2.1,fun j=>if j % 2=0 then (y (j / 2)).1.2.1 else (y (j / 2)).2.2.1,fun j=>if j % 2=0 then (y (j / 2)).1.2.2.1 else (y (j / 2)).2.2.2.1,fun j=>if j % 2=0 then (y (j / 2)).1.2.2.2 else (y (j / 2)).2.2.2.2,hcs,⟨fun h0=>?_,fun j hj=>?_⟩⟩
  ·have k0:=(hy 0 (by omega)).1;obtain⟨b,off,spot⟩:=a;have hspot:spot=none:=by simpa [Addr.add] using World.cell?_spot k0
   subst hspot;refine⟨b,off,rfl,fun i hi=>?_⟩;obtain⟨q0,q1,_⟩:=hy i (by omega);simp only [add_plain,Nat.add_zero] at q0 q1;simp only [show 2*i % 2=0 by omega,show (2*i+1) % 2=1 by omega,show 2*i / 2=i by omega,show (2*i+1) / 2=i by omega,if_true,show ¬ (1:Nat)=0 by decide,if_false];exact⟨q0,q1⟩
  ·obtain⟨_,_,q2,q3⟩:=hy (j / 2) (by omega);by_cases e:j % 2=0
   ·simp only [if_pos e]; exact q2
   ·simp only [if_neg e]; exact q3
end
theorem bytes47:Tryz.prog.bytesOf 97=48:=by kernel_rfl
section
variable {H:Type} {enc:TypeId × Value->H} {w:World} {held:Bool}
theorem row_weight{fuel:Nat}{po:Option Addr}{n pc:Nat}{x:DataW H × List MemPlace}(h:DataW.trod enc Tryz.prog w 0 (fun _=>true) held fuel 24 [.slice po n pc]=some x):n=0\/∃ q,q ∈ x.1.weights Tryz.prog 24/\n*48<=q:=by
 rcases open_slice Tryz.underlying24 h with ⟨hcs,hx⟩ | ⟨a,len,cap,m,n',D,Pl,hcs,_,hl,hm,hmm,hx,hc⟩
 ·simp at hcs; exact .inl hcs.2.1
 ·simp at hcs;simp only [if_true] at hmm;obtain⟨_,rfl,rfl⟩:=hcs;refine .inr ⟨(n+(m-n))*48,?_,by omega⟩;rw [hx];simp [DataW.weights,Tryz.underlying24,bytes47]
end

section
variable {H:Type} {enc:TypeId × Value->H} {w:World} {held:Bool}
theorem cells48:Tryz.prog.cellsOf 124=2:=by kernel_rfl
theorem open_chl{fuel:Nat}{v:Value}{x:DataW H × List MemPlace}(h:DataW.trod enc Tryz.prog w 0 (fun _=>true) held fuel 50 [v]=some x):
  ∃ lo n lc D A L C F,v=.slice lo n lc/\Chl w lo n lc D A L C F:=by
 rcases open_slice Tryz.underlying50 h with ⟨hcs,hx⟩ | ⟨a,len,cap,m,n,D,Pl,hcs,_,hl,hm,hmm,hx,hc⟩
 ·simp at hcs;exact⟨none,0,0,fun _=>0,fun _=>none,fun _=>0,fun _=>0,fun _ _=>0,hcs,⟨fun h=>absurd h (Nat.lt_irrefl 0),fun i hi=>absurd hi (by omega),fun _=>⟨rfl,rfl⟩,Nat.le_refl _⟩⟩
 ·simp at hcs;simp only [if_true] at hmm;subst hmm;rw [cells48] at hc;have each:∀ i,i<m->∃ y:Int × Option Addr × Nat × Nat × (Nat->UInt8),w.cell? ((a.add (i*2)).add 0)=some (.int .i64 y.1)/\w.cell? ((a.add (i*2)).add 1)=some (.slice y.2.1 y.2.2.1 y.2.2.2.1)/\Bec w y.2.1 y.2.2.1 y.2.2.2.1 y.2.2.2.2:=by
   intro i hi;obtain⟨cs',h1,h2⟩:=hc i hi;obtain⟨_,hlen,hcell⟩:=World.cells?_some h1
   match cs',hlen with
   | [c0,c1],_ =>
    obtain⟨y0,y1,n',_,_,t0,t1⟩:=trod_struct2 Tryz.underlying124 h2;simp [cells3,cells25] at t0 t1;obtain⟨a0,e0,_,_⟩:=DataW.trod_int Tryz.underlying3 t0;simp at e0;subst e0;obtain⟨a1,n1,k1,F1,rfl,r1,_⟩:=open_bytes t1;exact⟨(a0,a1,n1,k1,F1),hcell 0 (by decide),hcell 1 (by decide),r1⟩
  haveI:Inhabited (Int × Option Addr × Nat × Nat × (Nat->UInt8)):=⟨(0,none,0,0,fun _=>0)⟩
  obtain⟨y,hy⟩:=choose_lt each;refine⟨some a,len,m,fun j=>(y j).1,fun j=>(y j).2.1,fun j=>(y j).2.2.1,fun j=>(y j).2.2.2.1,fun j=>(y j).2.2.2.2,hcs,⟨fun h0=>?_,fun j hj=>(hy j (by omega)).2.2,(fun e=>by cases e),by omega⟩⟩;have k0:=(hy 0 (by omega)).1;obtain⟨b,off,spot⟩:=a;have hspot:spot=none:=by simpa [Addr.add] using World.cell?_spot k0
  subst hspot;refine⟨b,off,rfl,fun i hi=>?_⟩;obtain⟨q0,q1,_⟩:=hy i (by omega);simp only [add_plain,Nat.add_zero] at q0 q1;exact⟨q0,q1⟩
end
end Go.Proofs.YtemlojjkokooeaaGreat
