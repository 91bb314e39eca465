import Derived.Test.YtemlojjkokooeaaGreatTj34
set_option maxHeartbeats 4000000
set_option maxRecDepth 100000
namespace Go.Proofs.YtemlojjkokooeaaGreat
open Go.RowKit
theorem wpList_append_by2{w:World}{ops:Array Oper}{rest:List Oper}{o:Oper}{a:Act}{Q:Exit->Act->World->Prop}(hgd:o.guard=none)(s x:Operand)
  (ho:o.op=.call { callee:=.builtin .append,args:=#[s,x],argTypes:=#[36,36]}) (B k n ca cb:Nat) (ao bo:Option Addr) (F G:Nat->UInt8)
  (hs:a.eval s=.slice ao k ca) (hx:a.eval x=.slice bo n cb) (h:OwU B w ao k ca F) (hv:Bec w bo n cb G) (hk:k+n<=140737488355328) (hB:B<=w.heap.size)
  (cont:∀ ao' c' w',OwU B w' ao' (k+n) c' (upR F k n G)->w.grownBy w' (Value.slice ao k ca).ownBlock->wpList Tryz.prog ops Q rest (a.put o.dst (.slice ao' (k+n) c')) w'):wpList Tryz.prog ops Q (o :: rest) a w:=by
 obtain⟨j0,hj,hj0,hj1,hj2⟩:=info_parts info5;have hl:byF k F ++ byF n G=byF (k+n) (upR F k n G):=by
  rw [byF_add,byF_congr (F:=upR F k n G) (G:=F) (fun i hi=>upR_out (by omega)),byF_congr (F:=fun i=>upR F k n G (k+i)) (G:=G) (fun i hi=>by rw [upR_in (by omega),show k+i-k=i by omega])]
 cases bo with
 | none =>
  obtain⟨rfl,rfl⟩:=hv.nil rfl;have:=cont ao ca w (by refine OwU.congr h fun i hi=>(upR_out (by omega)).symm) ⟨rfl,rfl,rfl,Nat.le_refl _,fun _ _ _=>rfl⟩;exact wpList_append_own_none hgd s x 36 ho B 5 j0 1 Tryz.underlying36 hj (.slice ao k ca) k (byF k F) hs h hx this
 | some ad =>
  refine wpList_append_own w hgd s x 36 ho B 5 j0 (.int .u8 0) 1 1 Tryz.underlying36 hj hj0 hj1 hj2 rfl (by decide) (.slice ao k ca) k (byF k F) hs h ad n cb (byF n G) hx (by rw [byF_length,Nat.mul_one]) (bec_news hv) (byF_one _ _) (by unfold maxLen; omega) (by omega) hB ?_;intro v' w' h1 h2 _;obtain⟨ao',c',rfl⟩:∃ ao' c',v'=.slice ao' (k+n) c':=by
   rcases h1.2 with ⟨rfl,e⟩ | ⟨g,cap,cur,rfl,_⟩
   ·rw [e]; exact⟨none,0,rfl⟩
   ·exact⟨_,cap,rfl⟩
  rw [hl] at h1;exact cont ao' c' w' h1 h2
theorem four_any(w:World)(B:Nat)(ao:Option Addr)(k ca m:Nat)(F:Nat->UInt8)(h:OwU B w ao k ca F)(hB:B<=w.heap.size)(hk:k<=1000)(hm:m<=1073741824):
  Calls Tryz.prog 296 #[.slice ao k ca,.int .i64 (m:Int)] w fun e w'=>∃ g cap,e=.returned (.slice (some ⟨g,0,none⟩) (k+4) cap)/\OwU B w' (some ⟨g,0,none⟩) (k+4) cap (upR F k 4 (fun i=>dg m (3-i)))/\Below B w w':=by
 obtain⟨i0,hi,hz0,hz1,hz2⟩:=info_parts info5;have HO:Hid (∀ o,(w.alloc o).ownsRow B 5 1 (.slice ao k ca) k (byF k F)):=fun o=>h.below (bal w o);have HG:Hid (∀ g,(Value.slice ao k ca).ownBlock=some g->B<=g):=fun g hg=>(World.ownsRow.lt h g hg).1;obtain⟨⟨d3,d2⟩,d1,d0⟩:=dg4 m;have HL:Hid (byF k F ++ [.int .u8 ((m:Int) / 16777216),.int .u8 ((m:Int) / 65536 % 256),.int .u8 ((m:Int) / 256 % 256),.int .u8 ((m:Int) % 256)]=byF (k+4) (upR F k 4 (fun i=>dg m (3-i)))):=by
  show _=_;rw [byF_add,byF_congr (F:=upR F k 4 (fun i=>dg m (3-i))) (G:=F) (fun i hi=>upR_out (by omega))];congr 1
  have e:∀ i,i<4->upR F k 4 (fun i=>dg m (3-i)) (k+i)=dg m (3-i):=fun i hi=>by rw [upR_in (by omega),show k+i-k=i by omega]
  rw [byF_congr e];show _=[Value.int .u8 (((dg m 3).toNat:Nat):Int),Value.int .u8 (((dg m 2).toNat:Nat):Int),Value.int .u8 (((dg m 1).toNat:Nat):Int),Value.int .u8 (((dg m 0).toNat:Nat):Int)]
  rw [d3,d2,d1,d0,show (m:Int) / 16777216=((m / 16777216 % 256:Nat):Int) by omega];simp
 clear d3 d2 d1 d0 h;go_enter Tryz.func296,Tryz.ntmps296
 go_wp2_with (at_builtin; refine wpList_append_lies _ (by rfl) (.tmp 5) (.tmp 20) 36 (by rfl) B 5 i0 (.int .u8 0) 1 1 Tryz.underlying36 hi hz0 hz1 hz2 (by rfl) (by decide) (.slice ao k ca) k (byF k F) (by rfl) (HO.out _) ⟨w.heap.size,0,none⟩ 4 4 [.int .u8 ((m:Int) / 16777216),.int .u8 ((m:Int) / 65536 % 256),.int .u8 ((m:Int) / 256 % 256),.int .u8 ((m:Int) % 256)] (by rfl) (by rfl) (World.news_of_block (heap_alloc_new w _)) (by simp [Value.oneCell']) (by decide) (by unfold maxLen; omega) (by omega) (by simp; omega) (w.heap.size+1) (by simp) ?_; intro g2 cap2 w2 hown2 hgrow2 _ _; have HO2:Hid (OwU B w2 (some ⟨g2,0,none⟩) (k+4) cap2 (upR F k 4 (fun i=>dg m (3-i)))):=(by show w2.ownsRow _ _ _ _ _ _; rw [<- HL.out]; exact hown2); have HB2:Hid (Below B w w2):=((bal w _).mono hB).grown hgrow2 (by simp; omega) HG.out; clear hown2 hgrow2)
 go_ret;exact⟨_,_,rfl,HO2.out,HB2.out⟩
theorem own_ge{B:Nat}{w:World}{ao:Option Addr}{n cap:Nat}{F:Nat->UInt8}(h:OwU B w ao n cap F):∀ g,(Value.slice ao n cap).ownBlock=some g->B<=g:=fun g hg=>(World.ownsRow.lt h g hg).1
theorem Made_any{N:Nat}{c:Int}(w:World)(s:Sl)(ao:Option Addr)(ca:Nat)(bo:Option Addr)(cb:Nat)(hN2:N<=16)(hc:8<=c)(hc2:c<=64)(hs:Has w s ao ca bo cb)(hok:okS N c s=true):
  Calls Tryz.prog 224 #[slv s ao ca bo cb] w fun e w'=>∃ uo uc,e=.returned (.slice uo (sz N c) uc)/\OwU w.heap.size w' uo (sz N c) uc (enc s)/\Below w.heap.size w w':=by
 have hnm:=okS_nums hok;obtain⟨⟨k1,k2⟩,k3,k4,k5,k6,k7,k8⟩:=okS_true hok;obtain⟨n,hn⟩:∃ n,n=sz N c:=⟨_,rfl⟩
 rw [<- hn];have hn2:n=12+4*N+c.toNat:=hn;obtain⟨E,hE⟩:∃ E,E=enc s:=⟨_,rfl⟩
 obtain⟨kn,hkn⟩:∃ kn,kn=s.kd.toNat:=⟨_,rfl⟩
 obtain⟨xn,hxn⟩:∃ xn,xn=s.ix.toNat:=⟨_,rfl⟩
 obtain⟨cn,hcn⟩:∃ cn,cn=s.ce.toNat:=⟨_,rfl⟩
 obtain⟨sn,hsn⟩:∃ sn,sn=s.st.toNat:=⟨_,rfl⟩
 obtain⟨V,hV⟩:∃ V,V=s.V:=⟨_,rfl⟩
 obtain⟨D,hD⟩:∃ D,D=s.D:=⟨_,rfl⟩
 obtain⟨d,hd⟩:∃ d,d=s.dn:=⟨_,rfl⟩
 have e1:s.ix=(xn:Int):=by omega
 have e2:s.ce=(cn:Int):=by omega
 have e3:s.st=(sn:Int):=by omega
 have lx:xn<16:=by omega
 have lc:cn<=1073741824:=by omega
 have ls:sn<=1073741824:=by omega
 have H4:Hid ((byF 4 E).toArray=#[.int .u8 84,.int .u8 50,.int .u8 (kn:Int),.int .u8 (xn:Int)]):=by
  show _=_;have h3:(enc s 3).toNat=xn:=by show (dg s.ix.toNat 0).toNat=xn; rw [dg_toNat,<- hxn]; simp; omega
  have h2:(enc s 2).toNat=kn:=by rw [hkn]; rfl
  rw [hE];show #[Value.int .u8 84,.int .u8 50,.int .u8 (((enc s 2).toNat:Nat):Int),.int .u8 (((enc s 3).toNat:Nat):Int)]=_;rw [h2,h3]
 have HC:Hid (∀ j,j<8->upR E 4 4 (fun i=>dg cn (3-i)) j=E j):=fun j hj=>by
  by_cases h:4<=j/\j<4+4
  ·rw [upR_in h,hE,hcn];have:=enc_c s (i:=j-4) (by omega);rw [show 4+(j-4)=j by omega] at this;exact this.symm
  ·exact upR_out h
 have HS:Hid (∀ j,j<12->upR E 8 4 (fun i=>dg sn (3-i)) j=E j):=fun j hj=>by
  by_cases h:8<=j/\j<8+4
  ·rw [upR_in h,hE,hsn];have:=enc_s s (i:=j-8) (by omega);rw [show 8+(j-8)=j by omega] at this;exact this.symm
  ·exact upR_out h
 have HV:Hid (∀ i,i<N->∀ j,j<12+4*i+4->upR E (12+4*i) 4 (fun t=>dg (V i).toNat (3-t)) j=E j):=fun i hi j hj=>by
  by_cases h:12+4*i<=j/\j<12+4*i+4
  ·rw [upR_in h,hE,hV];have:=enc_v (s:=s) (v:=i) (i:=j-(12+4*i)) (by omega) (by omega);rw [show 12+4*i+(j-(12+4*i))=j by omega] at this;exact this.symm
  ·exact upR_out h
 have HD:Hid (∀ j,j<n->upR E (12+4*N) d D j=E j):=fun j hj=>by
  by_cases h:12+4*N<=j/\j<12+4*N+d
  ·rw [upR_in h,hE,hD];have:=enc_d s (j-(12+4*N));rw [k1,show 12+4*N+(j-(12+4*N))=j by omega] at this;exact this.symm
  ·exact upR_out h
 have HVI:Hid (∀ i,i<N->V i=(((V i).toNat:Nat):Int)/\(V i).toNat<=1073741824):=fun i hi=>by have:=k2 i (by omega); rw [hV]; omega
 have hnd:n=12+4*N+d:=by omega
 have hnb:n<=1000:=by omega
 have HVec:Hid (Vec w ao N ca V):=by have:=hs.vec; rw [k1] at this; rw [hV]; exact this
 have HBec:Hid (Bec w bo d cb D):=by have:=hs.bec; rw [hD,hd]; exact this
 unfold slv;rw [<- hkn,e1,e2,e3,k1,<- hd,<- hE];clear hnm k1 k2 k3 k4 k5 k6 k7 k8 hn hn2 hE hkn hxn hcn hsn hV hD hd e1 e2 e3 hs hok hc hc2;obtain⟨w1,hw1⟩:∃ w1,w1=w.alloc (.cells #[.int .u8 (kn:Int),.int .i64 (xn:Int),.int .i64 (cn:Int),.int .i64 (sn:Int),.slice ao N ca,.slice bo d cb] 107):=⟨_,rfl⟩
 obtain⟨w2,hw2⟩:∃ w2,w2=w1.alloc (.cells #[.int .u8 84,.int .u8 50,.int .u8 (kn:Int),.int .u8 (xn:Int)] 5):=⟨_,rfl⟩
 have b1:Below w.heap.size w w1:=by rw [hw1]; exact bal _ _
 have b2:Below w1.heap.size w1 w2:=by rw [hw2]; exact bal _ _
 have z1:w1.heap.size=w.heap.size+1:=by rw [hw1]; simp
 have C1:Hid (Cel w1 w.heap.size [.int .u8 (kn:Int),.int .i64 (xn:Int),.int .i64 (cn:Int),.int .i64 (sn:Int),.slice ao N ca,.slice bo d cb]):=cel_new hw1;have HO:Hid (OwU w1.heap.size w2 (some ⟨w1.heap.size,0,none⟩) 4 4 E):=by
  have:Bk w2 w1.heap.size 4 E:=by unfold Bk; rw [H4.out,hw2]; exact heap_alloc_new w1 _
  exact this.own (Nat.le_refl _) (by omega)
 have HB1:Hid (Below w.heap.size w w1):=b1;have HB2:Hid (Below w1.heap.size w1 w2):=b2;have HVec1:Hid (Vec w1 ao N ca V):=HVec.out.below b1;have HBec1:Hid (Bec w1 bo d cb D):=HBec.out.below b1;have c2:=C1.out.below b2;have y2:=c2 2 _ rfl;have HO2:Hid (OwU w1.heap.size w2 (some ⟨w.heap.size+1,0,none⟩) 4 4 E):=by show OwU _ _ _ _ _ _; rw [<- z1]; exact HO.out
 have HZ:Hid (w1.heap.size=w.heap.size+1):=z1;clear HVec HBec b1 b2 c2 z1;go_enter Tryz.func224,Tryz.ntmps224
 go_wp2_with fail
 rw [<- hw1,<- hw2];clear hw1 hw2;refine(four_any _ w1.heap.size (some ⟨w.heap.size+1,0,none⟩) 4 4 cn E HO2.out HB2.out.size (by omega) lc).mono ?_;rintro e wa ⟨g1,p1,rfl,ha,ba⟩;have HA:Hid (OwU w1.heap.size wa (some ⟨g1,0,none⟩) 8 p1 E):=ha.congr HC.out;have HBA:Hid (Below w1.heap.size w1 wa):=HB2.out.trans ba;have y3:=C1.out.below HBA.out 3 _ rfl;clear ha ba y2;go_wp2_with fail
 refine(four_any _ w1.heap.size (some ⟨g1,0,none⟩) 8 p1 sn E HA.out HBA.out.size (by omega) ls).mono ?_;rintro e wb ⟨g2,p2,rfl,hb,bb⟩;have HB:Hid (OwU w1.heap.size wb (some ⟨g2,0,none⟩) 12 p2 E):=hb.congr HS.out;have HBB:Hid (Below w1.heap.size w1 wb):=HBA.out.trans bb;clear hb bb y3;go_wp2_with fail
 go_loopw [3,4] (fun y x wr=>∃ i:Nat,i<=N/\x=.int .i64 (i:Int)/\(∃ uo uc,y=.slice uo (12+4*i) uc/\Hid (OwU w1.heap.size wr uo (12+4*i) uc E))/\Hid (Below w1.heap.size w1 wr)) (fun _ x _=>N-(intOf x).toNat)
 case atStart=>exact⟨0,Nat.zero_le _,rfl,⟨_,_,rfl,HB⟩,HBB⟩
 case round =>
  obtain⟨i,hi,rfl,⟨uo,uc,rfl,hU⟩,hW⟩:=hrel;have x4:=C1.out.below hW.out 4 _ rfl;by_cases hlt:i<N
  ·obtain⟨b,off,rfl,hcc⟩:=(HVec1.out.below hW.out).rd (by omega);have ck:=hcc i hlt;obtain⟨vi,hvi⟩:∃ vi,vi=(V i).toNat:=⟨_,rfl⟩
   have hv1:=HVI.out i hlt;rw [<- hvi] at hv1;rw [hv1.1] at ck;have hv2:=HV.out i hlt;rw [<- hvi] at hv2;have HV2:Hid (∀ j,j<12+4*i+4->upR E (12+4*i) 4 (fun t=>dg vi (3-t)) j=E j):=hv2;have hv3:=hv1.2;have i1:(0:Int)<=(i:Int):=by omega
   have i2:(i:Int)<(N:Int):=by omega
   clear hcc hvi hv1 hv2;go_wp2_with fail
   refine(four_any _ w1.heap.size uo (12+4*i) uc vi E hU.out hW.out.size (by omega) hv3).mono ?_;rintro e wc ⟨g3,p3,rfl,hc,bc⟩;have HC3:Hid (OwU w1.heap.size wc (some ⟨g3,0,none⟩) (12+4*(i+1)) p3 E):=by
    have:=hc.congr HV2.out;rw [show 12+4*i+4=12+4*(i+1) by omega] at this;exact this
   have HBC:Hid (Below w1.heap.size w1 wc):=hW.out.trans bc;clear hc bc HV2;go_wp2_with fail
   go_roundw
   case rel=>exact⟨i+1,by omega,by go_num,⟨_,p3,by rw [show 12+4*(i+1)=12+4*i+4 by omega],HC3⟩,HBC⟩
   case measure=>simp [intOf]; omega
  ·obtain rfl:i=N:=by omega
   have x5:=C1.out.below hW.out 5 _ rfl;have hbd:=HBec1.out.below hW.out;have hge:=own_ge hU.out;have hsz:=hW.out.size;go_wp2_with (at_builtin; refine wpList_append_by2 rfl (.tmp 33) (.tmp 35) rfl w1.heap.size (12+4*i) d uc cb uo bo E D rfl rfl hU.out hbd (by omega) hsz ?_; intro vo vc wz hz gz; have HZ2:Hid (OwU w1.heap.size wz vo (12+4*i+d) vc (upR E (12+4*i) d D)):=hz; have HGZ:Hid (Below w1.heap.size w1 wz):=hW.out.grown gz hsz hge; clear hz gz)
   go_ret;refine⟨vo,vc,?_,?_,?_⟩
   ·rw [hnd]; rfl
   ·have:=HZ2.out;rw [<- hnd] at this;exact(this.congr HD.out).mono (by have:=HZ.out; omega)
   ·exact bth HB1.out HGZ.out
end Go.Proofs.YtemlojjkokooeaaGreat
