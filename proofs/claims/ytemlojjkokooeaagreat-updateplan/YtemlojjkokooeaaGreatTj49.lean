import Derived.Test.YtemlojjkokooeaaGreatTj2
set_option maxHeartbeats 2000000
set_option maxRecDepth 100000
namespace Go.Proofs.YtemlojjkokooeaaGreat
open Go.RowKit
def spOf (S C F T:Nat->Nat):Nat->List Value
  | 0=>[]
  | n+1=>spOf S C F T n ++ [.int .i64 (S n:Int),.int .i64 (C n:Int),.int .i64 (F n:Int),.int .i64 (T n:Int)]
theorem spOf_length(S C F T:Nat->Nat)(n:Nat):(spOf S C F T n).length=n*4:=by
 induction n with
 | zero=>rfl
 | succ n ih=>rw [spOf,List.length_append,ih,Nat.succ_mul]; rfl
theorem spOf_get(S C F T:Nat->Nat)(n i:Nat)(hi:i<n):(spOf S C F T n)[i*4]? = some (.int .i64 (S i:Int))/\(spOf S C F T n)[i*4+1]? = some (.int .i64 (C i:Int))/\(spOf S C F T n)[i*4+2]? = some (.int .i64 (F i:Int))/\(spOf S C F T n)[i*4+3]? = some (.int .i64 (T i:Int)):=by
 induction n with
 | zero=>omega
 | succ n ih =>
  have hl:=spOf_length S C F T n;rw [spOf];by_cases e:i=n
  ·subst e;rw [List.getElem?_append_right (by omega),List.getElem?_append_right (by omega),List.getElem?_append_right (by omega),List.getElem?_append_right (by omega),hl,Nat.sub_self,show i*4+1-i*4=1 by omega,show i*4+2-i*4=2 by omega,show i*4+3-i*4=3 by omega];exact⟨rfl,rfl,rfl,rfl⟩
  ·rw [List.getElem?_append_left (by omega),List.getElem?_append_left (by omega),List.getElem?_append_left (by omega),List.getElem?_append_left (by omega)];exact ih (by omega)
theorem owns_drew{w:World}{base e size n:Nat}{v:Value}{xs:List Value}(h:w.ownsRow base e size v n xs):w.drew.ownsRow base e size v n xs:=h
theorem news_at{w:World}{g:Nat}(hg:w.heap.size=g)(xs:Array Value)(e:TypeId):∀(j:Nat) u,xs.toList[j]? = some u->(w.alloc (.cells xs e)).cell? ((⟨g,0,none⟩:Addr).add j)=some u:=by
 subst hg;exact World.news_of_block (heap_alloc_new w _)
theorem news_drew(w:World)(xs:Array Value)(e:TypeId):∀(j:Nat) u,xs.toList[j]? = some u->(w.alloc (.cells xs e)).drew.cell? ((⟨w.heap.size,0,none⟩:Addr).add j)=some u:=fun j u h=>news_at rfl xs e j u h
theorem info36:(Tryz.prog.info? 194).map (fun i=>(i.zero,i.size,i.bytes))=some (some (.agg #[.int .i64 0,.int .i64 0,.int .i64 0,.int .i64 0]),4,32):=by kernel_rfl
theorem setCell_at{w:World}{g i:Nat}{u:Value}(h:w.cell? ⟨g,i,none⟩=some u)(v:Value):(w.setCell ⟨g,i,none⟩ v).cell? ⟨g,i,none⟩=some v:=World.cell?_setCell_same _ _ _ h
theorem frozen_set(w:World)(a b:Addr)(v:Value):(w.setCell a v).frozen? b=w.frozen? b:=by simp
structure Touch (B g:Nat) (w w':World):Prop where
  os:w'.os=w.os
  tape:w'.tape=w.tape
  output:w'.output=w.output
  size:w.heap.size<=w'.heap.size
  block:∀ k,k<B->k ≠ g->w'.heap[k]? = w.heap[k]?
theorem Touch.refl(B g:Nat)(w:World):Touch B g w w:=⟨rfl,rfl,rfl,Nat.le_refl _,fun _ _ _=>rfl⟩
theorem Touch.trans{B g:Nat}{a b c:World}(h:Touch B g a b)(k:Touch B g b c):Touch B g a c :=
 ⟨k.os.trans h.os,k.tape.trans h.tape,k.output.trans h.output,Nat.le_trans h.size k.size,fun i hi hg=>(k.block i hi hg).trans (h.block i hi hg)⟩
theorem Touch.of_below{B g:Nat}{w w':World}(h:Below B w w'):Touch B g w w':=⟨h.os,h.tape,h.output,h.size,fun k hk _=>h.block k hk⟩
theorem Touch.set{B g i:Nat}{a w:World}(h:Touch B g a w)(v:Value):Touch B g a (w.setCell ⟨g,i,none⟩ v) :=
 h.trans ⟨rfl,rfl,rfl,by simp [World.setCell],fun k _ hk=>Below.heap_setCell _ _ _ _ hk⟩
theorem Touch.cell{B g:Nat}{w w':World}(h:Touch B g w w'){b i:Nat}(hb:b<B)(hg:b ≠ g){v:Value}(hc:w.cell? ⟨b,i,none⟩=some v):w'.cell? ⟨b,i,none⟩=some v:=(World.cell?_of_block (h.block b hb hg)).trans hc
theorem keep_any(w:World)(bs bm bp B n from' many W c:Nat)(ao:Option Addr)(cap:Nat)(S C F T:Nat->Nat)
  (hs:w.cell? ⟨bs,0,none⟩=some (.slice ao n cap)) (hf:w.frozen? ⟨bs,0,none⟩=false) (hm:w.cell? ⟨bm,1,none⟩=some (.int .i64 (W:Int))) (hp:w.cell? ⟨bp,2,none⟩=some (.int .i64 (c:Int)))
  (hown:w.ownsRow B 194 4 (.slice ao n cap) n (spOf S C F T n)) (hB:B<=w.heap.size) (h1:bs<B) (h2:bm<B) (h3:bp<B) (n1:bm ≠ bs) (n2:bp ≠ bs)
  (hS:S n=from' / W) (hC:C n=from' % W / c) (hF:F n=from' % c) (hT:T n=from' % c+many) (hW:1<=W) (hc:1<=c) (hW2:W<=768) (hc2:c<=64) (hfr:from'<=32768) (hma:many<=64) (hn:n<=32768) :
  Calls Tryz.prog 226 #[.int .i64 (from':Int),.int .i64 (many:Int),.pointer (some ⟨bs,0,none⟩),.pointer (some ⟨bm,0,none⟩),.pointer (some ⟨bp,0,none⟩)] w fun e w'=>∃ g cap',e=.returned (.tuple #[])/\w'.cell? ⟨bs,0,none⟩=some (.slice (some ⟨g,0,none⟩) (n+1) cap')/\w'.frozen? ⟨bs,0,none⟩=false/\w'.ownsRow B 194 4 (.slice (some ⟨g,0,none⟩) (n+1) cap') (n+1) (spOf S C F T (n+1))/\Touch B bs w w':=by
 obtain⟨j0,hj,hj0,hj1,hj2⟩:=info_parts info36;have HO:Hid (w.ownsRow B 194 4 (.slice ao n cap) n (spOf S C F T n)):=hown;clear hown;obtain⟨sv,hsv⟩:∃ u,u=S n:=⟨_,rfl⟩
 obtain⟨cv,hcv⟩:∃ u,u=C n:=⟨_,rfl⟩
 obtain⟨fv,hfv⟩:∃ u,u=F n:=⟨_,rfl⟩
 obtain⟨tv,htv⟩:∃ u,u=T n:=⟨_,rfl⟩
 obtain⟨fw,hfw⟩:∃ u,u=from' % W:=⟨_,rfl⟩
 rw [<- hsv] at hS;rw [<- hcv,<- hfw] at hC;rw [<- hfv] at hF;rw [<- htv,<- hF] at hT;have l1:fw<W:=by rw [hfw]; exact Nat.mod_lt _ hW
 have l2:fv<c:=by rw [hF]; exact Nat.mod_lt _ hc
 have l3:sv<=from':=by rw [hS]; exact Nat.div_le_self _ _
 have l4:cv<=fw:=by rw [hC]; exact Nat.div_le_self _ _
 have e1:IntKind.i64.wrap ((from':Int) / (W:Int))=(sv:Int):=by rw [show (from':Int) / (W:Int)=((from' / W:Nat):Int) from rfl,<- hS,IntKind.wrap_i64]; omega
 have e2:(from':Int).tmod (W:Int)=(fw:Int):=by rw [show (from':Int).tmod (W:Int)=((from' % W:Nat):Int) from rfl,<- hfw]
 have e3:IntKind.i64.wrap ((fw:Int) / (c:Int))=(cv:Int):=by rw [show (fw:Int) / (c:Int)=((fw / c:Nat):Int) from rfl,<- hC,IntKind.wrap_i64]; omega
 have e4:(from':Int).tmod (c:Int)=(fv:Int):=by rw [show (from':Int).tmod (c:Int)=((from' % c:Nat):Int) from rfl,<- hF]
 have e5:IntKind.i64.wrap ((fv:Int)+(many:Int))=(tv:Int):=by rw [IntKind.wrap_i64]; omega
 have HX:Hid (spOf S C F T (n+1)=spOf S C F T n ++ [.int .i64 (sv:Int),.int .i64 (cv:Int),.int .i64 (fv:Int),.int .i64 (tv:Int)]):=by rw [hsv,hcv,hfv,htv]; rfl
 have z1:¬ W=0:=by omega
 have z2:¬ c=0:=by omega
 have z3:¬ (W:Int)=0:=by omega
 have z4:¬ (c:Int)=0:=by omega
 clear hS hC hF hT hsv hcv hfv htv hfw;obtain⟨XS,hXS⟩:∃ X,X=spOf S C F T n:=⟨_,rfl⟩
 rw [<- hXS] at HO HX;clear hXS;go_enter Tryz.func226,Tryz.ntmps226
 go_wp2_with fail
 have k0:∀ o,(w.alloc o).cell? ⟨bs,0,none⟩=some (.slice ao n cap):=fun o=>held hs (bal w o);refine wp_region_held_drew (S:=fun w'=>w'.cell? ⟨bm,1,none⟩=some (.int .i64 (W:Int))/\w'.cell? ⟨bp,2,none⟩=some (.int .i64 (c:Int))) (by kernel_rfl) ⟨hm,hp⟩ (fun hHeld=>?_);refine wpAnyH_take (i:=1) (oi:=_) (v:=.int .i64 (from':Int)) rfl (by kernel_rfl) (by kernel_rfl) (by kernel_rfl) (fun _ _ _ h=>h) (Or.inl ⟨by rfl,?_⟩) (by assumption) ?_
 ·intro w' hSw
  try dsimp only at hSw
  go_simp <;> first | with_reducible rfl | assumption
 simp only [Act.put];refine wpAnyH_take (i:=2) (oi:=_) (v:=.pointer (some ⟨bm,1,none⟩)) rfl (by kernel_rfl) (by kernel_rfl) (by kernel_rfl) (fun _ _ _ h=>h) (Or.inl ⟨by rfl,?_⟩) (by assumption) ?_
 ·intro w' hSw
  try dsimp only at hSw
  go_simp <;> first | with_reducible rfl | assumption
 simp only [Act.put];refine wpAnyH_take (i:=3) (oi:=_) (v:=.int .i64 (W:Int)) rfl (by kernel_rfl) (by kernel_rfl) (by kernel_rfl) (fun _ _ _ h=>h) (Or.inl ⟨by rfl,?_⟩) (by assumption) ?_
 ·intro w' hSw
  try dsimp only at hSw
  go_simp <;> first | with_reducible rfl | assumption
 simp only [Act.put];refine wpAnyH_take (i:=4) (oi:=_) (v:=.int .i64 (sv:Int)) rfl (by kernel_rfl) (by kernel_rfl) (by kernel_rfl) (fun _ _ _ h=>h) (Or.inl ⟨by rfl,?_⟩) (by assumption) ?_
 ·intro w' hSw
  try dsimp only at hSw
  go_simp <;> first | with_reducible rfl | assumption
 simp only [Act.put];refine wpAnyH_take (i:=5) (oi:=_) (v:=.int .i64 (from':Int)) rfl (by kernel_rfl) (by kernel_rfl) (by kernel_rfl) (fun _ _ _ h=>h) (Or.inl ⟨by rfl,?_⟩) (by assumption) ?_
 ·intro w' hSw
  try dsimp only at hSw
  go_simp <;> first | with_reducible rfl | assumption
 simp only [Act.put];refine wpAnyH_take (i:=6) (oi:=_) (v:=.pointer (some ⟨bm,1,none⟩)) rfl (by kernel_rfl) (by kernel_rfl) (by kernel_rfl) (fun _ _ _ h=>h) (Or.inl ⟨by rfl,?_⟩) (by assumption) ?_
 ·intro w' hSw
  try dsimp only at hSw
  go_simp <;> first | with_reducible rfl | assumption
 simp only [Act.put];refine wpAnyH_take (i:=7) (oi:=_) (v:=.int .i64 (W:Int)) rfl (by kernel_rfl) (by kernel_rfl) (by kernel_rfl) (fun _ _ _ h=>h) (Or.inl ⟨by rfl,?_⟩) (by assumption) ?_
 ·intro w' hSw
  try dsimp only at hSw
  go_simp <;> first | with_reducible rfl | assumption
 simp only [Act.put];refine wpAnyH_take (i:=8) (oi:=_) (v:=.int .i64 (fw:Int)) rfl (by kernel_rfl) (by kernel_rfl) (by kernel_rfl) (fun _ _ _ h=>h) (Or.inl ⟨by rfl,?_⟩) (by assumption) ?_
 ·intro w' hSw
  try dsimp only at hSw
  go_simp <;> first | with_reducible rfl | assumption
 simp only [Act.put];refine wpAnyH_take (i:=9) (oi:=_) (v:=.pointer (some ⟨bp,2,none⟩)) rfl (by kernel_rfl) (by kernel_rfl) (by kernel_rfl) (fun _ _ _ h=>h) (Or.inl ⟨by rfl,?_⟩) (by assumption) ?_
 ·intro w' hSw
  try dsimp only at hSw
  go_simp <;> first | with_reducible rfl | assumption
 simp only [Act.put];refine wpAnyH_take (i:=10) (oi:=_) (v:=.int .i64 (c:Int)) rfl (by kernel_rfl) (by kernel_rfl) (by kernel_rfl) (fun _ _ _ h=>h) (Or.inl ⟨by rfl,?_⟩) (by assumption) ?_
 ·intro w' hSw
  try dsimp only at hSw
  go_simp <;> first | with_reducible rfl | assumption
 simp only [Act.put];refine wpAnyH_take (i:=11) (oi:=_) (v:=.int .i64 (cv:Int)) rfl (by kernel_rfl) (by kernel_rfl) (by kernel_rfl) (fun _ _ _ h=>h) (Or.inl ⟨by rfl,?_⟩) (by assumption) ?_
 ·intro w' hSw
  try dsimp only at hSw
  go_simp <;> first | with_reducible rfl | assumption
 simp only [Act.put];refine wpAnyH_take (i:=12) (oi:=_) (v:=.int .i64 (from':Int)) rfl (by kernel_rfl) (by kernel_rfl) (by kernel_rfl) (fun _ _ _ h=>h) (Or.inl ⟨by rfl,?_⟩) (by assumption) ?_
 ·intro w' hSw
  try dsimp only at hSw
  go_simp <;> first | with_reducible rfl | assumption
 simp only [Act.put];refine wpAnyH_take (i:=13) (oi:=_) (v:=.pointer (some ⟨bp,2,none⟩)) rfl (by kernel_rfl) (by kernel_rfl) (by kernel_rfl) (fun _ _ _ h=>h) (Or.inl ⟨by rfl,?_⟩) (by assumption) ?_
 ·intro w' hSw
  try dsimp only at hSw
  go_simp <;> first | with_reducible rfl | assumption
 simp only [Act.put];refine wpAnyH_take (i:=14) (oi:=_) (v:=.int .i64 (c:Int)) rfl (by kernel_rfl) (by kernel_rfl) (by kernel_rfl) (fun _ _ _ h=>h) (Or.inl ⟨by rfl,?_⟩) (by assumption) ?_
 ·intro w' hSw
  try dsimp only at hSw
  go_simp <;> first | with_reducible rfl | assumption
 simp only [Act.put];refine wpAnyH_take (i:=15) (oi:=_) (v:=.int .i64 (fv:Int)) rfl (by kernel_rfl) (by kernel_rfl) (by kernel_rfl) (fun _ _ _ h=>h) (Or.inl ⟨by rfl,?_⟩) (by assumption) ?_
 ·intro w' hSw
  try dsimp only at hSw
  go_simp <;> first | with_reducible rfl | assumption
 simp only [Act.put];refine wpAnyH_take (i:=16) (oi:=_) (v:=.int .i64 (from':Int)) rfl (by kernel_rfl) (by kernel_rfl) (by kernel_rfl) (fun _ _ _ h=>h) (Or.inl ⟨by rfl,?_⟩) (by assumption) ?_
 ·intro w' hSw
  try dsimp only at hSw
  go_simp <;> first | with_reducible rfl | assumption
 simp only [Act.put];refine wpAnyH_take (i:=17) (oi:=_) (v:=.pointer (some ⟨bp,2,none⟩)) rfl (by kernel_rfl) (by kernel_rfl) (by kernel_rfl) (fun _ _ _ h=>h) (Or.inl ⟨by rfl,?_⟩) (by assumption) ?_
 ·intro w' hSw
  try dsimp only at hSw
  go_simp <;> first | with_reducible rfl | assumption
 simp only [Act.put];refine wpAnyH_take (i:=18) (oi:=_) (v:=.int .i64 (c:Int)) rfl (by kernel_rfl) (by kernel_rfl) (by kernel_rfl) (fun _ _ _ h=>h) (Or.inl ⟨by rfl,?_⟩) (by assumption) ?_
 ·intro w' hSw
  try dsimp only at hSw
  go_simp <;> first | with_reducible rfl | assumption
 simp only [Act.put];refine wpAnyH_take (i:=19) (oi:=_) (v:=.int .i64 (fv:Int)) rfl (by kernel_rfl) (by kernel_rfl) (by kernel_rfl) (fun _ _ _ h=>h) (Or.inl ⟨by rfl,?_⟩) (by assumption) ?_
 ·intro w' hSw
  try dsimp only at hSw
  go_simp <;> first | with_reducible rfl | assumption
 simp only [Act.put];refine wpAnyH_take (i:=20) (oi:=_) (v:=.int .i64 (many:Int)) rfl (by kernel_rfl) (by kernel_rfl) (by kernel_rfl) (fun _ _ _ h=>h) (Or.inl ⟨by rfl,?_⟩) (by assumption) ?_
 ·intro w' hSw
  try dsimp only at hSw
  go_simp <;> first | with_reducible rfl | assumption
 simp only [Act.put];refine wpAnyH_take (i:=21) (oi:=_) (v:=.int .i64 (tv:Int)) rfl (by kernel_rfl) (by kernel_rfl) (by kernel_rfl) (fun _ _ _ h=>h) (Or.inl ⟨by rfl,?_⟩) (by assumption) ?_
 ·intro w' hSw
  try dsimp only at hSw
  go_simp <;> first | with_reducible rfl | assumption
 simp only [Act.put];refine wpAnyH_take (i:=22) (oi:=_) (v:=.agg #[.int .i64 (sv:Int),.int .i64 (cv:Int),.int .i64 (fv:Int),.int .i64 (tv:Int)]) rfl (by kernel_rfl) (by kernel_rfl) (by kernel_rfl) (fun _ _ _ h=>h) (Or.inl ⟨by rfl,?_⟩) (by assumption) ?_
 ·intro w' hSw
  try dsimp only at hSw
  go_simp <;> first | with_reducible rfl | assumption
 simp only [Act.put];refine wpAnyH_ready (rs:=[0,23]) (by kernel_rfl) (by simp) ?_;refine AllReadyH.cons (o:=_) rfl (fun K hK=>?_) (AllReadyH.cons (o:=_) rfl (fun K hK=>?_) AllReadyH.nil)
 ·go_simp;refine hK.out _ _ ⟨hm,hp⟩ (fun hHeld=>?_);clear hK K
  try simp only [Act.put]
  refine wpAnyH_ready (rs:=[23]) (by kernel_rfl) (by simp) ?_;refine AllReadyH.cons (o:=_) rfl (fun K hK=>?_) AllReadyH.nil;go_simp;refine hK.out _ _ ⟨held hm (bal w _).drew,held hp (bal w _).drew⟩ (fun hHeld=>?_);clear hK K
  try simp only [Act.put]
  refine wpAnyH_ready (rs:=[24]) (by kernel_rfl) (by simp) ?_;refine AllReadyH.cons (o:=_) rfl (fun K hK=>?_) AllReadyH.nil;refine Go.step_append_lies _ (by rfl) (.tmp 7) (.tmp 30) 190 (by rfl) B 194 j0 (.agg #[.int .i64 0,.int .i64 0,.int .i64 0,.int .i64 0]) 4 32 Tryz.underlying190 hj hj0 hj1 hj2 (by rfl) (by decide) (.slice ao n cap) n XS (by simp [Act.eval]) (owns_drew (HO.out.alloc _)) ⟨w.heap.size,0,none⟩ 1 1 [.int .i64 (sv:Int),.int .i64 (cv:Int),.int .i64 (fv:Int),.int .i64 (tv:Int)] (by simp [Act.eval]) (by rfl) (news_drew w #[.int .i64 (sv:Int),.int .i64 (cv:Int),.int .i64 (fv:Int),.int .i64 (tv:Int)] 194) (by simp [Value.oneCell']) (by decide) (by unfold maxLen; omega) (by omega) (by show _<=(w.alloc _).heap.size; simp; omega) (w.heap.size+1) (by show (w.alloc _).heap.size=_; simp) ?_;intro g2 cap2 w2 hown2 hgrow2 _ _;have HB2:Hid (Below B w w2):=(((Below.refl B w).alloc hB _).drew).grown hgrow2 (by show _<=(w.alloc _).heap.size; simp; omega) (fun r hr=>(HO.out.lt r hr).1);have q0:w2.cell? ⟨bs,0,none⟩=some (.slice ao n cap):=(HB2.out.cell h1).trans hs;have q1:w2.frozen? ⟨bs,0,none⟩=false:=(HB2.out.frozen h1).trans hf;have q2:w2.cell? ⟨bm,1,none⟩=some (.int .i64 (W:Int)):=(HB2.out.cell h2).trans hm;have q3:w2.cell? ⟨bp,2,none⟩=some (.int .i64 (c:Int)):=(HB2.out.cell h3).trans hp;have q4:∀ v,(w2.setCell ⟨bs,0,none⟩ v).cell? ⟨bm,1,none⟩=some (.int .i64 (W:Int)):=fun v=>(World.cell?_of_block (Below.heap_setCell _ _ _ _ n1)).trans q2;have q5:∀ v,(w2.setCell ⟨bs,0,none⟩ v).cell? ⟨bp,2,none⟩=some (.int .i64 (c:Int)):=fun v=>(World.cell?_of_block (Below.heap_setCell _ _ _ _ n2)).trans q3;refine hK.out _ _ ⟨q2,q3⟩ (fun hHeld=>?_);clear hK K
  try simp only [Act.put]
  refine wpAnyH_ready (rs:=[25]) (by kernel_rfl) (by simp) ?_;refine AllReadyH.cons (o:=_) rfl (fun K hK=>?_) AllReadyH.nil;go_simp;refine hK.out _ _ ⟨q4 _,q5 _⟩ (fun hHeld=>?_);clear hK K
  try simp only [Act.put]
  refine wpAnyH_done (by kernel_rfl) ?_ _;go_wp2;refine bodyPost_end (results_none rfl _ _ _) rfl ?_;exact⟨g2,cap2,rfl,setCell_at q0 _,(frozen_set _ _ _ _).trans q1,by rw [HX.out]; exact ownsRow_setCell_below hown2 h1 _,(Touch.of_below HB2.out).set _⟩
 ·go_simp;refine hK.out _ _ ⟨held hm (bal w _).drew,held hp (bal w _).drew⟩ (fun hHeld=>?_);clear hK K
  try simp only [Act.put]
  refine wpAnyH_ready (rs:=[0]) (by kernel_rfl) (by simp) ?_;refine AllReadyH.cons (o:=_) rfl (fun K hK=>?_) AllReadyH.nil;go_simp;refine hK.out _ _ ⟨held hm (bal w _).drew,held hp (bal w _).drew⟩ (fun hHeld=>?_);clear hK K
  try simp only [Act.put]
  refine wpAnyH_ready (rs:=[24]) (by kernel_rfl) (by simp) ?_;refine AllReadyH.cons (o:=_) rfl (fun K hK=>?_) AllReadyH.nil;refine Go.step_append_lies _ (by rfl) (.tmp 7) (.tmp 30) 190 (by rfl) B 194 j0 (.agg #[.int .i64 0,.int .i64 0,.int .i64 0,.int .i64 0]) 4 32 Tryz.underlying190 hj hj0 hj1 hj2 (by rfl) (by decide) (.slice ao n cap) n XS (by simp [Act.eval]) (owns_drew (HO.out.alloc _)) ⟨w.heap.size,0,none⟩ 1 1 [.int .i64 (sv:Int),.int .i64 (cv:Int),.int .i64 (fv:Int),.int .i64 (tv:Int)] (by simp [Act.eval]) (by rfl) (news_drew w #[.int .i64 (sv:Int),.int .i64 (cv:Int),.int .i64 (fv:Int),.int .i64 (tv:Int)] 194) (by simp [Value.oneCell']) (by decide) (by unfold maxLen; omega) (by omega) (by show _<=(w.alloc _).heap.size; simp; omega) (w.heap.size+1) (by show (w.alloc _).heap.size=_; simp) ?_;intro g2 cap2 w2 hown2 hgrow2 _ _;have HB2:Hid (Below B w w2):=(((Below.refl B w).alloc hB _).drew).grown hgrow2 (by show _<=(w.alloc _).heap.size; simp; omega) (fun r hr=>(HO.out.lt r hr).1);have q0:w2.cell? ⟨bs,0,none⟩=some (.slice ao n cap):=(HB2.out.cell h1).trans hs;have q1:w2.frozen? ⟨bs,0,none⟩=false:=(HB2.out.frozen h1).trans hf;have q2:w2.cell? ⟨bm,1,none⟩=some (.int .i64 (W:Int)):=(HB2.out.cell h2).trans hm;have q3:w2.cell? ⟨bp,2,none⟩=some (.int .i64 (c:Int)):=(HB2.out.cell h3).trans hp;have q4:∀ v,(w2.setCell ⟨bs,0,none⟩ v).cell? ⟨bm,1,none⟩=some (.int .i64 (W:Int)):=fun v=>(World.cell?_of_block (Below.heap_setCell _ _ _ _ n1)).trans q2;have q5:∀ v,(w2.setCell ⟨bs,0,none⟩ v).cell? ⟨bp,2,none⟩=some (.int .i64 (c:Int)):=fun v=>(World.cell?_of_block (Below.heap_setCell _ _ _ _ n2)).trans q3;refine hK.out _ _ ⟨q2,q3⟩ (fun hHeld=>?_);clear hK K
  try simp only [Act.put]
  refine wpAnyH_ready (rs:=[25]) (by kernel_rfl) (by simp) ?_;refine AllReadyH.cons (o:=_) rfl (fun K hK=>?_) AllReadyH.nil;go_simp;refine hK.out _ _ ⟨q4 _,q5 _⟩ (fun hHeld=>?_);clear hK K
  try simp only [Act.put]
  refine wpAnyH_done (by kernel_rfl) ?_ _;go_wp2;refine bodyPost_end (results_none rfl _ _ _) rfl ?_;exact⟨g2,cap2,rfl,setCell_at q0 _,(frozen_set _ _ _ _).trans q1,by rw [HX.out]; exact ownsRow_setCell_below hown2 h1 _,(Touch.of_below HB2.out).set _⟩
theorem val_int{a b:Int}(h:a=b):Value.int .i64 a=.int .i64 b:=by rw [h]
theorem lcut_any(w:World)(bs bm bp o nn c W k:Nat)(hs:w.cell? ⟨bs,0,none⟩=some (.slice none 0 0))(hf:w.frozen? ⟨bs,0,none⟩=false)(hm:w.cell? ⟨bm,1,none⟩=some (.int .i64 (W:Int)))(hp:w.cell? ⟨bp,2,none⟩=some (.int .i64 (c:Int)))
  (n1:bm ≠ bs) (n2:bp ≠ bs) (hWk:W=k*c) (hk:1<=k) (hc1:8<=c) (hc2:c<=64) (hW2:W<=768) (hon:o+nn<=32768) :
  Calls Tryz.prog 225 #[.int .i64 (o:Int),.int .i64 (nn:Int),.int .i64 (c:Int),.func (.func 226) #[] #[.pointer (some ⟨bs,0,none⟩),.pointer (some ⟨bm,0,none⟩),.pointer (some ⟨bp,0,none⟩)]] w fun ed w' =>
   ∃ n ao cap,ed=.returned (.tuple #[])/\End o (o+nn) c n/\w'.cell? ⟨bs,0,none⟩=some (.slice ao n cap)/\w'.ownsRow w.heap.size 194 4 (.slice ao n cap) n (spOf (stp o c k) (cel o c k) (frm o c) (til o (o+nn) c) n)/\Touch w.heap.size bs w w':=by
 have hW1:1<=W:=by rw [hWk]; exact Nat.mul_pos (by omega) (by omega)
 have l1:=World.block_lt_of_cell? w _ hs;have l2:=World.block_lt_of_cell? w _ hm;have l3:=World.block_lt_of_cell? w _ hp;obtain⟨e,he⟩:∃ e,e=o+nn:=⟨_,rfl⟩
 have HE:Hid (o+nn=e):=he.symm;rw [<- he] at hon ⊢;have hoe:o<=e:=by omega
 have hnn:(nn:Int)=((e-o:Nat):Int):=by omega
 rw [hnn];clear he hnn;go_enter Tryz.func225,Tryz.ntmps225
 go_wp2;go_loopw [0,1] (fun x y wr=>∃ i:Nat,Hid (x=.int .i64 ((pos o e c i:Nat):Int)/\y=.int .i64 ((e-pos o e c i:Nat):Int)/\(∀ j,j<i->pos o e c j<e)/\i+o<=pos o e c i/\(∃ ao cap,wr.cell? ⟨bs,0,none⟩=some (.slice ao i cap)/\wr.ownsRow w.heap.size 194 4 (.slice ao i cap) i (spOf (stp o c k) (cel o c k) (frm o c) (til o e c) i))/\wr.frozen? ⟨bs,0,none⟩=false/\Touch w.heap.size bs w wr)) (fun _ y _=>(intOf y).toNat)
 case atStart=>exact⟨0,rfl,rfl,fun j hj=>by omega,by rw [show pos o e c 0=o from rfl]; omega,⟨none,0,hs,World.ownsRow_nil _ _ _ _⟩,hf,Touch.refl _ _ _⟩
 case round =>
  obtain⟨i,hx,hy,hlow,hio,⟨ao,cap,hcs,hown⟩,hfr,htch⟩:=hrel;have hx':=hx;have hy':=hy;have hle:=pos_le (c:=c) (i:=i) hoe;have HLOW:Hid (∀ j,j<i->pos o e c j<e):=hlow;have HOWN:Hid (wr.ownsRow w.heap.size 194 4 (.slice ao i cap) i (spOf (stp o c k) (cel o c k) (frm o c) (til o e c) i)):=hown;have HT:Hid (Touch w.heap.size bs w wr):=htch;by_cases hlt:pos o e c i<e
  ·have ht:=til_eq (by omega) hlt;have hsu:=pos_succ (by omega) hlt;have hfl:=frm_lt (o:=o) (i:=i) (c:=c) (by omega);have hpm:=pos_mod hlt;obtain⟨m,hmn⟩:∃ m,m=min (e-pos o e c i) (c-frm o c i):=⟨_,rfl⟩
   rw [<- hmn] at ht hsu;have HK:=keep_any wr bs bm bp w.heap.size i (pos o e c i) m W c ao cap (stp o c k) (cel o c k) (frm o c) (til o e c) hcs hfr (htch.cell l2 n1 hm) (htch.cell l3 n2 hp) hown htch.size l1 l2 l3 n1 n2 (by rw [hWk,pos_stp (by omega) hlt]) (by rw [hWk,pos_cel (by omega) hlt]) hpm.symm (by rw [hpm]; exact ht.symm) hW1 (by omega) hW2 hc2 (by omega) (by omega) (by omega);obtain⟨P,hP⟩:∃ P,P=pos o e c i:=⟨_,rfl⟩
   obtain⟨fr,hfrm⟩:∃ u,u=frm o c i:=⟨_,rfl⟩
   rw [<- hP] at hx hy hle hlt hsu hpm HK hmn hio;rw [<- hfrm] at hpm hfl hmn;have hmod:(P:Int).tmod (c:Int)=(fr:Int):=by rw [<- hpm]; rfl
   have hmod2:(P:Int) % (c:Int)=(fr:Int):=by rw [<- hpm]; rfl
   have HS:Hid (P+m=pos o e c (i+1)):=hsu;have hm1:1<=m:=by omega
   have hm2:m<=e-P:=by omega
   obtain⟨z,hz⟩:∃ z,z=e-P:=⟨_,rfl⟩
   rw [<- hz] at hy hmn hm2;subst hx hy;have z4:¬ (c:Int)=0:=by omega
   have HPE:Hid (pos o e c i<e):=by rw [<- hP]; exact hlt
   clear ht hsu hpm hlow hown htch hx' hy' hcs hP hfrm;by_cases hmm:z<=c-fr
   ·have:m=z:=by omega
    subst this;have HZ:Hid (m=e-P):=hz;clear hmn hz;go_wp2_with fail
    refine HK.mono ?_;rintro e' w' ⟨g,cap',rfl,q1,q2,q3,q4⟩;have Q1:Hid (w'.cell? ⟨bs,0,none⟩=some (.slice (some ⟨g,0,none⟩) (i+1) cap')):=q1;have Q3:Hid (w'.ownsRow w.heap.size 194 4 (.slice (some ⟨g,0,none⟩) (i+1) cap') (i+1) (spOf (stp o c k) (cel o c k) (frm o c) (til o e c) (i+1))):=q3;have Q4:Hid (Touch w.heap.size bs w w'):=HT.out.trans q4;clear q1 q3 q4;go_wp2_with fail
    go_roundw
    case rel=>exact⟨i+1,by rw [<- HS.out]; go_num,by rw [<- HS.out]; have:=HZ.out; exact val_int (by omega),fun j hj=>by
     by_cases e1:j=i
     ·rw [e1]; exact HPE.out
     ·exact HLOW.out j (by omega),by rw [<- HS.out]; omega,⟨_,_,Q1.out,Q3.out⟩,q2,Q4.out⟩
    case measure=>simp [intOf]; omega
   ·have hmc:m=c-fr:=by omega
    have HMC:Hid (m=c-fr):=hmc;have HZ:Hid (z=e-P):=hz;have hz2:z<=32768:=by omega
    rw [show ((m:Nat):Int)=(c:Int)-(fr:Int) by omega] at HK;clear hmn hz hmc;go_wp2_with fail
    refine HK.mono ?_;rintro e' w' ⟨g,cap',rfl,q1,q2,q3,q4⟩;have Q1:Hid (w'.cell? ⟨bs,0,none⟩=some (.slice (some ⟨g,0,none⟩) (i+1) cap')):=q1;have Q3:Hid (w'.ownsRow w.heap.size 194 4 (.slice (some ⟨g,0,none⟩) (i+1) cap') (i+1) (spOf (stp o c k) (cel o c k) (frm o c) (til o e c) (i+1))):=q3;have Q4:Hid (Touch w.heap.size bs w w'):=HT.out.trans q4;clear q1 q3 q4;go_wp2_with fail
    go_roundw
    case rel=>exact⟨i+1,by rw [<- HS.out]; have:=HMC.out; exact val_int (by omega),by rw [<- HS.out]; have:=HMC.out; have:=HZ.out; exact val_int (by omega),fun j hj=>by
     by_cases e1:j=i
     ·rw [e1]; exact HPE.out
     ·exact HLOW.out j (by omega),by rw [<- HS.out]; omega,⟨_,_,Q1.out,Q3.out⟩,q2,Q4.out⟩
    case measure=>simp [intOf]; omega
  ·have hpe:pos o e c i=e:=by omega
   have HEN:Hid (End o e c i):=end_of (by omega) HLOW.out hpe;rw [hpe] at hx hy;rw [Nat.sub_self] at hy;subst hx hy;have Q1:Hid (wr.cell? ⟨bs,0,none⟩=some (.slice ao i cap)):=hcs;clear hlow hown htch hx' hy' hcs hpe;go_wp2_with fail
   refine bodyPost_end (results_none rfl _ _ _) rfl ?_;exact⟨i,ao,cap,rfl,HEN.out,Q1.out,HOWN.out,HT.out⟩
theorem owns_base{w:World}{base base' e size n:Nat}{v:Value}{xs:List Value}(h:w.ownsRow base e size v n xs)(hb:base'<=base):w.ownsRow base' e size v n xs :=
 ⟨h.1,h.2.elim Or.inl (fun⟨g,cap,cur,hv,hg,r⟩=>Or.inr ⟨g,cap,cur,hv,Nat.le_trans hb hg,r⟩)⟩
theorem spans_good{k r c q:Nat}{N W:Nat}(h:Par (k:Int) r (c:Int) q N W 0)(o nn:Nat)(w:World)(hon:o+nn<=mst W)(hWk:W=k*c)(hk:1<=k)(hc1:8<=c)(hc2:c<=64):
  Calls Tryz.prog 155 #[.agg #[.int .i64 (k:Int),.int .i64 (r:Int),.int .i64 (c:Int),.int .i64 (q:Int)],.int .i64 (o:Int),.int .i64 (nn:Int)] w fun e' w'=>∃ n ao cap,e'=.returned (.tuple #[.slice ao n cap,.int .i64 0])/\End o (o+nn) c n/\w'.ownsRow w.heap.size 194 4 (.slice ao n cap) n (spOf (stp o c k) (cel o c k) (frm o c) (til o (o+nn) c) n)/\Below w.heap.size w w':=by
 have HC:=fun w=>measure_any h w;have hm:=mst_le W;have hW2:=h.wide;clear h;generalize dir W=d at *
 generalize lea W=l at *
 generalize mst W=z at *
 obtain⟨w0,hw0⟩:∃ w0,w0=w.alloc (.cells #[.int .i64 (k:Int),.int .i64 (r:Int),.int .i64 (c:Int),.int .i64 (q:Int)] 23):=⟨_,rfl⟩
 have b0:Below w.heap.size w w0:=by rw [hw0]; exact bal _ _
 go_enter Tryz.func155,Tryz.ntmps155
 go_wp2_with fail
 rw [<- hw0];refine(HC _).mono ?_;rintro e wa ⟨rfl,ha⟩;obtain⟨wb,hwb⟩:∃ wb,wb=wa.alloc (.cells #[.int .i64 (N:Int),.int .i64 (W:Int),.int .i64 (d:Int),.int .i64 (l:Int),.int .i64 (z:Int)] 177):=⟨_,rfl⟩
 obtain⟨wc,hwc⟩:∃ wc,wc=wb.alloc (.cells #[.slice none 0 0] 190):=⟨_,rfl⟩
 have b2:Below wa.heap.size wa wb:=by rw [hwb]; exact bal _ _
 have b3:Below wb.heap.size wb wc:=by rw [hwc]; exact bal _ _
 have z2:wb.heap.size=wa.heap.size+1:=by rw [hwb]; simp
 have z3:wc.heap.size=wb.heap.size+1:=by rw [hwc]; simp
 have x1:=blk_held hwc (Below.refl _ _) 0 rfl;have x2:=blk_free hwc (Below.refl _ _) 0;have x3:=(mea_held hwb b3).2.1;have x4:=(par_held hw0 (bth (bth ha b2) b3)).2.2.1;have x5:wb.cell? ⟨w.heap.size,2,none⟩=some (.int .i64 (c:Int)):=(par_held hw0 (bth ha b2)).2.2.1;have x6:wa.cell? ⟨w.heap.size,2,none⟩=some (.int .i64 (c:Int)):=(par_held hw0 ha).2.2.1;have s1:=b0.size;have s2:=ha.size;have s3:w.heap.size<w0.heap.size:=by rw [hw0]; simp
 have CU:=lcut_any wc wb.heap.size wa.heap.size w.heap.size o nn c W k x1 x2 x3 x4 (by omega) (by omega) hWk hk hc1 hc2 hW2 (by omega);rw [z2] at CU;have HB:=bth (bth (bth b0 ha) b2) b3;have x7:∀ o o',((wa.alloc o).alloc o').cell? ⟨w.heap.size,2,none⟩=some (.int .i64 (c:Int)):=fun o o'=>held (held x6 (bal wa o)) (bal _ o');clear hw0 hWk x5 x6 x1 x2 x3 x4;go_wp2_with fail
 rw [<- hwb,<- hwc];clear hwb hwc x7;refine CU.mono ?_;rintro e w' ⟨n,ao,cap,rfl,hE,hcs,hown,ht⟩;have HO:Hid (w'.ownsRow wc.heap.size 194 4 (.slice ao n cap) n (spOf (stp o c k) (cel o c k) (frm o c) (til o (o+nn) c) n)):=hown;have HE:Hid (End o (o+nn) c n):=hE;have s4:=HB.size;have HBB:Hid (Below w.heap.size w w'):=⟨ht.os.trans HB.os,ht.tape.trans HB.tape,ht.output.trans HB.output,Nat.le_trans HB.size ht.size,fun k hk=>(ht.block k (by omega) (by omega)).trans (HB.block k hk)⟩
 clear hE hown ht CU HB;go_wp2_with fail
 go_ret2;exact⟨n,ao,cap,rfl,HE.out,owns_base HO.out s4,HBB.out⟩
end Go.Proofs.YtemlojjkokooeaaGreat
