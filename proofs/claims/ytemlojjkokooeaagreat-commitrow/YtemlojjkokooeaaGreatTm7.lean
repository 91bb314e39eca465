import Derived.Lib.BufferWrite
import Derived.Test.YtemlojjkokooeaaGreatTm6
open Go.Value renaming int->J,slice->I,agg->z,tuple->jd
open Go.IntKind renaming i64->O
open Go.RowKit renaming Hid->Q
open Go.Proofs.Tryz renaming prog->Z
open Nat renaming le_succ->U
open Option renaming none->L,some->T
open Go renaming World->S,Addr->p,Calls->jc
open Go.Obj renaming cells->C
open Go.Ending renaming returned->ja
open Go.RowKit.Below renaming refl->jb
set_option maxHeartbeats 16000000
set_option maxRecDepth 100000
namespace Go.Proofs.YtemlojjkokooeaaGreat.De
open Go.RowKit
def lenI (E x:Int):Int:=if E=0 then x else 0
theorem lenI_zero(x:Int):lenI 0 x=x:=zk rfl
theorem lenI_not{E:Int}(h:E ≠ 0)(x:Int):lenI E x=0:=zl h
def AnsD (w:S) (E A D:Int) (n:Nat) (R V:Nat->Int) (e:Ending) (w':S):Prop :=
  ∃ ao cp,e=.returned (.tuple #[.agg #[.int .i64 (lenI E A),.int .i64 (lenI E D),.slice ao (aK E n) cp],.int .i64 E])/\OwR w.heap.size w' ao (aK E n) cp R V/\b7 w w'
theorem Bf{k r c q:Int}{N W:Nat}(h:Par k r c q N W 0)(w:S)(bo:Option p)(bc:Nat)(F:Nat->UInt8)(hB:Bec w bo W bc F)(E:Int)(hE:(if isD W q F=true then (0:Int) else 150)=E):
  jc Z 106 #[Pz k r c q,I bo W bc] w (AnsD w E ((nm F 0 4:Nat):Int) ((nm F 4 1:Nat):Int) (nm F 5 2) (rdR F 7) (rdV F 7)):=by
 obtain⟨qC,hW,yY,hq⟩:=h.fine;have Lv:=fun v=>ek h bo W bc v;rw [zk rfl,zk rfl] at Lv;have HL:=fun v hv=>mY v bo W bc F hv hW za;obtain⟨s,d,x,nn,er,h'⟩:=cN k r c q ((nm F 0 4:Nat):Int) W;have NS:∀ m,m=min (nm F 5 2) (dir W)->∀ v ro rc uo uc,RdR v ro m (rdR F 7) (rdV F 7)->RdU v uo (W-7-6*m) (fun j=>F (7+6*m+j))->jc Z 172 #[z #[J O ((nm F 0 4:Nat):Int),J O ((nm F 4 1:Nat):Int),J O ((nm F 5 2:Nat):Int),I ro m rc,I uo (W-7-6*m) uc],Pz k r c q,J O 0] v fun e w'=>∃ pt:Int,e=ja (J O pt)/\decide (pt=5)=isD W q F/\b7 v w':=by
  intro m hm v ro rc uo uc hr hu;have:=te h h' v ((nm F 4 1:Nat):Int) ((nm F 5 2:Nat):Int) ro m rc (rdR F 7) (rdV F 7) hr (fun _=>by have:=dP yY;omega) uo (W-7-6*m) uc (fun j=>F (7+6*m+j)) hu za;rw [vA h F h' m hm];exact this
 have Fk:Q (isD W q F=true->∀ m,m=min (nm F 5 2) (dir W)->m=nm F 5 2):=fun hd m hm=>by
  have:=(okD_few hW (isD_true hd).1).1;omega
 have HB:=am hB;have HE:=am hE;clear h hB hE qC hq h';unfold AnsD;generalize isD W q F=ok at *
 generalize nm F 0 4=A at *
 generalize nm F 4 1=D at *
 generalize nm F 5 2=M at *
 generalize dir W=dd at *
 generalize rdR F 7=R at *
 generalize rdV F 7=V at *
 obtain⟨w0,bi⟩:=jM w k r c q
 obtain⟨w1,ci⟩:=fd (w0.alloc (C #[J O 0,J O 0,I L 0 0] 60))
 have b0:=jt bi
 have b1:=jt ci
 have z0:=ks bi
 have xK:Q (w1.heap.size=w.heap.size+2):=by show _=_;rw [ci];simp [z0]
 have HP:Q (∀ u,b7 w1 u->(u.cell? ⟨w.heap.size,0,L⟩=T (J O k)/\u.cell? ⟨w.heap.size,1,L⟩=T (J O r)/\u.cell? ⟨w.heap.size,2,L⟩=T (J O c)/\u.cell? ⟨w.heap.size,3,L⟩=T (J O q))/\(u.cell? ⟨w.heap.size+1,0,L⟩=T (J O 0)/\u.cell? ⟨w.heap.size+1,1,L⟩=T (J O 0)/\u.cell? ⟨w.heap.size+1,2,L⟩=T (I L 0 0))/\∀ i,u.frozen? ⟨w.heap.size+1,i,L⟩=false):=fun u hu=>⟨ak bi (ap b1 hu),by rw [<- z0];exact⟨⟨ae ci hu 0 rfl,ae ci hu 1 rfl,ae ci hu 2 rfl⟩,aI ci hu⟩⟩
 have io:=am (ap b0 b1);cases ok
 ·obtain rfl:(150:Int)=E:=HE.out;rw [ed zb,lenI_not zb,lenI_not zb];go_enter Tryz.func106,Tryz.ntmps106
  go_wp2_with fail
  rw [<- bi,<- ci];clear bi ci z0 b0 b1;refine(Lv _).mono ?_;rintro e wa ⟨rfl,ha⟩;go_wp2_with fail
  refine(HL _ (HB.out.below (ap io.out ha))).mono ?_;rintro e wc ⟨ro,rc,uo,m,uc,xu,rfl,em,zD,hc⟩;have HF:=NS m xu;have zE:=am xu;clear xu;obtain⟨wd,jN⟩:=fd (wc.alloc (C #[J O (A:Int),J O (D:Int),J O (M:Int),I ro m rc,I uo (W-7-6*m) uc] 216))
  have bd:=jt jN
  have k4:b7 w1 wd:=ap (ap ha hc) bd;have Iu:=(em.below bd).mono (ap io.out ha).size;have HO:=am Iu;have FM:Q (w.heap.size+2<=wa.heap.size/\OwR wa.heap.size wd ro m rc R V):=⟨by have:=ha.size;rw [xK.out] at this;exact this,em.below bd⟩
  have Lw:Q (RdU wd uo (W-7-6*m) (fun j=>F (7+6*m+j))):=(zD wd (HB.out.below (ap io.out k4))).rd;have yg:Q (∀ u,b7 wd u->u.cell? ⟨wc.heap.size,0,L⟩=T (J O (A:Int))/\u.cell? ⟨wc.heap.size,1,L⟩=T (J O (D:Int))/\u.cell? ⟨wc.heap.size,3,L⟩=T (I ro m rc)):=fun u hu=>⟨ae jN hu 0 rfl,ae jN hu 1 rfl,ae jN hu 3 rfl⟩
  obtain⟨⟨m0,m1,m2,m3,m4⟩,_⟩:=aY jN (jb _ _);obtain⟨⟨s0,s1,s2,s3⟩,_⟩:=HP.out (wc.alloc (C #[J O (A:Int),J O (D:Int),J O (M:Int),I ro m rc,I uo (W-7-6*m) uc] 216)) (by rw [<- jN];exact k4);have Jp:=am k4;clear ha hc k4 bd em Iu zD;go_wp2_with fail
  rw [<- jN];clear jN;refine(HF wd ro rc uo uc HO.out.rec.rd Lw.out).mono ?_;rintro e we ⟨pt,rfl,F3,he⟩;have KD:Q ((if pt=5 then (0:Int) else 150)=150):=zl (by simpa using F3);have Lx:=am he;obtain⟨x0,x1,x3⟩:=yg.out we he;obtain⟨_,⟨t0,t1,t2⟩,f⟩:=HP.out we (ap Jp.out he);clear he F3 s0 s1 s2 s3;go_wp2_with fail
  refine(nr pt _).mono ?_;rintro e wf ⟨rfl,xL⟩;obtain rfl:=xL.symm;rw [KD.out];have zq:=am (ap (ap io.out Jp.out) Lx.out);have xC:=am (FM.out.2.below Lx.out);have FN:=am (FM.out.1);clear HO FM Lw yg HF NS;go_wp2_with fail
  refine bodyPost_ret (v:=jd #[z #[J O 0,J O 0,I L 0 0],J O 150]) (by simp [results,Tryz.results106,go_sem,t0,t1,t2]) rfl ⟨L,0,rfl,owr_nil _ _ _ _,?_⟩;exact((zq.out.setCell (U _) _).setCell (U _) _).setCell (U _) _
 ·obtain rfl:(0:Int)=E:=HE.out;rw [aQ,lenI_zero,lenI_zero];have F7:Q (∀ m,m=min M dd->m=M):=Fk.out (by trivial);clear Fk;go_enter Tryz.func106,Tryz.ntmps106
  go_wp2_with fail
  rw [<- bi,<- ci];clear bi ci z0 b0 b1;refine(Lv _).mono ?_;rintro e wa ⟨rfl,ha⟩;go_wp2_with fail
  refine(HL _ (HB.out.below (ap io.out ha))).mono ?_;rintro e wc ⟨ro,rc,uo,m,uc,xu,rfl,em,zD,hc⟩;have HF:=NS m xu;have zE:=am xu;clear xu;obtain⟨wd,jN⟩:=fd (wc.alloc (C #[J O (A:Int),J O (D:Int),J O (M:Int),I ro m rc,I uo (W-7-6*m) uc] 216))
  have bd:=jt jN
  have k4:b7 w1 wd:=ap (ap ha hc) bd;have Iu:=(em.below bd).mono (ap io.out ha).size;have HO:=am Iu;have FM:Q (w.heap.size+2<=wa.heap.size/\OwR wa.heap.size wd ro m rc R V):=⟨by have:=ha.size;rw [xK.out] at this;exact this,em.below bd⟩
  have Lw:Q (RdU wd uo (W-7-6*m) (fun j=>F (7+6*m+j))):=(zD wd (HB.out.below (ap io.out k4))).rd;have yg:Q (∀ u,b7 wd u->u.cell? ⟨wc.heap.size,0,L⟩=T (J O (A:Int))/\u.cell? ⟨wc.heap.size,1,L⟩=T (J O (D:Int))/\u.cell? ⟨wc.heap.size,3,L⟩=T (I ro m rc)):=fun u hu=>⟨ae jN hu 0 rfl,ae jN hu 1 rfl,ae jN hu 3 rfl⟩
  obtain⟨⟨m0,m1,m2,m3,m4⟩,_⟩:=aY jN (jb _ _);obtain⟨⟨s0,s1,s2,s3⟩,_⟩:=HP.out (wc.alloc (C #[J O (A:Int),J O (D:Int),J O (M:Int),I ro m rc,I uo (W-7-6*m) uc] 216)) (by rw [<- jN];exact k4);have Jp:=am k4;clear ha hc k4 bd em Iu zD;go_wp2_with fail
  rw [<- jN];clear jN;refine(HF wd ro rc uo uc HO.out.rec.rd Lw.out).mono ?_;rintro e we ⟨pt,rfl,F3,he⟩;have KD:Q ((if pt=5 then (0:Int) else 150)=0):=zk (by simpa using F3);have Lx:=am he;obtain⟨x0,x1,x3⟩:=yg.out we he;obtain⟨_,⟨t0,t1,t2⟩,f⟩:=HP.out we (ap Jp.out he);clear he F3 s0 s1 s2 s3;go_wp2_with fail
  refine(nr pt _).mono ?_;rintro e wf ⟨rfl,xL⟩;obtain rfl:=xL.symm;rw [KD.out];have zq:=am (ap (ap io.out Jp.out) Lx.out);have xC:=am (FM.out.2.below Lx.out);have FN:=am (FM.out.1);clear HO FM Lw yg HF NS;go_wp2_with fail
  refine bodyPost_ret (v:=jd #[z #[J O (A:Int),J O (D:Int),I ro m rc],J O 0]) (by simp [results,Tryz.results106,go_sem,t0,t1,t2]) rfl ⟨ro,rc,by rw [F7.out m zE.out],?_,?_⟩
  ·rw [<- F7.out m zE.out];have h5:=FN.out;refine OwR.mono (B:=wa.heap.size) (xC.out.stay fun t ht KC=>?_) za;have f9:t ≠ w.heap.size+1:=za;rw [heap_setCell_other _ _ _ _ f9,heap_setCell_other _ _ _ _ f9,heap_setCell_other _ _ _ _ f9]
  ·exact((zq.out.setCell (U _) _).setCell (U _) _).setCell (U _) _
theorem ou{k r c q:Int}{N W:Nat}{y:Int}(h:Par k r c q N W y)(w:S)(bo:Option p)(m bc:Nat)(E:Int)(hE:(if y=0 then (if m=W then (0:Int) else 20) else y)=E)(f9:E ≠ 0)(A D:Int)(t:Nat)(R V:Nat->Int):
  jc Z 106 #[Pz k r c q,I bo m bc] w (AnsD w E A D t R V):=by
 have HC:=fun v=>ek h bo m bc v;rw [hE] at HC;have yP:(E != 0)=true:=by simpa using f9
 unfold AnsD;rw [ed f9,lenI_not f9,lenI_not f9];clear h hE f9;obtain⟨w0,bi⟩:=jM w k r c q
 obtain⟨w1,ci⟩:=fd (w0.alloc (C #[J O 0,J O 0,I L 0 0] 60))
 have b0:=jt bi
 have b1:=jt ci
 have z0:=ks bi
 go_enter Tryz.func106,Tryz.ntmps106
 go_wp2_with fail
 rw [<- bi,<- ci];refine(HC _).mono ?_;rintro e wa ⟨rfl,ha⟩;have t0:=ae ci ha 0 rfl;have t1:=ae ci ha 1 rfl;have t2:=ae ci ha 2 rfl;have f:=aI ci ha;rw [z0] at t0 t1 t2 f;clear bi ci;go_wp2_with fail
 refine bodyPost_ret (v:=jd #[z #[J O 0,J O 0,I L 0 0],J O E]) (by simp [results,Tryz.results106,go_sem,t0,t1,t2]) rfl ⟨L,0,rfl,owr_nil _ _ _ _,?_⟩;have hB:=ap (ap b0 b1) ha;exact((hB.setCell (U _) _).setCell (U _) _).setCell (U _) _
theorem Parse_any{k r c q:Int}{N W:Nat}{y:Int}(h:Par k r c q N W y)(w:S)(bo:Option p)(m bc:Nat)(F:Nat->UInt8)(hB:Bec w bo m bc F)(E:Int)(hE:erB y W q m F=E):
  jc Z 106 #[Pz k r c q,I bo m bc] w (AnsD w E ((nm F 0 4:Nat):Int) ((nm F 4 1:Nat):Int) (nm F 5 2) (rdR F 7) (rdV F 7)):=by
 unfold erB at hE;rcases h.err with rfl | rfl
 ·rw [zk rfl] at hE;by_cases hm:m=W
  ·rw [zk hm] at hE;subst hm;exact Bf h w bo bc F hB E hE
  ·rw [zl hm] at hE;exact ou h w bo m bc E (by rw [zk rfl,zl hm];exact hE) (by rw [<- hE];decide) _ _ _ _ _
 ·rw [zl zb] at hE;exact ou h w bo m bc E (by rw [zl zb];exact hE) (by rw [<- hE];decide) _ _ _ _ _
theorem mF(w:S)(ao:Option p)(n ca:Nat)(bo:Option p)(cb:Nat)(R V:Nat->Int)(ha:RdR w ao n R V)(hb:RdR w bo n R V)(hn:n<=1000):
  jc Z 55 #[I ao n ca,I bo n cb] w fun e w'=>e=ja (.bool true)/\b7 w w':=by
 have HA:=am ha;have HB:=am hb;clear ha hb;go_enter Tryz.func55,Tryz.ntmps55
 go_wp2_with fail
 go_loopw [5] (fun x wr=>∃ i:Nat,i<=n/\x=J O i/\Q (b7 w wr)) (fun x _=>n-(intOf x).toNat)
 case atStart=>exact⟨0,Nat.zero_le _,rfl,jb _ _⟩
 case round =>
  obtain⟨i,hi,rfl,d8⟩:=hrel;by_cases hlt:i<n
  ·obtain⟨b,off,rfl,hc⟩:=(HA.out.below d8.out) za
   obtain⟨q0,q1⟩:=hc i hlt;obtain⟨b2,Ly,rfl,xX⟩:=(HB.out.below d8.out) za
   obtain⟨r0,r1⟩:=xX i hlt;have i1:(0:Int)<=(i:Int):=za;have i2:(i:Int)<(n:Int):=za;generalize R i=ri at *
   generalize V i=vi at *
   clear hc xX;go_wp2_with fail
   go_quiet (fail)
   go_wp2_with fail
   exact⟨⟨i+1,za,by go_num,ag d8.out (below_drewN _ _ _) d8.out.size⟩,by simp [intOf];omega⟩
  ·go_wp2;go_ret;exact⟨rfl,d8.out⟩
theorem Same_any(w:S)(l d:Int)(ao:Option p)(n ca:Nat)(bo:Option p)(cb:Nat)(R V:Nat->Int)(ha:RdR w ao n R V)(hb:RdR w bo n R V)(hn:n<=1000):
  jc Z 45 #[z #[J O l,J O d,I ao n ca],z #[J O l,J O d,I bo n cb]] w fun e w'=>e=ja (.bool true)/\b7 w w':=by
 have hl:(l != l)=false:=zi;have hd:(d != d)=false:=zi;have HC:=fun w ha hb=>mF w ao n ca bo cb R V ha hb hn;have HA:=am ha;have HB:=am hb;clear ha hb;obtain⟨w0,bi⟩:=fd (w.alloc (C #[J O l,J O d,I ao n ca] 60))
 obtain⟨w1,ci⟩:=fd (w0.alloc (C #[J O l,J O d,I bo n cb] 60))
 have b0:=jt bi
 have b1:=jt ci
 have io:=am (ap b0 b1);go_enter Tryz.func45,Tryz.ntmps45
 go_wp2_with fail
 rw [<- bi,<- ci];clear bi ci b0 b1;refine(HC _ (HA.out.below io.out) (HB.out.below io.out)).mono ?_;rintro e wa ⟨rfl,ha⟩;go_wp2_with fail
 go_ret;exact⟨rfl,ap io.out ha⟩
end Go.Proofs.YtemlojjkokooeaaGreat.De
namespace Go.Proofs.YtemlojjkokooeaaGreat
open Go.RowKit
theorem dQ{n o k:Nat}(G H:Nat->UInt8)(h:o+k<=n):(byF n G).take o ++ (byF k H ++ (byF n G).drop (o+k))=byF n (upR G o k H):=by
 have e1:((byF n G).take o).length=o:=by rw [List.length_take,ai];omega
 apply List.ext_getElem?
 intro j;by_cases h1:j<o
 ·rw [List.getElem?_append_left za,List.getElem?_take_of_lt h1,aL _ _ _ za,aL _ _ _ za,aw za]
 ·rw [List.getElem?_append_right za,e1];by_cases h2:j<o+k
  ·rw [List.getElem?_append_left (by rw [ai];omega),aL _ _ _ za,aL _ _ _ za,aE za]
  ·rw [List.getElem?_append_right (by rw [ai];omega),ai,List.getElem?_drop,show o+k+(j-o-k)=j by omega];by_cases h3:j<n
   ·rw [aL _ _ _ h3,aL _ _ _ h3,aw za]
   ·rw [List.getElem?_eq_none (by rw [ai];omega),List.getElem?_eq_none (by rw [ai];omega)]
theorem gE(w:S)(g:Nat)(cs:Array Value):Only (fun b=>b=g) w (w.setRow g cs):=⟨rfl,rfl,rfl,by simp [World.setRow],fun k _ hk=>setRow_other w g k cs hk⟩
theorem dk{w:S}{g n off k dC:Nat}{G H:Nat->UInt8}{bo:Option p}{cb:Nat}(h0:0<k)(hg:Bk w g n G)(hb:Bec w bo k cb H)(xB:off+k<=n):
  ∃ w',(Builtin.copy_ #[36,36] 3 #[I (T ⟨g,off,L⟩) k dC,I bo k cb]).run Z w=.ok (goInt k) w'/\Bk w' g n (upR G off k H)/\Only (fun b=>b=g) w w':=by
 obtain⟨b,Pc,rfl,hc⟩:=hb.rd h0;have hl:(byF k H).length=Nat.min k k:=by rw [ai];exact(Nat.min_self k).symm
 have l9:=run_copy_row (P:=Z) w 36 36 3 5 g off k dC ⟨b,Pc,L⟩ k cb (byF n G).toArray 5 (byF k H) Tryz.underlying36 zh hg hl (dF hb) (by simp [ai];exact xB) (dU k H);rw [ai] at l9;refine⟨_,l9,?_,gE _ _ _⟩;unfold Bk;rw [<- dQ G H xB];have:=setRow_heap w g _ ((byF n G).take off ++ (byF k H ++ (byF n G).drop (off+k))).toArray 5 _ hg
 simpa using this
def mkF (i:Nat):UInt8:=if i=0 then 84 else 50
theorem lp{w:S}{g n:Nat}{G:Nat->UInt8}(hg:Bk w g n G)(xB:2<=n):
  ∃ w',(Builtin.copy_ #[36,9] 3 #[I (T ⟨g,0,L⟩) 2 2,.string ⟨#[84,50]⟩]).run Z w=.ok (goInt 2) w'/\Bk w' g n (upR G 0 2 mkF)/\Only (fun b=>b=g) w w':=by
 have l9:=Lib.run_copy_row_string (P:=Z) w 36 9 3 5 g 0 2 2 ⟨#[84,50]⟩ (byF n G).toArray 5 Tryz.underlying36 zh hg (Nat.le_refl _) (by simp [ai];exact xB);refine⟨_,l9,?_,gE _ _ _⟩;unfold Bk;rw [<- dQ G mkF (show 0+2<=n by omega)];exact setRow_heap w g _ _ 5 _ hg
def Cel (w:S) (b:Nat) (cs:List Value):Prop:=∀ i v,cs[i]? = T v->w.cell? ⟨b,i,L⟩=T v
theorem Cel.only{X:Nat->Prop}{w w':S}{b:Nat}{cs:List Value}(h:Cel w b cs)(ho:Only X w w')(hx:¬ X b):Cel w' b cs:=fun i v hv=>ho.cell (h i v hv) hx
theorem Cel.below{w w':S}{b:Nat}{cs:List Value}(h:Cel w b cs)(ho:b7 w w'):Cel w' b cs:=fun i v hv=>held (h i v hv) ho
theorem cF{w w0:S}{cs:Array Value}{t:TypeId}(h0:w0=w.alloc (C cs t)):Cel w0 w.heap.size cs.toList:=fun i _ hv=>ae h0 (jb _ _) i (by simpa using hv)
theorem Vec.only{X:Nat->Prop}{w w':S}{ao:Option p}{n b8:Nat}{R:Nat->Int}(h:Vec w ao n b8 R)(ho:Only X w w')(hx:∀ a,ao=T a->¬ X a.block):Vec w' ao n b8 R :=
 ⟨fun hn=>by obtain⟨b,off,rfl,hc⟩:=h.rd hn;exact⟨b,off,rfl,fun i hi=>ho.cell (hc i hi) (hx ⟨b,off,L⟩ rfl)⟩,h.nil,h.room⟩
theorem Bec.only{X:Nat->Prop}{w w':S}{ao:Option p}{n b8:Nat}{F:Nat->UInt8}(h:Bec w ao n b8 F)(ho:Only X w w')(hx:∀ a,ao=T a->¬ X a.block):Bec w' ao n b8 F :=
 ⟨fun hn=>by obtain⟨b,off,rfl,hc⟩:=h.rd hn;exact⟨b,off,rfl,fun i hi=>ho.cell (hc i hi) (hx ⟨b,off,L⟩ rfl)⟩,h.nil,h.room⟩
def wrF (s:Sl) (i:Nat) (G:Nat->UInt8):Nat->UInt8:=fun j=>if j<12+4*i then enc s j else G j
theorem Be{s:Sl}{i:Nat}(hi:i<s.vn)(G:Nat->UInt8):upR (wrF s i G) (12+4*i) 4 (fun t=>dg (s.V i).toNat (4-1-t))=wrF s (i+1) G:=by
 funext j
 by_cases h:12+4*i<=j/\j<12+4*i+4
 ·rw [aE h];unfold wrF;rw [zk za,show j=12+4*i+(j-(12+4*i)) by omega,Dv hi za,show 12+4*i+(j-(12+4*i))-(12+4*i)=j-(12+4*i) by omega]
 ·rw [aw h];unfold wrF;by_cases h2:j<12+4*i
  ·rw [zk h2,zk za]
  ·rw [zl h2,zl za]
theorem CN{s:Sl}{n j:Nat}(G:Nat->UInt8)(hn:n=12+4*s.vn+s.dn)(hj:j<n):upR (wrF s s.vn G) (12+4*s.vn) s.dn s.D j=enc s j:=by
 by_cases h:12+4*s.vn<=j/\j<12+4*s.vn+s.dn
 ·rw [aE h];have:=Dl s (j-(12+4*s.vn));rw [show 12+4*s.vn+(j-(12+4*s.vn))=j by omega] at this;exact this.symm
 ·rw [aw h];unfold wrF;rw [zk za]
theorem Bo{s:Sl}(G:Nat->UInt8)(j:Nat):
  upR (upR (upR (upR (upR G 0 2 mkF) 2 1 (fun i=>dg s.kd.toNat (1-1-i))) 3 1 (fun i=>dg s.ix.toNat (1-1-i))) 4 4 (fun i=>dg s.ce.toNat (4-1-i))) 8 4 (fun i=>dg s.st.toNat (4-1-i)) j=wrF s 0 G j:=by
 unfold wrF;by_cases h5:8<=j/\j<8+4
 ·rw [aE h5,zk za];have:=Dr s (i:=j-8) za;rw [show 8+(j-8)=j by omega] at this;rw [this]
 rw [aw h5];by_cases h4:4<=j/\j<4+4
 ·rw [aE h4,zk za];have:=Dt s (i:=j-4) za;rw [show 4+(j-4)=j by omega] at this;rw [this]
 rw [aw h4];by_cases h3:3<=j/\j<3+1
 ·rw [aE h3,zk za];obtain rfl:j=3:=za;rfl
 rw [aw h3];by_cases h2:2<=j/\j<2+1
 ·rw [aE h2,zk za];obtain rfl:j=2:=za;show dg s.kd.toNat 0=s.kd;apply UInt8.toNat_inj.1
  have:=s.kd.toNat_lt;rw [aP];simp
 rw [aw h2];by_cases h1:0<=j/\j<0+2
 ·rw [aE h1,zk za];rcases (show j=0\/j=1 by omega) with rfl | rfl <;> rfl
 rw [aw h1,zl za]
theorem tC{N:Nat}{c:Int}(w:S)(g:Nat)(s:Sl)(ao:Option p)(ca:Nat)(bo:Option p)(cb:Nat)(G:Nat->UInt8)(hN:1<=N)(Ky:N<=16)(hc:8<=c)(xX:c<=64)(hg:Bk w g (sz N c) G)(hs:Has w s ao ca bo cb)(hok:okS N c s=true)
  (Iy:∀ a,ao=T a->¬ a.block=g) (kK:∀ a,bo=T a->¬ a.block=g) :
  jc Z 231 #[.agg (prt g 0 (4*N) c.toNat),slv s ao ca bo cb] w fun e w'=>e=.returned (.tuple #[])/\Bk w' g (sz N c) (enc s)/\Only (fun b=>b=g) w w':=by
 have hnm:=dx hok;obtain⟨⟨k1,k2⟩,k3,k4,k5,k6,k7,k8⟩:=dY hok;obtain⟨n,hn⟩:=fd (sz N c)
 rw [<- hn] at hg ⊢;have A5:n=12+4*N+c.toNat:=hn;have HA:Q (∀ j,j<n->upR (wrF s s.vn G) (12+4*s.vn) s.dn s.D j=enc s j):=fun j hj=>CN G za hj;have HS:Q (∀ i,i<N->upR (wrF s i G) (12+4*i) 4 (fun t=>dg (s.V i).toNat (4-1-t))=wrF s (i+1) G):=fun i hi=>Be za G;have HH:Q (∀ j,upR (upR (upR (upR (upR G 0 2 mkF) 2 1 (fun i=>dg s.kd.toNat (1-1-i))) 3 1 (fun i=>dg s.ix.toNat (1-1-i))) 4 4 (fun i=>dg s.ce.toNat (4-1-i))) 8 4 (fun i=>dg s.st.toNat (4-1-i)) j=wrF s 0 G j):=Bo G;have HV:Q (∀ i,i<N->s.V i=(((s.V i).toNat:Nat):Int)):=fun i hi=>by show _=_;have:=k2 i za;omega
 have Fl:Q (Vec w ao s.vn ca s.V):=hs.vec;have Fm:Q (Bec w bo s.dn cb s.D):=hs.bec;have Jq:=am Iy;have Vb:=am kK;obtain⟨d,hd⟩:=fd (c.toNat)
 have xG:s.dn=d:=za;have Pd:8<=d:=za;have G4:n<=1000:=za;have Iz:n=12+4*N+d:=za;rw [<- hd];unfold slv;obtain⟨kn,xF⟩:=fd (s.kd.toNat)
 obtain⟨xn,Jr⟩:=fd (s.ix.toNat)
 obtain⟨cn,qD⟩:=fd (s.ce.toNat)
 obtain⟨sn,hsn⟩:=fd (s.st.toNat)
 have e1:s.ix=(xn:Int):=za;have e2:s.ce=(cn:Int):=za;have e3:s.st=(sn:Int):=za;have Yg:kn<256:=by rw [xF];exact s.kd.toNat_lt
 obtain⟨V,hV⟩:=fd (s.V)
 obtain⟨D,hD⟩:=fd (s.D)
 obtain⟨E,hE⟩:=fd (enc s)
 obtain⟨wF,NT⟩:∃ wF:Nat->Nat->UInt8,wF=fun i=>wrF s i G:=⟨_,rfl⟩
 have Pe:Q (∀ j,j<n->upR (wF N) (12+4*N) d D j=E j):=fun j hj=>by have:=HA.out j hj;rw [k1,xG] at this;rw [NT,hD,hE];exact this
 have n7:Q (∀ i,i<N->upR (wF i) (12+4*i) 4 (fun t=>dg (V i).toNat (4-1-t))=wF (i+1)):=fun i hi=>by have:=HS.out i hi;rw [NT,hV];exact this
 have NU:Q (∀ j,upR (upR (upR (upR (upR G 0 2 mkF) 2 1 (fun i=>dg kn (1-1-i))) 3 1 (fun i=>dg xn (1-1-i))) 4 4 (fun i=>dg cn (4-1-i))) 8 4 (fun i=>dg sn (4-1-i)) j=wF 0 j):=fun j=>by rw [xF,Jr,qD,hsn,NT];exact HH.out j
 rw [k1,<- hV] at Fl;rw [xG,<- hD] at Fm;rw [<- hV] at HV;rw [<- hE,<- xF,e1,e2,e3,k1,xG];have HG:=am hg;have Vc:=hg.lt;clear HA HS HH hnm k1 k2 k3 k4 k5 k6 k7 k8 hn A5 xF Jr qD hsn e1 e2 e3 hV hD hE NT hd xG hs hok Iy kK hg hc xX;obtain⟨w0,bi⟩:=fd (w.alloc (.cells (prt g 0 (4*N) d) 247))
 obtain⟨w1,ci⟩:=fd (w0.alloc (.cells #[.int .u8 (kn:Int),.int .i64 (xn:Int),.int .i64 (cn:Int),.int .i64 (sn:Int),.slice ao N ca,.slice bo d cb] 107))
 have b0:=jt bi
 have b1:=jt ci
 have z0:=ks bi
 have C0:Q (Cel w1 w.heap.size (prt g 0 (4*N) d).toList):=(cF bi).below b1;have C1:Q (Cel w1 (w.heap.size+1) [.int .u8 (kn:Int),.int .i64 (xn:Int),.int .i64 (cn:Int),.int .i64 (sn:Int),.slice ao N ca,.slice bo d cb]):=by show Cel _ _ _;rw [<- z0];exact cF ci
 have jZ:=am (ap b0 b1);have xZ:Q (Bk w1 g n G):=HG.out.below jZ.out;have F8:Q (Vec w1 ao N ca V):=Fl.out.below jZ.out;have F9:Q (Bec w1 bo d cb D):=Fm.out.below jZ.out;have q0:¬ w.heap.size=g:=za;have q1:¬ w.heap.size+1=g:=za;clear b0 b1 z0 Fl Fm HG;unfold prt at C0 bi ⊢;rw [show (0:Nat)+2=2 from rfl,show (0:Nat)+3=3 from rfl,show (0:Nat)+4=4 from rfl,show (0:Nat)+8=8 from rfl,show (0:Nat)+12=12 from rfl] at *;go_enter Tryz.func231,Tryz.ntmps231
 obtain⟨wa,l9,ga,oa⟩:=lp xZ.out za;have Vd:=(C0.out.only oa q0) 1 _ rfl;have Ve:=(C1.out.only oa q1) 0 _ rfl;go_wp2_with fail
 rw [<- bi,<- ci,l9];clear bi ci l9;go_wp2_with fail
 refine(bF _ g n 2 1 1 kn _ ga za za G4).mono ?_;rintro e wb ⟨rfl,gb,RK⟩;have ob:=oa.trans RK;have Vf:=(C0.out.only ob q0) 2 _ rfl;have Vg:=(C1.out.only ob q1) 1 _ rfl;clear Vd Ve RK oa ga;go_wp2_with fail
 refine(bF _ g n 3 1 1 xn _ gb za za G4).mono ?_;rintro e wc ⟨rfl,gc,RL⟩;have oc:=ob.trans RL;have Vh:=(C0.out.only oc q0) 3 _ rfl;have F5:=(C1.out.only oc q1) 2 _ rfl;clear Vf Vg RL ob gb;go_wp2_with fail
 refine(bF _ g n 4 4 4 cn _ gc za za G4).mono ?_;rintro e wd ⟨rfl,gd,RM⟩;have od:=oc.trans RM;have Vi:=(C0.out.only od q0) 4 _ rfl;have Vj:=(C1.out.only od q1) 3 _ rfl;clear Vh F5 RM oc gc;go_wp2_with fail
 refine(bF _ g n 8 4 4 sn _ gd za za G4).mono ?_;rintro e we ⟨rfl,ge,RN⟩;have HO:Q (Only (fun b=>b=g) w1 we):=od.trans RN;have HE:Q (Bk we g n (wF 0)):=ge.congr fun j _=>NU.out j;have Yh:=(C1.out.only HO.out q1) 4 _ rfl;clear Vi Vj RN od gd ge NU;go_wp2_with fail
 go_loopw [33] (fun x wr=>∃ i:Nat,i<=N/\x=.int .i64 (i:Int)/\Q (Bk wr g n (wF i))/\Q (Only (fun b=>b=g) w1 wr)) (fun x _=>N-(intOf x).toNat)
 case atStart=>exact⟨0,Nat.zero_le _,rfl,HE,HO⟩
 case round =>
  obtain⟨i,hi,rfl,hB,hO⟩:=hrel;by_cases hlt:i<N
  ·obtain⟨b,off,rfl,jI⟩:=(F8.out.only hO.out Jq.out).rd za;have ck:=jI i hlt;have FZ:=HV.out i hlt;obtain⟨vi,D6⟩:=fd ((V i).toNat)
   rw [<- D6] at FZ;rw [FZ] at ck;have hs2:=n7.out i hlt;rw [<- D6] at hs2;have EQ:=am hs2;have i1:(0:Int)<=(i:Int):=za;have i2:(i:Int)<(N:Int):=za;have cc:=C0.out.only hO.out q0;have y0:=cc 0 _ rfl;have y1:=cc 1 _ rfl;have y2:=cc 2 _ rfl;have y3:=cc 3 _ rfl;have y4:=cc 4 _ rfl;have y5:=cc 5 _ rfl;have y6:=cc 6 _ rfl;clear jI D6 FZ hs2 cc;go_wp2_with fail
   refine(gH _ g 0 N d i hlt Ky).mono ?_;rintro e wf ⟨rfl,hf⟩;have KE:=hB.out.below hf;have RO:=hO.out.then hf
   clear y0 y1 y2 y3 y4 y5 y6 ck;go_wp2_with fail
   refine(bF _ g n (12+4*i) 4 4 vi _ KE za za G4).mono ?_;rintro e wg ⟨rfl,gg,og⟩;have LC:Q (Bk wg g n (wF (i+1))):=by show Bk _ _ _ _;rw [<- EQ.out];exact gg
   have Pf:Q (Only (fun b=>b=g) w1 wg):=RO.trans og;clear gg og RO KE hf EQ;go_wp2_with fail
   go_roundw
   case rel=>exact⟨i+1,za,by go_num,LC,Pf⟩
   case measure=>simp [intOf];omega
  ·obtain rfl:i=N:=za;have y6:=(C0.out.only hO.out q0) 6 _ rfl;have u5:=(C1.out.only hO.out q1) 5 _ rfl;have xv:=F9.out.only hO.out Vb.out;obtain⟨wh,l9,gh,oh⟩:=dk (off:=12+4*i) (dC:=d) (show 0<d by omega) hB.out xv za;go_wp2_with fail
   refine bodyPost_end (results_none rfl _ _ _) rfl ⟨rfl,gh.congr Pe.out,?_⟩;exact(Only.of_below jZ.out).trans ((hO.out.trans oh))
end Go.Proofs.YtemlojjkokooeaaGreat
