import Derived.Maps.OwnRows
import Derived.Maps.Views
import Derived.Shelf.SlSortCmp.NoneTotal
import Derived.Shelf.SlSortCmp.WholeK
import Derived.Maps.RangeWalk
import Derived.Test.YtemlojjkokooeaaGreatRows
import Derived.Test.YtemlojjkokooeaaGreatTm40
open Go.Proofs.Tryz renaming prog->J
open Go.IntKind renaming i64->O
open Option renaming some->I,none->L
open Go.Value renaming int->Y,slice->Z
open Go renaming Value->U,World->X,Addr->N
open Go.RowKit renaming Below->G,Hid->S
open Nat renaming zero_le->T,le_refl->W
open Bool renaming true->R
set_option maxHeartbeats 16000000
set_option maxRecDepth 100000
namespace Go.Proofs.YtemlojjkokooeaaGreat.Cn
open Go.RowKit Go.Maps Go.ChangeShapes
open Go.WideElems (Fit rd rg pl rd_val)
theorem law3:Keyed J 3:=int_keyed Tryz.underlying3
theorem Ar(w:X):(zeroValue 27).run J w=.ok (Z L 0 0) w:=zh
theorem eX{w w':X}{B:Nat}{e:TypeId}{sz n:Nat}{v:U}{xs:List U}(h:w.ownsRow B e sz v n xs)(hb:b7 w w'):w'.ownsRow B e sz v n xs:=by
 rcases h with ⟨h1,h2 | ⟨g,cp,jw,h2,h3,h4,h5⟩⟩
 ·exact⟨h1,.inl h2⟩
 ·exact⟨h1,.inr ⟨g,cp,jw,h2,h3,(hb.block g (Array.getElem?_eq_some_iff.1 h4).1).trans h4,h5⟩⟩
theorem bh{w w':X}{B:Nat}{e:TypeId}{q:IntKind}{v:U}{zs:List Int}(h:w.ownsInts B e q v zs)(hb:b7 w w'):w'.ownsInts B e q v zs:=⟨eX h.1 hb,h.2⟩
theorem mv{H:Type}{w w':X}{P:Program}{k:TypeId}{base:Nat}{e:TypeId}{q:IntKind}{b n:Nat}{D:DataW H}(h:w.ownsGroups P k base e q b n D)(hb:b7 w w'):w'.ownsGroups P k base e q b n D:=by
 obtain⟨es,qz,h1,F,hs,rfl,xv,yx,Fa⟩:=h;obtain⟨F2,hm,_⟩:=F.stay (R':=rowElem w' base e q) (fun x hx z hz=>by
  obtain⟨zs,ho,rfl⟩:=rowElem_inv hz;exact rowElem_mk (bh ho hb))
 refine⟨es,qz,(hb.block b (Array.getElem?_eq_some_iff.1 h1).1).trans h1,F2,hs,by rw [hm],xv,fun x hx zs ho=>?_,Fa⟩;obtain⟨y,hy⟩:=F.reads x hx;obtain⟨z,hz,_⟩:=rd_val hy;obtain⟨ys,Hx,_⟩:=rowElem_inv hz;rw [ho.unique (bh Hx hb)];exact yx x hx ys Hx
structure GD (D:DataW Unit) (f:Int->List Int):Prop where
  map:IsMap D
  has:∀ x:Int,Maps.has D (.int .i64 x)=decide (x ≠ 0/\f x ≠ [])
  at_:∀ x:Int,x ≠ 0->f x ≠ []->∀ zd,D.atKey (.int .i64 x) zd=.slice (lits .i64 (f x)) []
theorem Br{q:IntKind}{a b:List Int}(h:(lits q a:List (DataW Unit))=lits q b):a=b:=by
 unfold lits at h;exact(List.map_inj_right (fun x y Xp=>by cases Xp;rfl)).1 h
theorem GD.zs{D:DataW Unit}{f:Int->List Int}(h:GD D f){w:X}{B:Nat}{u:U}{zs:List Int}{x:Int}(hx:x ≠ 0)(jx:D.atKey (.int .i64 x) .nil=rowDatum .i64 u zs)(ho:w.ownsInts B 3 .i64 u zs):zs=f x:=by
 by_cases hf:f x=[]
 ·rw [atKey_of_not_has (by rw [h.has x,zp (fun a=>a.2 hf)])] at jx
  rcases ho.datum (H:=Unit) with ⟨_,e⟩ | e
  ·rw [e,hf]
  ·rw [e] at jx;cases jx
 ·rw [h.at_ x hx hf] at jx
  rcases ho.datum (H:=Unit) with ⟨e,_⟩ | e
  ·rw [e] at jx;cases jx
  ·rw [e] at jx
   exact(Br (by simpa using jx)).symm
theorem mX{x v:Int}(h:x ≠ v):(Lit.int O x) ≠ Lit.int O v:=fun e=>h (by cases e;rfl)
theorem GD.put{D:DataW Unit}{f g:Int->List Int}(h:GD D f){v:Int}(hv:v ≠ 0)(hg:g v ≠ [])(hk:WideAt.IsKeyLit (.int .i64 v))(he:∀ x,x ≠ 0->x ≠ v->g x=f x):GD (D.put (.int .i64 v) (.slice (lits .i64 (g v)) [])) g where
 map:=h.map.put _ _
 has x:=by
  by_cases e:x=v
  ·rw [e,has_put_same h.map hk,zm ⟨hv,hg⟩]
  ·rw [has_put_other (mX e),h.has x];by_cases z:x=0
   ·rw [zp (fun a=>a.1 z),zp (fun a=>a.1 z)]
   ·rw [he x z e]
 at_ x hx hf zd:=by
  by_cases e:x=v
  ·rw [e,atKey_put_same h.map hk]
  ·rw [atKey_put_other (mX e),he x hx e];exact h.at_ x hx (by rw [<- he x hx e];exact hf) zd
theorem GD.congr{D:DataW Unit}{f g:Int->List Int}(h:GD D f)(he:∀ x,x ≠ 0->g x=f x):GD D g where
 map:=h.map
 has x:=by
  rw [h.has x];by_cases z:x=0
  ·rw [zp (fun a=>a.1 z),zp (fun a=>a.1 z)]
  ·rw [he x z]
 at_ x hx hf zd:=by rw [he x hx];exact h.at_ x hx (by rw [<- he x hx];exact hf) zd
theorem Aj:GD (.map []) (fun _=>[]) where
 map:=isMap_empty
 has x:=by rw [zp (fun a=>a.2 rfl)];rfl
 at_ x _ hf:=absurd rfl hf
def pv (P Q:Nat->Int) (i k:Nat) (x:Int):List Int:=dl (hbv P Q x) i ++ (if (0<k/\P i=x)\/(1<k/\Q i=x) then [(i:Int)] else [])
theorem pv_0(P Q:Nat->Int)(i:Nat)(x:Int):pv P Q i 0 x=dl (hbv P Q x) i:=by
 unfold pv;rw [zl za,List.append_nil]
theorem pv_2(P Q:Nat->Int)(i:Nat)(x:Int):pv P Q i 2 x=dl (hbv P Q x) (i+1):=by
 unfold pv;rw [dl];by_cases h:P i=x\/Q i=x
 ·rw [zk (show hbv P Q x i=R from zm h),zk (by rcases h with h | h;exact .inl ⟨za,h⟩;exact .inr ⟨za,h⟩)]
 ·rw [zl (show ¬ hbv P Q x i=R from fun g=>h (of_decide_eq_true g)),zl (by rintro(⟨_,g⟩ | ⟨_,g⟩);exact h (.inl g);exact h (.inr g)),List.append_nil]
theorem sG{P Q:Nat->Int}{i k:Nat}(hk:k<2){v:Int}(hv:v=if k=0 then P i else Q i)(h0:v ≠ 0)(hd:Q i=0\/Q i ≠ P i):pv P Q i (k+1) v=pv P Q i k v ++ [(i:Int)]:=by
 unfold pv;rcases (show k=0\/k=1 by omega) with rfl | rfl
 ·rw [zk rfl] at hv;rw [zk (.inl ⟨za,hv.symm⟩),zl za,List.append_nil]
 ·rw [zl za] at hv;rw [zk (.inr ⟨za,hv.symm⟩),zl (by rintro(⟨_,g⟩ | ⟨g,_⟩);(rcases hd with e | e;omega;omega);omega),List.append_nil]
theorem oj{P Q:Nat->Int}{i k:Nat}(hk:k<2){v x:Int}(hv:v=if k=0 then P i else Q i)(h0:x ≠ v):pv P Q i (k+1) x=pv P Q i k x:=by
 unfold pv;rcases (show k=0\/k=1 by omega) with rfl | rfl
 ·rw [zk rfl] at hv;rw [zl za,zl za]
 ·rw [zl za] at hv;by_cases e:P i=x
  ·rw [zk (.inl ⟨za,e⟩),zk (.inl ⟨za,e⟩)]
  ·rw [zl za,zl za]
theorem idh0(w:X)(x0 x1:U):(Instr.index 383 (.agg #[x0,x1]) (Y O 0)).run J w=.ok x0 w:=rfl
theorem idh1(w:X)(x0 x1:U):(Instr.index 383 (.agg #[x0,x1]) (Y O 1)).run J w=.ok x1 w:=rfl
theorem nZ{B:Nat}(w:X)(a:Option N)(n b8:Nat)(P Q:Nat->Int)(h:Hol B w a n b8 P Q)(hn:n<=16)(hP:∀ i,i<n->0<=P i/\P i<=1073741824)(hQ:∀ i,i<n->0<=Q i/\Q i<=1073741824)(hd:∀ i,i<n->Q i=0\/Q i ≠ P i):
  Calls J 332 #[.slice a n b8] w fun e w'=>∃(D:DataW Unit) (m:Nat),e=.returned (.map (I w.heap.size))/\w'.ownsGroups J 3 (w.heap.size+1) 3 .i64 w.heap.size m D/\m<=32/\GD D (dv P Q n)/\G w.heap.size w w':=by
 have xu:=@run_makeMap J;obtain⟨i0,hi,hz0,yb,yP⟩:=info_parts gy;have HH:=am h;have HP:=am hP;have HQ:=am hQ;have HD:=am hd;clear h hP hQ hd;go_enter Tryz.func332,Tryz.ntmps332
 go_wp2;go_loopw [11] (fun y wr=>∃(i m:Nat) (D:DataW Unit),i<=n/\y=.int .i64 (i:Int)/\S (wr.ownsGroups J 3 (w.heap.size+1) 3 .i64 w.heap.size m D)/\S (GD D (dv P Q i))/\m<=2*i/\S (G w.heap.size w wr)/\w.heap.size+1<=wr.heap.size) (fun y _=>n-(intOf y).toNat)
 case atStart=>exact⟨0,0,.map [],T _,rfl,World.ownsGroups_made _ _ _ _ _,Aj,W _,bal _ _,zi⟩
 case round =>
  obtain⟨i,m,D,GR,rfl,em,qN,hm,jB,qA⟩:=hrel;by_cases hlt:i<n
  ·obtain⟨g,rfl,_,_⟩:=HH.out.at_ za;have c0:wr.cell? ⟨g,i*2,L⟩=I (.int .i64 (P i)):=held (HH.out.c0 hlt) jB.out;have c1:wr.cell? ⟨g,i*2+1,L⟩=I (.int .i64 (Q i)):=held (HH.out.c1 hlt) jB.out;have i1:(0:Int)<=(i:Int):=za;have i2:(i:Int)<(n:Int):=za;obtain⟨wd,jN⟩:=fd (wr.alloc (.cells #[.int .i64 (P i),.int .i64 (Q i)] 383))
   have BD:S (G wr.heap.size wr wd):=by show G _ _ _;rw [jN];exact bal _ _
   go_wp2_with fail
   rw [<- jN];clear jN c0 c1;go_loopw [17] (fun y wr=>∃(k m:Nat) (D:DataW Unit),k<=2/\y=.int .i64 (k:Int)/\S (wr.ownsGroups J 3 (w.heap.size+1) 3 .i64 w.heap.size m D)/\S (GD D (pv P Q i k))/\m<=2*i+k/\S (G w.heap.size w wr)/\w.heap.size+1<=wr.heap.size) (fun y _=>2-(intOf y).toNat)
   case atStart =>
    refine⟨0,m,D,T _,rfl,mv em.out BD.out,?_,za,ap jB.out BD.out,Nat.le_trans qA BD.out.size⟩;exact qN.out.congr fun x _=>pv_0 P Q i x
   case round =>
    obtain⟨k,m2,D2,G3,rfl,jF,Il,yr,Im,Ko⟩:=hrel;by_cases hk:k<2
    ·obtain⟨v,hv⟩:=fd ((if k=0 then P i else Q i))
     have QL:∀ u,(Instr.index 383 (.agg #[.int .i64 (P i),.int .i64 (Q i)]) (.int .i64 (k:Int))).run J u=.ok (.int .i64 v) u:=fun u=>by
      rcases (show k=0\/k=1 by omega) with rfl | rfl
      ·rw [hv];exact idh0 u _ _
      ·rw [hv];exact idh1 u _ _
     have Fg:0<=v/\v<=1073741824:=by rw [hv];split;exact HP.out i hlt;exact HQ.out i hlt
     have HV:=am hv;have k1:(k:Int)<2:=za;clear hv;by_cases hv0:v=0
     ·have D6:(v != 0)=false:=by simp [hv0]
      go_wp2_with fail
      go_roundw
      case rel =>
       refine⟨k+1,m2,D2,za,by go_num,jF.out,?_,za,Im.out,Ko⟩;exact Il.out.congr fun x hx=>oj hk HV.out za
      case measure=>simp [intOf];omega
     ·have D6:(v != 0)=R:=by simpa using hv0
      have lm:=keyOf_int_mk Tryz.underlying3 (WalkArith.wf_i64 (n:=v) za);have em:=jF.out;go_wp2_with (first
       | (at_lookup;refine wpList_lookup_groups _ rfl _ _ 373 rfl 3 27 3 .i64 law3 Tryz.underlying373 (Ar _) (w.heap.size+1) w.heap.size m2 _ rfl em (by unfold maxLen;omega) _ _ rfl lm ?_;intro u zs jx FO YN Nn)
       | (at_builtin;refine wpList_append_own_at _ rfl _ _ 27 rfl (w.heap.size+1) 3 i0 (.int .i64 0) 1 8 Tryz.underlying27 hi hz0 yb yP rfl zb _ _ _ rfl (FO.1.alloc _) ⟨wr.heap.size,0,L⟩ 1 1 [.int .i64 i] rfl rfl (cell_one_new _ _ _) (ints_oneCell .i64 [(i:Int)]) (by unfold maxLen;omega) za zj ?_;intro v' w1 qd kw xE In)
       | (at_mapUpdate;refine wpList_mapUpdate_back _ rfl _ _ _ 373 rfl Nn rfl rfl rfl ((World.grownBy_alloc _ _ _).trans kw) (FO.appended qd (WalkArith.wf_i64 za)) zj (In.imp id (fun h=>⟨_,h,zi⟩)) ?_;intro w2 ka jH)
       | go_in)
      have J2:=Il.out.zs hv0 jx FO;have hall:=(World.grownBy_alloc wr _ _).trans kw;go_roundw
      case rel =>
       refine⟨k+1,m2+1,D2.put (.int .i64 v) (.slice (lits .i64 (zs ++ [(i:Int)])) []),za,by go_num,?_,?_,za,Im.out.groups FO hall jH Im.out.size (Nat.le_succ _) (W _),Nat.le_trans Ko (Nat.le_trans hall.size jH.size)⟩
       ·rw [<- (FO.appended qd (WalkArith.wf_i64 za)).datum_pos zi];exact ka
       rw [J2,<- sG hk HV.out hv0 (HD.out i hlt)];exact Il.out.put hv0 (by rw [sG hk HV.out hv0 (HD.out i hlt)];simp) (law3.key lm) (fun x _ hx=>oj hk HV.out hx)
      case measure=>simp [intOf];omega
    ·obtain rfl:k=2:=za;go_wp2_with fail
     go_roundw
     case rel =>
      refine⟨i+1,m2,D2,za,by go_num,jF.out,?_,za,Im.out,Ko⟩;exact Il.out.congr fun x _=>(pv_2 P Q i x).symm
     case measure=>simp [intOf];omega
  ·obtain rfl:i=n:=za;go_wp2_with fail
   go_ret;exact⟨D,m,rfl,em.out,za,qN.out,jB.out⟩
open Go.Shelf
def uQ:Go.Shelf.Ren:=⟨fun | 6=>344 | 15=>192 | 14=>353 | 28=>274 | 29=>275 | 20=>357 | 21=>358 | 22=>359 | 23=>360 | 24=>361 | 25=>362 | 26=>363 | 27=>364 | 46=>365 | 47=>312 | 48=>313 | 49=>366 | 50=>367 | 57=>368 | n=>n,fun | 22=>209 | 24=>212 | 25=>386 | 3=>3 | 39=>239 | 0=>0 | 53=>319 | 55=>321 | 4=>4 | 46=>313 | 45=>312 | 50=>257 | 5=>5 | 9=>9 | 66=>352 | 70=>356 | 76=>375 | 77=>140 | n=>n,fun | n=>n⟩
theorem Dj:Go.Proofs.SlLaysF0.n6 J uQ:={
 mixed:=zh
 f6:=⟨Tryz.f344.name,zb,Tryz.func344.trans (congrArg I zh)⟩
 f14:=⟨Tryz.f353.name,zb,Tryz.func353.trans (congrArg I zh)⟩
 f15:=Tryz.func192.trans (congrArg I zh)
 f20:=⟨Tryz.f357.name,zb,Tryz.func357.trans (congrArg I zh)⟩
 f21:=⟨Tryz.f358.name,zb,Tryz.func358.trans (congrArg I zh)⟩
 f22:=⟨Tryz.f359.name,zb,Tryz.func359.trans (congrArg I zh)⟩
 f23:=⟨Tryz.f360.name,zb,Tryz.func360.trans (congrArg I zh)⟩
 f24:=⟨Tryz.f361.name,zb,Tryz.func361.trans (congrArg I zh)⟩
 f25:=⟨Tryz.f362.name,zb,Tryz.func362.trans (congrArg I zh)⟩
 f26:=⟨Tryz.f363.name,zb,Tryz.func363.trans (congrArg I zh)⟩
 f27:=⟨Tryz.f364.name,zb,Tryz.func364.trans (congrArg I zh)⟩
 f28:=Tryz.func274.trans (congrArg I zh)
 f29:=Tryz.func275.trans (congrArg I zh)
 f46:=⟨Tryz.f365.name,zb,Tryz.func365.trans (congrArg I zh)⟩
 f47:=Tryz.func312.trans (congrArg I zh)
 f48:=Tryz.func313.trans (congrArg I zh)
 f49:=⟨Tryz.f366.name,zb,Tryz.func366.trans (congrArg I zh)⟩
 f50:=⟨Tryz.f367.name,zb,Tryz.func367.trans (congrArg I zh)⟩
 f57:=⟨Tryz.f368.name,zb,Tryz.func368.trans (congrArg I zh)⟩
 t0:=Tryz.underlying0
 a0:=Tryz.isAgg0
 z0:=Tryz.sizeOf0
 v0:=Tryz.zeroValue0
 t3:=Tryz.underlying3
 a3:=Tryz.isAgg3
 z3:=Tryz.sizeOf3
 v3:=Tryz.zeroValue3
 t4:=Tryz.underlying4
 a4:=Tryz.isAgg4
 z4:=Tryz.sizeOf4
 v4:=Tryz.zeroValue4
 t5:=Tryz.underlying5
 a5:=Tryz.isAgg5
 z5:=Tryz.sizeOf5
 v5:=Tryz.zeroValue5
 t9:=Tryz.underlying9
 a9:=Tryz.isAgg9
 z9:=Tryz.sizeOf9
 v9:=Tryz.zeroValue9
 t22:=Tryz.underlying209
 a22:=Tryz.isAgg209
 z22:=Tryz.sizeOf209
 v22:=Tryz.zeroValue209
 t25:=Tryz.underlying386
 a25:=Tryz.isAgg386
 z25:=Tryz.sizeOf386
 v25:=Tryz.zeroValue386
 t39:=Tryz.underlying239
 a39:=Tryz.isAgg239
 z39:=Tryz.sizeOf239
 v39:=Tryz.zeroValue239
 t45:=Tryz.underlying312
 a45:=Tryz.isAgg312
 z45:=Tryz.sizeOf312
 v45:=Tryz.zeroValue312
 t46:=Tryz.underlying313
 a46:=Tryz.isAgg313
 z46:=Tryz.sizeOf313
 v46:=Tryz.zeroValue313
 t50:=Tryz.underlying257
 a50:=Tryz.isAgg257
 z50:=Tryz.sizeOf257
 v50:=Tryz.zeroValue257
 t53:=Tryz.underlying319
 a53:=Tryz.isAgg319
 z53:=Tryz.sizeOf319
 v53:=Tryz.zeroValue319
 t55:=Tryz.underlying321
 a55:=Tryz.isAgg321
 z55:=Tryz.sizeOf321
 v55:=Tryz.zeroValue321
 t66:=Tryz.underlying352
 a66:=Tryz.isAgg352
 z66:=Tryz.sizeOf352
 v66:=Tryz.zeroValue352
 t70:=Tryz.underlying356
 a70:=Tryz.isAgg356
 z70:=Tryz.sizeOf356
 v70:=Tryz.zeroValue356
 t76:=Tryz.underlying375
 a76:=Tryz.isAgg375
 z76:=Tryz.sizeOf375
 v76:=Tryz.zeroValue375
 t77:=Tryz.underlying140
 a77:=Tryz.isAgg140
 z77:=Tryz.sizeOf140
 v77:=Tryz.zeroValue140  }
open Go.Sort
open Go.WideElems (Fit rg pl rd_val rd_key rg_of rd_mk)
abbrev Tly:=Int × Option N × Nat × Nat
def sv (c:Option N × Nat × Nat):U:=.slice c.1 c.2.1 c.2.2
def gJ (t:Tly):List U:=[.int .i64 t.1,.slice t.2.1 t.2.2.1 t.2.2.2]
def tF:List Tly->List U
  | []=>[]
  | t :: l=>.int .i64 t.1 :: .slice t.2.1 t.2.2.1 t.2.2.2 :: tF l
theorem fQ:∀ l:List Tly,(tF l).length=l.length*2
 | []=>rfl
 | t :: l=>by rw [tF];simp [fQ l];omega
theorem fY:∀ l m:List Tly,tF (l ++ m)=tF l ++ tF m
 | [],_=>rfl
 | t :: l,m=>by rw [List.cons_append,tF,tF,fY l m];rfl
theorem mO:∀(l:List Tly) (j:Nat),j<l.length*2->(tF l)[j]? = I ((gJ l[j / 2]!)[j % 2]!)
 | [],j,h=>absurd h zi
 | t :: l,0,_=>rfl
 | t :: l,1,_=>rfl
 | t :: l,j+2,h=>by
  have ih:=mO l j (by simp at h;omega);rw [tF,List.getElem?_cons_succ,List.getElem?_cons_succ,ih,show (j+2) / 2=j / 2+1 by omega,show (j+2) % 2=j % 2 by omega];simp
theorem tF_0{l:List Tly}{i:Nat}{t:Tly}(h:l[i]? = I t):(tF l)[i*2]? = I (Y O t.1):=by
 have hi:=(List.getElem?_eq_some_iff.1 h).1;rw [mO l _ za,show i*2 / 2=i by omega,show i*2 % 2=0 by omega,List.getElem!_of_getElem? h];rfl
theorem tF_1{l:List Tly}{i:Nat}{t:Tly}(h:l[i]? = I t):(tF l)[i*2+1]? = I (Z t.2.1 t.2.2.1 t.2.2.2):=by
 have hi:=(List.getElem?_eq_some_iff.1 h).1;rw [mO l _ za,show (i*2+1) / 2=i by omega,show (i*2+1) % 2=1 by omega,List.getElem!_of_getElem? h];rfl
theorem sU(d:Array Tly):(flatK gJ 2 d).toList=tF d.toList:=by
 apply List.ext_getElem?
 intro j;by_cases hj:j<d.size*2
 ·rw [mO _ _ (by simpa using hj)];have h1:=get_flatK gJ 2 d j hj;rw [Array.getElem?_toList,Array.getElem?_eq_getElem (by simpa using hj),<- getElem!_pos (flatK gJ 2 d) j (by simpa using hj),h1,show d.toList[j / 2]! = d[j / 2]! from by first | exact Array.getElem!_toList | exact Array.getElem!_toList.symm | simp]
 ·rw [List.getElem?_eq_none zj,List.getElem?_eq_none (by rw [fQ];simp;omega)]
theorem ru{B:Nat}{w:X}{g n b8:Nat}{ts:List Tly}(h:w.ownsRow B 212 2 (Z (I ⟨g,0,L⟩) n b8) n (tF ts))(hn:n=ts.length):HoldsK gJ 2 w g 0 ts.toArray:=by
 intro j hj;have Np:j<n*2:=by simp at hj;omega
 refine⟨?_,?_⟩
 ·rw [Nat.zero_add,World.ownsRow.cellAt h j Np,<- sU ts.toArray,Array.getElem?_toList,Array.getElem?_eq_getElem hj,<- getElem!_pos (flatK gJ 2 ts.toArray) j hj];rfl
 ·rw [Nat.zero_add];exact World.ownsRow.frozenAt h j
theorem re{B:Nat}{w:X}{g n b8 m:Nat}{ts:List Tly}{d:Array Tly}{os:Array Obj}(h:w.ownsRow B 212 2 (Z (I ⟨g,0,L⟩) n b8) n (tF ts))(hd:d.size=n):
  (sortWorldK gJ 2 w g 0 m d os).ownsRow B 212 2 (Z (I ⟨g,0,L⟩) n b8) n (tF d.toList)/\Only (fun b=>b=g) w (sortWorldK gJ 2 w g 0 m d os):=by
 have hlt:g<w.heap.size:=(World.ownsRow.lt h g rfl).2;constructor
 ·rcases h.2 with ⟨h',_⟩ | ⟨g',jy,jw,h',hb,hg,Um,N7,kY,Un⟩
  ·simp at h'
  ·simp only [Value.slice.injEq,Option.some.injEq,Addr.mk.injEq,and_true,true_and] at h';obtain⟨rfl,rfl⟩:=h';refine⟨by rw [fQ];simp [hd],.inr ⟨g,b8,putCells id 0 (flatK gJ 2 d) jw,rfl,hb,?_,Um,N7,by simp [putCells,kY],?_⟩⟩
   ·unfold sortWorldK grow putRowK putRow mapBlock;show (((Sort.ahead w m).heap.modify g _) ++ os)[g]? = _;rw [Array.getElem?_append_left (by simpa [Sort.ahead] using hlt),Array.getElem?_modify,zk rfl];show Option.map _ w.heap[g]? = _;rw [hg];rfl
   ·rw [<- sU];apply List.ext_getElem?
    intro j;have hs:(flatK gJ 2 d).size=n*2:=by simp [hd]
    by_cases hj:j<n*2
    ·have hjc:j<jw.size:=za;rw [List.getElem?_take_of_lt hj,Array.getElem?_toList,Array.getElem?_toList];simp only [putCells,Array.getElem?_mapIdx,Array.getElem?_eq_getElem hjc,Option.map_some,Nat.zero_add,hs];rw [zk ⟨T _,hj⟩,Array.getElem?_eq_getElem za,Nat.sub_zero,getElem!_pos _ _ za];rfl
    ·rw [List.getElem?_eq_none zj,List.getElem?_eq_none zj]
 ·refine⟨rfl,rfl,rfl,?_,fun b hb f9=>?_⟩
  ·unfold sortWorldK grow putRowK putRow mapBlock Sort.ahead;simp
  ·unfold sortWorldK grow putRowK putRow mapBlock;show (((Sort.ahead w m).heap.modify g _) ++ os)[b]? = _;rw [Array.getElem?_append_left (by simpa [Sort.ahead] using hb),Array.getElem?_modify,zl (fun e=>f9 e.symm)];rfl
def fL:U->Option (DataW U × List MemPlace)
  | .slice (I a) n c=>I (.held (.slice (I a) n c),[])
  | _=>L
theorem nF{v:U}{y:DataW U × List MemPlace}(h:fL v=I y):∃ c:Option N × Nat × Nat,v=sv c/\y=(.held v,[]):=by
 unfold fL at h;split at h
 ·cases h;exact⟨(_,_,_),rfl,rfl⟩
 ·cases h
theorem cU{w:X}{B:Nat}{v:U}{zs:List Int}(h:w.ownsInts B 3 O v zs)(hz:zs ≠ []):∃ g b8,v=Z (I ⟨g,0,L⟩) zs.length b8/\B<=g/\g<w.heap.size:=by
 rcases h.1.2 with ⟨_,h2⟩ | ⟨g,cp,jw,h2,h3,h4,_⟩
 ·exact absurd (List.length_eq_zero_iff.1 h2) hz
 ·exact⟨g,cp,h2,h3,(Array.getElem?_eq_some_iff.1 h4).1⟩
theorem pU{w:X}{base b m:Nat}{D:DataW Unit}{f:Int->List Int}(h:w.ownsGroups J 3 base 3 .i64 b m D)(hg:GD D f)(hf:∀ x,f x ≠ []->0<=x/\x<=1073741824):
  ∃(D':DataW U) (V:Int->Option N × Nat × Nat),w.ownsMap J 3 fL b m D'/\(∀ x:Int,Maps.has D' (.int .i64 x)=R->x ≠ 0/\f x ≠ []) /\
   (∀ x:Int,x ≠ 0->f x ≠ []->(∀ zd,D'.atKey (.int .i64 x) zd=.held (sv (V x)))/\w.ownsInts base 3 .i64 (sv (V x)) (f x)) /\
   (∀ x y:Int,x ≠ 0->y ≠ 0->f x ≠ []->f y ≠ []->x ≠ y->(sv (V x)).ownBlock ≠ (sv (V y)).ownBlock):=by
 obtain⟨es,qz,hb,F,hs,rfl,xv,yx,Fa⟩:=h;have key:∀ x ∈ es.toList,∃(v:Int),x.key=.int .i64 v/\(Lit.int .i64 v).wf=R/\v ≠ 0/\f v ≠ []/\w.ownsInts base 3 .i64 x.val (f v):=by
  intro x hx;obtain⟨y,hy⟩:=F.reads x hx;obtain⟨z,hz,he⟩:=rd_val hy;obtain⟨zs,ho,rfl⟩:=rowElem_inv hz;obtain⟨v,kD,G3,xL⟩:=Maps.keyOf_int_inv Tryz.underlying3 (rd_key hy);have jx:=(WideShapes.atKey_sorted (es.toList.map (rg J 3 (rowElem (H:=Unit) w base 3 .i64))) (fit_rising law3 F) (.int .i64 v) (law3.key (keyOf_int_mk Tryz.underlying3 xL))).2 (rg J 3 (rowElem w base 3 .i64) x) (List.mem_map.2 ⟨x,hx,rfl⟩) (by rw [rg_of hy];exact G3);rw [rg_of hy,he] at jx
  have hh:=hg.has v;rw [has_true_of_atKey jx] at hh;obtain⟨h0,h1⟩:=of_decide_eq_true hh.symm;refine⟨v,kD,xL,h0,h1,?_⟩;rw [<- hg.zs h0 (jx .nil) ho];exact ho
 have F2:Fit J 3 fL es qz:=⟨F.size,F.stamped,fun x hx=>by
  obtain⟨v,h1,h2,_,h4,h5⟩:=key x hx;obtain⟨g,b8,h6,_⟩:=cU h5 h4;refine⟨(.int .i64 v,.held x.val),?_⟩;unfold Go.WideElems.rd;rw [h1,keyOf_int_mk Tryz.underlying3 h2,h6];rfl⟩
 have Ri:∀ x ∈ es.toList,∀ v,x.key=.int .i64 v->∀ zd,(DataW.map ((es.toList.map (rg J 3 fL)).foldr DataW.insert [])).atKey (.int .i64 v) zd=.held x.val:=by
  intro x hx v hv;obtain⟨v',h1,h2,_,h4,h5⟩:=key x hx;rw [h1] at hv;obtain rfl:v'=v:=by cases hv;rfl
  obtain⟨g,b8,h6,_⟩:=cU h5 h4;have hr:Go.WideElems.rd J 3 fL x=I (.int .i64 v',.held x.val):=by
   unfold Go.WideElems.rd;rw [h1,keyOf_int_mk Tryz.underlying3 h2,h6];rfl
  have:=(WideShapes.atKey_sorted (es.toList.map (rg J 3 fL)) (fit_rising law3 F2) (.int .i64 v') (law3.key (keyOf_int_mk Tryz.underlying3 h2))).2 (rg J 3 fL x) (List.mem_map.2 ⟨x,hx,rfl⟩) (by rw [rg_of hr]);rw [rg_of hr] at this;exact this
 have Xq:∀ v:Int,v ≠ 0->f v ≠ []->∃ x ∈ es.toList,x.key=.int .i64 v:=by
  intro v h0 h1;have xL:(Lit.int .i64 v).wf=R:=WalkArith.wf_i64 (by have:=hf v h1;omega);rcases Maps.fit_look false law3 Tryz.underlying373 (Ar w) hb F (keyOf_int_mk Tryz.underlying3 xL) with ⟨_,_,jx⟩ | ⟨e0,y,yv,h3,_⟩
  ·have hh:=hg.has v;rw [has_false_of_atKey jx] at hh;exact absurd ⟨h0,h1⟩ (of_decide_eq_false hh.symm)
  ·exact⟨e0,yv,h3⟩
 have pick:∀ v:Int,∃ c:Option N × Nat × Nat,v ≠ 0->f v ≠ []->∃ x ∈ es.toList,x.key=.int .i64 v/\x.val=sv c:=by
  intro v;by_cases h0:v ≠ 0/\f v ≠ []
  ·obtain⟨x,hx,hk⟩:=Xq v h0.1 h0.2;obtain⟨v',h1,h2,_,h4,h5⟩:=key x hx;obtain⟨g,b8,h6,_⟩:=cU h5 h4;exact⟨(_,_,_),fun _ _=>⟨x,hx,hk,h6⟩⟩
  ·exact⟨(L,0,0),fun a b=>absurd ⟨a,b⟩ h0⟩
 obtain⟨V,hV⟩:=Classical.skolem.1 pick;refine⟨_,V,⟨es,qz,hb,F2,hs,rfl⟩,fun x hx=>?_,fun x h0 h1=>?_,fun x y x0 y0 x1 y1 f9=>?_⟩
 ·rw [Maps.has_eq,List.any_eq_true] at hx;obtain⟨p,hp,GX⟩:=hx;have I3:=(WideShapes.sorted_perm (es.toList.map (rg J 3 fL))).subset hp;obtain⟨e0,Kp,rfl⟩:=List.mem_map.1 I3;obtain⟨v',h1,h2,h3,h4,h5⟩:=key e0 Kp;obtain⟨g,b8,h6,_⟩:=cU h5 h4;have hr:Go.WideElems.rd J 3 fL e0=I (.int .i64 v',.held e0.val):=by
   unfold Go.WideElems.rd;rw [h1,keyOf_int_mk Tryz.underlying3 h2,h6];rfl
  rw [rg_of hr] at GX;by_cases e:v'=x
  ·rw [<- e];exact⟨h3,h4⟩
  ·rw [sameKey_ne (mX e)] at GX;cases GX
 ·obtain⟨e0,Kp,hk,yH⟩:=hV x h0 h1;obtain⟨v',Jc,h2,h3,h4,h5⟩:=key e0 Kp;rw [hk] at Jc;obtain rfl:x=v':=by cases Jc;rfl
  rw [<- yH];exact⟨Ri e0 Kp x hk,h5⟩
 ·obtain⟨e0,Kp,hk,yH⟩:=hV x x0 x1;obtain⟨e1,OZ,kD,Nq⟩:=hV y y0 y1;obtain⟨v',Jc,_,_,h4,h5⟩:=key e0 Kp;obtain⟨g,b8,h6,_⟩:=cU h5 h4;rw [<- yH,<- Nq];rcases Fa e0 Kp e1 OZ (by rw [hk,kD];intro e;cases e;exact f9 rfl) with h | h
  ·rw [h6] at h;cases h
  ·exact h
theorem vV{w:X}{b m:Nat}{D:DataW U}(h:w.ownsMap J 3 fL b m D):Maps.size D<=m:=by
 obtain⟨es,qz,_,_,hs,rfl⟩:=h;rw [Maps.size_eq,length_sorted]
 simpa using hs
end Go.Proofs.YtemlojjkokooeaaGreat.Cn
