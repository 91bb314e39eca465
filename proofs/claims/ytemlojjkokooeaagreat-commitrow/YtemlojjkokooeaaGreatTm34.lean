import Derived.Test.YtemlojjkokooeaaGreatTm33
open Go.Value renaming int->J,slice->I,agg->jh,pointer->jk
open Go.IntKind renaming i64->O,u8->ji
open Option renaming none->X,some->S
open Go.RowKit renaming Below->P,Hid->f
open Go.Proofs.Tryz renaming prog->ja
open Go.Operand renaming tmp->jb
open Go.Ending renaming returned->jc
open Go.Ground renaming phase->jd,data->jf
open Go.RowKit.Below renaming refl->je
open Go renaming Calls->jg,World->jl
open Go.Obj renaming cells->jj
open Int renaming toNat_natCast->jm
set_option maxHeartbeats 16000000
set_option maxRecDepth 100000
namespace Go.Proofs.YtemlojjkokooeaaGreat
open Go.RowKit
theorem preg(w1:jl)(k r c q zC:Int)(kd:UInt8)(N g0 lb lf n cl i m:Nat)(hi:(0:Int)<=(i:Int))(hi2:(i:Int)<(n:Int))(a0:Option Addr)(c0:Nat)(x0 x1 x2 x4 x6 x8 x9 kq ya qG qO xr qn qp qr qI qt qk qu ql o8 m8 lw l5 kO qP yj Fc EE EG B7 B8 zS zT zU zB B9 yS yG xU xI Hh Hi Hj Hk:Value)
  (HS:f (∀ v,b7 w1 v->(v.cell? ⟨g0,0,X⟩=S (J O k)/\v.cell? ⟨g0,1,X⟩=S (J O r)/\v.cell? ⟨g0,2,X⟩=S (J O c)/\v.cell? ⟨g0,3,X⟩=S (J O q)/\v.cell? ⟨lb,lf+i,X⟩=S (I a0 m c0))))
  (kp:f (∀ v,b7 w1 v->jg ja 153 #[Pz k r c q,J O zC] v fun e w'=>∃ vo vc,e=jc (I vo N vc)/\Own v.heap.size w' vo N vc (fun _=>zC)/\b7 v w'))
  (Q:Exit->Act->jl->Prop) (HQ:f (∀ v g vo vc,b7 w1 v->At w1 v g #[J ji ((kd.toNat:Nat):Int),J O (i:Int),J O zC,J O zC,I vo N vc,I a0 m c0] 107->Own w1.heap.size v vo N vc (fun _=>zC)->Q .normal ⟨#[x0,x1,x2,J ji ((kd.toNat:Nat):Int),x4,J O zC,x6,jk (S ⟨g0,0,X⟩),x8,x9,kq,ya,qG,qO,xr,I (S ⟨lb,lf,X⟩) n cl,qn,J O (i:Int),jk (S ⟨g,0,X⟩),qr,qI,qt,qk,qu,ql,o8,m8,lw,J ji ((kd.toNat:Nat):Int),J O (i:Int),J O zC,J O zC,Pz k r c q,J O zC,I vo N vc,I (S ⟨lb,lf,X⟩) n cl,J O (i:Int),jk (S ⟨lb,lf+i,X⟩),I a0 m c0,jh #[J ji ((kd.toNat:Nat):Int),J O (i:Int),J O zC,J O zC,I vo N vc,I a0 m c0],zB,B9,yS,yG,xU,xI,Hh,Hi,Hj,Hk],[]⟩ v)) :
  Code.wp ja (Code.region 6 #[⟨S 28,.move (jb 3),5,"ref.go:181",#[],X⟩,⟨S 29,.move (jb 17),3,"ref.go:181",#[],X⟩,⟨S 30,.move (jb 5),3,"ref.go:181",#[],X⟩,⟨S 31,.move (jb 5),3,"ref.go:181",#[],X⟩,⟨S 32,.load 23 (jb 7),23,"ref.go:181",#[],X⟩,⟨S 33,.move (jb 5),3,"ref.go:181",#[],X⟩,⟨S 34,.call { callee:=.value (.func 153),args:=#[jb 32,jb 33],argTypes:=#[23,3]},27,"ref.go:181",#[⟨4,jf⟩,⟨5,jf⟩],X⟩,⟨S 35,.move (jb 15),33,"ref.go:181",#[],X⟩,⟨S 36,.move (jb 17),3,"ref.go:181",#[],X⟩,⟨S 37,.indexAddr 33 (jb 35) (jb 36),0,"ref.go:181",#[⟨7,jf⟩,⟨8,jf⟩],X⟩,⟨S 38,.load 36 (jb 37),36,"ref.go:181",#[⟨9,jf⟩],X⟩,⟨S 39,.build 107 #[(0,jb 28),(1,jb 29),(2,jb 30),(3,jb 31),(4,jb 34),(5,jb 38)],107,"ref.go:181",#[⟨0,jf⟩,⟨1,jf⟩,⟨2,jf⟩,⟨3,jf⟩,⟨6,jf⟩,⟨10,jf⟩],X⟩,⟨S 18,.alloc 107,0,"ref.go:181",#[],X⟩,⟨X,.store 107 (jb 18) (jb 39),0,"ref.go:181",#[⟨12,jf⟩,⟨11,jf⟩,⟨6,.chain⟩,⟨0,jd⟩,⟨1,jd⟩,⟨2,jd⟩,⟨3,jd⟩,⟨4,jd⟩,⟨5,jd⟩,⟨6,jd⟩,⟨7,jd⟩,⟨8,jd⟩,⟨9,jd⟩,⟨10,jd⟩,⟨11,jd⟩,⟨12,jd⟩],X⟩] true) Q ⟨#[x0,x1,x2,J ji ((kd.toNat:Nat):Int),x4,J O zC,x6,jk (S ⟨g0,0,X⟩),x8,x9,kq,ya,qG,qO,xr,I (S ⟨lb,lf,X⟩) n cl,qn,J O (i:Int),qp,qr,qI,qt,qk,qu,ql,o8,m8,lw,l5,kO,qP,yj,Fc,EE,EG,B7,B8,zS,zT,zU,zB,B9,yS,yG,xU,xI,Hh,Hi,Hj,Hk],[]⟩ w1:=by
 obtain⟨s0,s1,s2,s3,s4⟩:=HS.out w1 (je _ _);have hd0:b7 w1 w1.drew:=bdw _ _;have zV:∀ o,b7 w1 (w1.alloc o).drew:=fun o=>eY (aa (je _ _) o);go_region_held3 (fun v=>v.cell? ⟨g0,0,X⟩=S (J O k)/\v.cell? ⟨g0,1,X⟩=S (J O r)/\v.cell? ⟨g0,2,X⟩=S (J O c)/\v.cell? ⟨g0,3,X⟩=S (J O q)/\v.cell? ⟨lb,lf+i,X⟩=S (I a0 m c0)) ((refine HS.out _ ?_;first | with_reducible exact hd0 | with_reducible exact zV _ | with_reducible exact j8 | with_reducible exact aa j8 _ | with_reducible exact aC j8 hgg _ _ _ _ _ _ | with_reducible exact aC (aa j8 _) j8.size _ _ _ _ _ _)) ((first
  | (go_at_call 153;refine(kp.out _ (zV _)).mono ?_;rintro e w' ⟨vo,vc,rfl,hv,g8⟩;have j8:=ap (zV _) g8;have jx:At w1 w' w1.heap.size #[J ji 0,J O 0,J O 0,J O 0,I X 0 0,I X 0 0] 107:=(an (a:=w1) (je _ _) _ 107).drew.below g8;have hgg:=jx.1;have c0:=jx.cz 0;have c1:=jx.cz 1;have c2:=jx.cz 2;have c3:=jx.cz 3;have c4:=jx.cz 4;have c5:=jx.cz 5;have cf:=jx.free;clear g8)
  | (go_at_call 153;refine(kp.out _ hd0).mono ?_;rintro e w' ⟨vo,vc,rfl,hv,g8⟩;have j8:=ap hd0 g8;clear g8)))
 ·refine HQ.out _ _ vo vc ?_ ?_ ?_
  ·exact aa j8 _
  ·exact an j8 _ _
  ·exact Own.below hv (bal _ _)
 ·refine HQ.out _ _ vo vc ?_ ?_ ?_
  ·exact aC j8 hgg _ _ _ _ _ _
  ·exact ik jx _ _ _ _ _ _
  ·refine Own.mono (B:=(w1.alloc (jj #[J ji 0,J O 0,J O 0,J O 0,I X 0 0,I X 0 0] 107)).heap.size) (Own.stay hv fun x hx hl=>?_) zi;exact(eA w' w1.heap.size _ _ _ _ _ _).block x hl (fun e=>by have h9:(w1.alloc _).heap.size<=x:=hx;simp at h9;omega)
theorem dh{w w':jl}{B B' e s n b8 k ca:Nat}{ao lo:Option Addr}{xs ys:List Value}(h:w.ownsRow B e s (I ao n b8) n xs)(hk:w.ownsRow B' 56 4 (I lo k ca) k ys)(he:e ≠ 56)(hg:w.grownBy w' (Value.slice lo k ca).ownBlock):w'.ownsRow B e s (I ao n b8) n xs :=
 bQ h fun a ha=>by
  obtain⟨_,hl,jw,hc⟩:=aX h ha;refine hg.block _ hl fun e1=>?_;cases lo with
  | none=>cases e1
  | some l =>
   obtain⟨_,_,Gz,hc'⟩:=aX hk rfl;have e2:a.block=l.block:=by simpa [Value.ownBlock] using e1
   rw [e2,hc'] at hc;cases hc
   exact he rfl
def sK (w:jl) (N m:Nat) (os:Nat->Nat) (nu:Int) (n:Nat) (G:Nat->Nat->UInt8) (e:Ending) (w':jl):Prop :=
  ∃ ao b8 T U,e=.returned (.slice ao N b8)/\PL w.heap.size w' ao N b8 N (fun _=>m) os nu n T U G/\b7 w w'
theorem uD{k r c q:Int}{N W:Nat}(h:Par k r c q N W 0)(w:jl)(ro:Option Addr)(rc:Nat)(A:Nat->Option Addr)(L C:Nat->Nat)(F:Nat->Nat->UInt8)(hr:Rw w ro N A L C F)(hL:∀ j,j<2*N->L j=0\/L j=sz N c)(nu:Int)(kd:UInt8)(hk:kd=1\/kd=2)(ke v:Int)(hv:1<=v/\v<=1073741824)(GP:ke<=0->(tS (yy N c L F) kd ke (2*N)).vn=0)(Mz:Option Addr)(dc:Nat)(D:Nat->UInt8)(hD:Bec w Mz W dc D):
    jg ja 86 #[Pz k r c q,I ro N rc,J O nu,J ji ((kd.toNat:Nat):Int),J O ke,J O v,I Mz W dc] w (sK w N c.toNat (osl N c L F kd ke) nu (sz N c) (fun i=>enc (slC kd N (fun _=>v) c.toNat (dH k.toNat c.toNat D i) i))):=by
  have qe:=h.le
  obtain⟨c1,c2⟩:=h.cell rfl
  obtain⟨k1,k2,r1,r2,MA,hN,OA⟩:1<=k/\k<=12/\0<=r/\r<=4/\(W:Int)=k*c/\(N:Int)=k+r/\32<=W:=by
    rcases h with ⟨hm,hW,hN,_⟩ | ⟨_,_,_,h0⟩
    · obtain⟨h1,h2,h3,h4,h5,h6,h7,h8,h9⟩:=aB hm;exact⟨h1,h2,h3,h4,hW,hN,za⟩
    · exact absurd h0 zb
  obtain⟨K,rfl⟩:=Int.eq_ofNat_of_zero_le (show 0<=k by omega)
  obtain⟨R,rfl⟩:=Int.eq_ofNat_of_zero_le r1
  obtain⟨m,rfl⟩:=Int.eq_ofNat_of_zero_le (show 0<=c by omega)
  simp only [jm]
  have xG:W=K*m:=by rw [<- Int.natCast_mul] at MA;omega
  have MC:N=K+R:=za;obtain⟨b,off,rfl,Qk⟩:=hD.rd (show 0<W by omega)
  have hst:mx (fun _=>v) N=v:=nL hv.1 za
  have Ts:f (∀ u,b7 w u->jg ja 152 #[jh #[J O (K:Int),J O (R:Int),J O (m:Int),J O q],I (S ⟨b,off,X⟩) W dc] u fun e w'=>∃ ao b8 T U,e=jc (I ao N b8)/\RdC w' ao N T (fun _=>m) U/\(∀ i,i<N->Bec w' (T i) m (U i) (dH K m D i))/\b7 u w'):=fun u hu=>by
    have:=sb (R:=R) q u b off W dc D (hD.below hu) za za za za za xG za
    rw [<- MC] at this
    exact this
  have MB:f (∀ u,jg ja 153 #[jh #[J O (K:Int),J O (R:Int),J O (m:Int),J O q],J O v] u fun e w'=>∃ vo vc,e=jc (I vo N vc)/\Own u.heap.size w' vo N vc (fun _=>v)/\b7 u w'):=fun u=>vX h u v
  obtain⟨n,hn⟩:=fd (sz N (m:Int))
  obtain⟨os,C5⟩:=fd (osl N (m:Int) L F kd ke)
  obtain⟨G,hG⟩:=fd (fun i=>enc (slC kd N (fun _=>v) m (dH K m D i) i))
  have zW:f (∀ d,d<N->∀ u,b7 w u->∀ vo vc bo cb,Vec u vo N vc (fun _=>v)->Bec u bo m cb (dH K m D d)->jg ja 154 #[jh #[J O (K:Int),J O (R:Int),J O (m:Int),J O q],I ro N rc,J O nu,J O ke,jh #[J ji ((kd.toNat:Nat):Int),J O (d:Int),J O v,J O v,I vo N vc,I bo m cb]] u fun e w'=>∃ uo uc,e=jc (jh #[J O (d:Int),J O nu,J O ((os d:Nat):Int),I uo n uc])/\OwU u.heap.size w' uo n uc (G d)/\b7 u w'):=fun d hd u hu vo vc bo cb h1 h2=>by
    have hok:okS N (m:Int) (slC kd N (fun _=>v) m (dH K m D d) d)=true:=by
      have:=(rm (c:=(m:Int)) (G:=dH K m D d) hk (fun j (_:j<N)=>hv) hd za).ok
      rw [jm] at this
      exact this
    have:=ot h u ro rc A L C F (hr.below hu) hL nu ke (slC kd N (fun _=>v) m (dH K m D d) d) vo vc bo cb ⟨h1,h2⟩ hok d hd rfl _ rfl GP
    rw [show (slC kd N (fun _=>v) m (dH K m D d) d).st=v from hst] at this
    rw [hn,C5,hG]
    exact this
  have hn0:n<=1000:=by rw [hn];unfold sz;omega
  rw [<- hn,<- C5,<- hG]
  have yv:m ≠ 0:=za;obtain⟨j0,hj,kE,kB,kt⟩:=info_parts pJ
  obtain⟨w0,bi⟩:=fd (w.alloc (jj #[J O (K:Int),J O (R:Int),J O (m:Int),J O q] 23))
  have B0:f (b7 w w0):=by show P _ _ _;rw [bi];exact bal _ _
  have L0:=am fun v (hv:b7 w0 v)=>(ah (je _ _) bi).below hv
  have yt:=am yv
  clear h hr hL hk hv GP hD Qk hst hn C5 hG xG MC hN MA yv k1 k2 r1 r2 OA
  unfold sK
  go_enter Tryz.func86,Tryz.ntmps86
  go_wp2_with fail
  rw [<- bi]
  clear bi
  refine(Ts.out _ B0.out).mono ?_
  rintro e wc ⟨lo,cl,Tc,Uc,rfl,hl,hb,qJ⟩
  have Hc:=am hl
  have A7:=am hb
  have n8:=am qJ
  clear hl hb qJ Ts
  go_wp2_with fail
  go_loopw [16,17] (fun y x wr=>∃ i:Nat,i<=N/\x=J O (i:Int)/\(∃ ao cp,y=I ao i cp/\f (∃ T U,wr.ownsRow wc.heap.size 56 4 (I ao i cp) i (ptl (fun _=>m) os nu n T U i)/\∀ l,l<i->OwU wc.heap.size wr (T l) n (U l) (G l)))/\f (b7 wc wr)) (fun _ x _=>N-(intOf x).toNat)
  case atStart=>exact⟨0,Nat.zero_le _,rfl,⟨X,0,rfl,fun _=>X,fun _=>0,World.ownsRow_nil _ _ _ _,fun l hl=>absurd hl (Nat.not_lt_zero l)⟩,je _ _⟩
  case round =>
    obtain⟨i,hi,rfl,⟨ao,cp,rfl,kY⟩,d8⟩:=hrel
    by_cases hlt:i<N
    · obtain⟨lb,lf,rfl,jI⟩:=Hc.out za
      have i1:(0:Int)<=(i:Int):=za;have i2:(i:Int)<(N:Int):=za;have OJ:f (∀ u,b7 wr u->(u.cell? ⟨w.heap.size,0,X⟩=S (J O (K:Int))/\u.cell? ⟨w.heap.size,1,X⟩=S (J O (R:Int))/\u.cell? ⟨w.heap.size,2,X⟩=S (J O (m:Int))/\u.cell? ⟨w.heap.size,3,X⟩=S (J O q))/\u.cell? ⟨lb,lf+i,X⟩=S (I (Tc i) m (Uc i))):=fun u hu=>by
        have p:=L0.out u (ap n8.out (ap d8.out hu))
        exact⟨⟨p.cz 0,p.cz 1,p.cz 2,p.cz 3⟩,held (jI i hlt) (ap d8.out hu)⟩
      have JW:f (∀ u,b7 wr u->(u.cell? ⟨w.heap.size,0,X⟩=S (J O (K:Int))/\u.cell? ⟨w.heap.size,1,X⟩=S (J O (R:Int))/\u.cell? ⟨w.heap.size,2,X⟩=S (J O (m:Int))/\u.cell? ⟨w.heap.size,3,X⟩=S (J O q)/\u.cell? ⟨lb,lf+i,X⟩=S (I (Tc i) m (Uc i)))):=fun u hu=>by
        obtain⟨⟨a0,a1,a2,a3⟩,a4⟩:=OJ.out u hu
        exact⟨a0,a1,a2,a3,a4⟩
      have Tu:=fun u (_:b7 wr u)=>MB.out u
      have Jd:=zW.out i hlt
      have K4:=am (A7.out i hlt)
      clear jI
      go_wp2_with fail
      refine preg wr (K:Int) (R:Int) (m:Int) q v kd N w.heap.size lb lf N cl i m i1 i2 (Tc i) (Uc i) _ _ _ _ _ _ _ _ _ _ _ _ _ _ _ _ _ _ _ _ _ _ _ _ _ _ _ _ _ _ _ _ _ _ _ _ _ _ _ _ _ _ _ _ _ JW Tu _ (fun v' g vo vc ku jx em=>?_)
      have d0:=jx.cz 0
      have d1:=jx.cz 1
      have d2:=jx.cz 2
      have d3:=jx.cz 3
      have d4:=jx.cz 4
      have d5:=jx.cz 5
      obtain⟨⟨a0,a1,a2,a3⟩,_⟩:=OJ.out v' ku
      have MZ:=Jd v' (ap B0.out (ap n8.out (ap d8.out ku))) vo vc (Tc i) (Uc i) em.vec (K4.out.below (ap d8.out ku))
      have m9:=am ku
      clear jx em ku Tu Jd
      go_wp2_with fail
      refine MZ.mono ?_
      clear MZ d0 d1 d2 d3 d4 d5 a0 a1 a2 a3
      rintro e w6 ⟨uo,uc,rfl,zY,h6⟩
      have Ka:=am (ap m9.out h6)
      have J1:=am (ap d8.out Ka.out)
      have MG:f (wc.heap.size<=v'.heap.size):=(ap d8.out m9.out).size
      have zR:=am zY
      obtain⟨T,U,ho,jA⟩:=kY.out
      have QM:=am fun l (hl:l<i)=>(jA l hl).below Ka.out
      obtain⟨xs,xV⟩:=fd (ptl (fun _=>m) os nu n T U i)
      have kR:f (∀ o,(w6.alloc o).ownsRow wc.heap.size 56 4 (I ao i cp) i xs):=fun o=>by rw [xV];exact ar (ar ho Ka.out) (bal _ _)
      have HX:f (xs ++ [J O (i:Int),J O nu,J O ((os i:Nat):Int),I uo n uc]=ptl (fun _=>m) os nu n (Cod.put i uo T) (Cod.put i uc U) (i+1)):=by
        show _=_
        rw [ptl,zl yt.out,Cod.put_at,Cod.put_at,xV]
        congr 1
        exact eK fun l hl=>by rw [Cod.put_ne _ _ za,Cod.put_ne _ _ za];exact⟨rfl,rfl⟩
      have W3:=J1.out.size
      clear zY h6 ho jA xV
      go_wp2_with (at_builtin;refine wpList_append_lies _ zg (jb 40) (jb 47) 43 zg wc.heap.size 56 j0 (jh #[J O 0, J O 0, J O 0, I X 0 0]) 4 48 Tryz.underlying43 hj kE kB kt zg zb (I ao i cp) i xs zg (kR.out _) ⟨w6.heap.size, 0, X⟩ 1 1 [J O (i : Int), J O nu, J O ((os i : Nat) : Int), I uo n uc] zg zg (World.news_of_block (heap_alloc_new w6 _)) (by simp [Value.oneCell']) zb (by unfold maxLen;omega) za zj (w6.heap.size + 1) zi ?_;intro g5 ky w5 jG i7 _ _
                   have yR:f (w5.ownsRow wc.heap.size 56 4 (I (S ⟨g5,0,X⟩) (i+1) ky) (i+1) (ptl (fun _=>m) os nu n (Cod.put i uo T) (Cod.put i uc U) (i+1))):=by rw [<- HX.out];exact jG
                   have yT:f (b7 wc w5):=(ap J1.out (bal _ _)).grown i7 zj (fun r hr=>((kR.out (jj #[] 3)).lt r hr).1)
                   have MH:f (∀ l,l<i+1->OwU wc.heap.size w5 (Cod.put i uo T l) n (Cod.put i uc U l) (G l)):=fun l hl=>by
                     by_cases e:l=i
                     · rw [e,Cod.put_at,Cod.put_at]
                       exact dh (OwU.below (zR.out.mono MG.out) (bal _ _)) (kR.out _) zb i7
                     · rw [Cod.put_ne _ _ e,Cod.put_ne _ _ e]
                       exact dh (OwU.below (QM.out l za) (bal _ _)) (kR.out _) zb i7
                   clear jG i7)
      go_roundw
      case rel=>exact⟨i+1,za,by go_num,⟨_,ky,rfl,Cod.put i uo T,Cod.put i uc U,yR.out,MH.out⟩,yT.out⟩
      case measure=>simp [intOf];omega
    · obtain rfl:i=N:=za
      obtain⟨T,U,ho,jA⟩:=kY.out
      have zI:=am (ap B0.out (ap n8.out d8.out))
      have M0:f (w.heap.size<=wc.heap.size):=(ap B0.out n8.out).size
      have GK:f (PL w.heap.size wr ao i cp i (fun _=>m) os nu n T U G):=⟨dz ho M0.out,fun l hl _=>(jA l hl).mono M0.out⟩
      clear ho jA kY d8
      go_wp2_with fail
      go_ret
      first
        | exact⟨ao,cp,T,U,rfl,GK.out,zI.out⟩
        | exact⟨ao,cp,⟨T,U,rfl,GK.out⟩,zI.out⟩
        | exact⟨ao,cp,rfl,⟨T,U,GK.out⟩,zI.out⟩
def mis (z:Nat->Sl) (m i:Nat):Nat:=if (z i).ce=0 then m else 0
theorem Ei{z:Nat->Sl}{m N i:Nat}(hi:i<N):mL z (fun _=>m) N i=mis z m i:=by
 unfold mL mis;by_cases e:(z i).ce=0
 ·rw [zl (fun a=>a.2 e),zk e]
 ·rw [zk ⟨hi,e⟩,zl e]
theorem DZ{L:Nat->Nat}{n:Nat}(h:0<Cod.cnt L n):∃ i,i<n/\L i ≠ 0:=⟨Cod.sel L n 0,(Cod.sel_is L n).lt 0 h,(Cod.sel_is L n).there 0 h⟩
theorem wV{k r c q:Int}{N W:Nat}{x:Int}(h:Par k r c q N W x)(w:jl)(ro:Option Addr)(rn rc:Nat)(A:Nat->Option Addr)(L C:Nat->Nat)(F:Nat->Nat->UInt8)(hr:Rw w ro rn A L C F)(nu:Int)(kd:UInt8)(ke v:Int)(E:Int)(hE:dW (erW (erK x N c rn L kd v) q nu ke) (erL k.toNat (zv N c L F kd v) N)=E):
  jg ja 24 #[Pz k r c q,I ro rn rc,J O nu,J ji ((kd.toNat:Nat):Int),J O ke,J O v] w (bS w E (Cod.cnt (mis (zv N c L F kd v) c.toNat) N) N (mis (zv N c L F kd v) c.toNat) (osl N c L F kd ke) nu (sz N c) (fun i=>enc (slC kd N (tS (yy N c L F) kd v (2*N)).V c.toNat (cH k.toNat (zv N c L F kd v) N i) i))):=by
 obtain⟨E1,zt⟩:=km (erW (erK x N c rn L kd v) q nu ke)
 rw [zt] at hE;have HA:=am fun u (hu:b7 w u)=>gC h u ro rn rc A L C F (hr.below hu) nu kd ke v E1 zt;obtain⟨w0,bi⟩:=jM w k r c q
 have B0:f (b7 w w0):=by show P _ _ _;rw [bi];exact bal _ _
 unfold dW at hE;unfold bS;by_cases he:E1=0
 ·subst he;rw [zk rfl] at hE HA;obtain⟨hK,_,hke⟩:=oB zt;obtain⟨hR,hk,JY⟩:=ec hK;obtain⟨rfl,rfl,hL⟩:=bW hR;have qe:=h.le;obtain⟨c1,c2⟩:=h.cell rfl;have kD:1<=k:=by
   rcases h with ⟨hm,_⟩ | ⟨_,_,_,h0⟩
   ·exact(aB hm).1
   ·exact absurd h0 zb
  obtain⟨z,hz⟩:=fd (zv rn c L F kd v)
  obtain⟨t,ht⟩:=fd (tS (yy rn c L F) kd v (2*rn))
  have GQ:f (∀ u,b7 w u->jg ja 74 #[stv k r c q ro rn rc kd,J O v] u (cV u E rn c.toNat (cH k.toNat z rn))):=fun u hu=>by rw [<- hE,hz];exact lR h u ro rc A L C F (hr.below hu) hL kd hk v
  have FU:=am fun u (hu:b7 w u)=>gY h u ro rc A L C F (hr.below hu) hL kd hk v t ht.symm;by_cases he2:E=0
  ·subst he2;rw [<- hz] at hE;obtain⟨Jb,yn⟩:t.vn=rn/\∀ j,j<rn->1<=t.V j/\t.V j<=1073741824:=by
    have hc:0<Cod.cnt (Lz z) rn:=by
     unfold erL at hE;by_cases g:k.toNat<=Cod.cnt (Lz z) rn
     ·omega
     ·rw [zl g] at hE;exact absurd hE zb
    obtain⟨i,hi,f9⟩:=DZ hc;rcases dB (v:=v) hk (cL rn c L F) (2*rn) (Nat.le_refl _) with ⟨a,_⟩ | ⟨j,_,a2,_,a4,_⟩
    ·exfalso
     apply f9
     unfold Lz;rw [hz];unfold zv zz;rw [a,zk (show zSl.ce=0 from rfl)];rfl
    ·rw [<- ht] at a2;rw [a2];exact⟨(bD a4.1).vn,(bD a4.1).V⟩
   have Ie:f (∀ wf gc gl b8 T U Y,b7 w wf->Mnl w gc gl rn b8 z T (fun _=>c.toNat) U 0 wf Y->jg ja 71 #[stv k r c q ro rn rc kd,J O v,.func (.func 87) #[] #[jk (S ⟨gc,0,X⟩)]] wf fun e w'=>e=jc (.tuple #[])/\∃ Y',Mnl w gc gl rn b8 z T (fun _=>c.toNat) U rn w' Y'/\Only Y wf w'/\∀ g,Y' g->Y g\/wf.heap.size<=g):=fun wf gc gl b8 T U Y hb hc=>by
    rw [hz] at hc ⊢;refine iD h w wf hb ro rc A L C F hr hL kd hk v _ rfl 87 _ (Mnl w gc gl rn b8 (zv rn c L F kd v) T (fun _=>c.toNat) U) ⟨fun _ _=>rfl,fun d a b Y hI hb=>⟨hI.1.below hb,ar hI.2.1 hb,hI.2.2⟩,fun d a Y hI g hg=>?_,fun d hd u Y B hI _ _ ao ca bo cb _=>?_⟩ _ hc;rotate_left
    ·exact ua w u gc gl rn b8 d hd (zv rn c L F kd v) T (fun _=>c.toNat) U Y _ _ ao ca bo cb hI
    obtain rfl:=(hI.2.2 g).1 hg;exact⟨(aX hI.2.1 (a:=⟨g,0,X⟩) rfl).1,(aX hI.2.1 (a:=⟨g,0,X⟩) rfl).2.1⟩
   have zW:f (∀ u,b7 w u->∀ vo vc lo cc Tc Uc,Vec u vo rn vc t.V->RdC u lo rn Tc (mis z c.toNat) Uc->(∀ i,i<rn->Bec u (Tc i) (mis z c.toNat i) (Uc i) (cH k.toNat z rn i))->jg ja 83 #[stv k r c q ro rn rc kd,J O nu,J O ke,I vo rn vc,I lo rn cc] u fun e w'=>∃ ao b8 T U,e=jc (I ao (Cod.cnt (mis z c.toNat) rn) b8)/\PL u.heap.size w' ao (Cod.cnt (mis z c.toNat) rn) b8 rn (mis z c.toNat) (osl rn c L F kd ke) nu (sz rn c) T U (fun i=>enc (slC kd rn t.V c.toNat (cH k.toNat z rn i) i))/\b7 u w'):=fun u hu vo vc lo cc Tc Uc hv hl hb=>nV h u ro rc A L C F (hr.below hu) hL kd hk nu ke vo vc t.V hv yn lo cc Tc (mis z c.toNat) Uc (cH k.toNat z rn) hl hb (fun i _=>by
     unfold mis;by_cases e:(z i).ce=0
     ·rw [zk e];exact .inr rfl
     ·rw [zl e];exact .inl rfl)
   rw [<- hz,<- ht];obtain⟨m,hm⟩:=fd (c.toNat)
   rw [<- hm] at GQ Ie zW ⊢;obtain⟨H,hH⟩:=fd (cH k.toNat z rn)
   rw [<- hH] at GQ zW ⊢;have I4:0<rn:=by
    rcases h with ⟨xu,_,hN,_⟩ | ⟨_,_,_,h0⟩
    ·obtain⟨h1,h2,h3,h4,h5,h6,h7,h8,h9⟩:=aB xu;omega
    ·exact absurd h0 zb
   have Tv:=am Jb;generalize osl rn c L F kd ke=os at *
   generalize sz rn c=Z at *
   clear h hr hE zt hK hke hR hL hk JY hz ht hm hH Jb yn;unfold stv at HA GQ FU Ie zW;unfold cV at GQ;unfold Au at FU;rw [Tv.out] at FU;rw [show aK 0 rn=rn from zk rfl] at GQ;obtain⟨cn,qD⟩:=fd (Cod.cnt (mis z m) rn)
   rw [<- qD] at zW ⊢;clear qD;rw [show aK 0 cn=cn from zk rfl];go_enter Tryz.func24,Tryz.ntmps24
   go_wp2_with fail
   rw [<- bi];clear bi;refine(HA.out _ B0.out).mono ?_;rintro e wa ⟨rfl,ha⟩;obtain⟨w2,jz⟩:=fd (wa.alloc (jj #[J O k,J O r,J O c,J O q,I ro rn rc,J ji ((kd.toNat:Nat):Int)] 99))
   have ba:b7 w wa:=ap B0.out ha;have jv:f (b7 w w2):=by show P _ _ _;rw [jz];exact ap ba (bal _ _)
   have L2:=am fun v (hv:b7 w2 v)=>(ah ba jz).below hv;clear ha ba;go_wp2_with fail
   rw [<- jz];clear jz;refine(GQ.out _ jv.out).mono ?_;rintro e wb ⟨ao,b8,T,U,rfl,hc,hb⟩;obtain⟨gl,rfl⟩:∃ gl,ao=S ⟨gl,0,X⟩:=by
    rcases hc.out.2 with ⟨_,h1⟩ | ⟨g,jy,jw,h1,_⟩
    ·omega
    ·cases h1;exact⟨g,rfl⟩
   obtain⟨w3,n9⟩:=fd (wb.alloc (jj #[I (S ⟨gl,0,X⟩) rn b8] 33))
   have b3:b7 w2 w3:=by rw [n9];exact ap hb (bal _ _)
   have G9:b7 w w3:=ap jv.out b3;have Tx:Mnl w wb.heap.size gl rn b8 z T (fun _=>m) U 0 w3 (fun g=>g=gl):=by
    refine⟨ah (ap jv.out hb) n9,?_,fun g=>Iff.rfl⟩;have e1:mT z T 0=T:=by funext i;exact zl (fun a=>by omega)
    have e2:mL z (fun _=>m) 0=fun _=>m:=by funext i;exact zl (fun a=>by omega)
    have e3:mL z U 0=U:=by funext i;exact zl (fun a=>by omega)
    rw [e1,e2,e3];exact dz (ar hc.out (by rw [n9];exact bal _ _)) jv.out.size
   have Fe:=Ie.out w3 wb.heap.size gl b8 T U (fun g=>g=gl) G9 Tx;have qs:=fun o=>((L2.out wb hb).alloc o)
   have s0:=fun o=>(qs o).cz 0;have s1:=fun o=>(qs o).cz 1;have s2:=fun o=>(qs o).cz 2;have s3:=fun o=>(qs o).cz 3;have s4:=fun o=>(qs o).cz 4;have s5:=fun o=>(qs o).cz 5;have yg:f (Cls w2.heap.size w3 (S ⟨gl,0,X⟩) rn b8 m T U H):=hc.below (by rw [n9];exact bal _ _);have m9:=am b3;have W4:f (w2.heap.size<=gl):=(aX hc.out (a:=⟨gl,0,X⟩) rfl).1;clear hb hc b3 G9 Tx qs;go_wp2_with fail
   rw [<- n9];clear n9 s0 s1 s2 s3 s4 s5;refine Fe.mono ?_;clear Fe;rintro e wf ⟨rfl,Y,⟨Ty,M1,_⟩,hO,_⟩;have QN:b7 w2 wf:=m9.out.trans (hO.below (fun i hi=>by have:=W4.out;omega) m9.out.size);have zI:=am QN;have yD:=am (ap jv.out QN);have Jy:=am Ty;have W5:=am M1;have W6:f (∀ i,i<rn->OwU w2.heap.size wf (T i) m (U i) (H i)):=fun i hi=>bQ (yg.out.row i hi) fun a ha=>by
    obtain⟨_,hl,jw,jI⟩:=aX (yg.out.row i hi) ha;refine hO.block _ hl fun e1=>?_;obtain⟨_,_,Gz,M2⟩:=aX yg.out.out (a:=⟨gl,0,X⟩) rfl;rw [e1] at jI;simp only at M2;rw [M2] at jI;cases jI
   have CH:f (∀ u,b7 wf u->(u.cell? ⟨wa.heap.size,0,X⟩=S (J O k)/\u.cell? ⟨wa.heap.size,1,X⟩=S (J O r)/\u.cell? ⟨wa.heap.size,2,X⟩=S (J O c)/\u.cell? ⟨wa.heap.size,3,X⟩=S (J O q)/\u.cell? ⟨wa.heap.size,4,X⟩=S (I ro rn rc)/\u.cell? ⟨wa.heap.size,5,X⟩=S (J ji ((kd.toNat:Nat):Int))/\u.cell? ⟨wb.heap.size,0,X⟩=S (I (S ⟨gl,0,X⟩) rn b8))):=fun u hu=>by
    have p:=L2.out u (ap zI.out hu);exact⟨p.cz 0,p.cz 1,p.cz 2,p.cz 3,p.cz 4,p.cz 5,(Jy.out.below hu).cz 0⟩
   obtain⟨s0,s1,s2,s3,s4,s5,s6⟩:=CH.out wf (je _ _);have W7:=FU.out wf.drew (yD.out.trans ((bdw _ _).mono yD.out.size));have PU:f (∀ vo vc w8,Own wf.heap.size w8 vo rn vc t.V->b7 wf w8->jg ja 83 #[jh #[J O k,J O r,J O c,J O q,I ro rn rc,J ji ((kd.toNat:Nat):Int)],J O nu,J O ke,I vo rn vc,I (S ⟨gl,0,X⟩) rn b8] w8 fun e w'=>∃ ao b8 T U,e=jc (I ao cn b8)/\PL w8.heap.size w' ao cn b8 rn (mis z m) os nu Z T U (fun i=>enc (slC kd rn t.V m (H i) i))/\b7 w8 w'):=fun vo vc w8 J0 h8=>by
    have W8:=ar W5.out h8;refine zW.out w8 (ap yD.out h8) vo vc _ b8 (mT z T rn) (mL z U rn) J0.vec (fun hp=>⟨gl,0,rfl,fun i hi=>?_⟩) (fun i hi=>?_)
    ·have:=W8.cells (g:=gl) rfl i _ (Cod.rowsOf_get rn _ _ _ i hi);rw [Addr.add_lit,Ei hi] at this;exact this
    ·have jA:=((W6.out i hi).below h8).bec;unfold mis mT mL;by_cases e:(z i).ce=0
     ·rw [zk e,zl (fun a=>a.2 e),zl (fun a=>a.2 e)];exact jA
     ·rw [zl e,zk ⟨hi,e⟩,zk ⟨hi,e⟩];exact ft _ _
   clear Ty M1 hO QN;go_wp2_with fail
   go_region_held3 (fun u=>u.cell? ⟨wa.heap.size,0,X⟩=S (J O k)/\u.cell? ⟨wa.heap.size,1,X⟩=S (J O r)/\u.cell? ⟨wa.heap.size,2,X⟩=S (J O c)/\u.cell? ⟨wa.heap.size,3,X⟩=S (J O q)/\u.cell? ⟨wa.heap.size,4,X⟩=S (I ro rn rc)/\u.cell? ⟨wa.heap.size,5,X⟩=S (J ji ((kd.toNat:Nat):Int))/\u.cell? ⟨wb.heap.size,0,X⟩=S (I (S ⟨gl,0,X⟩) rn b8)) (go_keep) ((first
    | (go_at_call 68;refine W7.mono ?_;rintro e w8 ⟨vo,vc,rfl,J0,_,h8⟩;have H8:=am (az h8);have Tz:=And.intro trivial (PU.out vo vc w8 J0 H8.out);have W9:f _:=Tz;obtain⟨e0,e1,e2,e3,e4,e5,e6⟩:=CH.out w8 H8.out;clear J0 h8 Tz)
    | (go_at_call 83;refine W9.out.2.mono ?_;rintro e w9 ⟨qo,qc,QT,QU,rfl,EI,h9⟩;have H9:=am (ap H8.out h9);have GK:=am EI;obtain⟨f0,f1,f2,f3,f4,f5,f6⟩:=CH.out w9 H9.out;clear EI h9)))
   go_wp2_with fail
   go_ret2;exact⟨qo,qc,QT,QU,rfl,fun _=>GK.out.mono (Nat.le_trans yD.out.size H8.out.size),ap yD.out H9.out⟩
  ·have e1:(E != 0)=true:=by simp [he2]
   rw [<- hz,<- ht];generalize cH k.toNat z rn=H at *
   generalize Cod.cnt (mis z c.toNat) rn=cn at *
   rw [show aK E cn=0 from zl he2];have GI:=am he2;clear h hr hE zt hK hke hR hL hk JY hz ht he2 FU;unfold stv at HA GQ;unfold cV at GQ;go_enter Tryz.func24,Tryz.ntmps24
   go_wp2_with fail
   rw [<- bi];clear bi;refine(HA.out _ B0.out).mono ?_;rintro e wa ⟨rfl,ha⟩;obtain⟨w2,jz⟩:=fd (wa.alloc (jj #[J O k,J O r,J O c,J O q,I ro rn rc,J ji ((kd.toNat:Nat):Int)] 99))
   have jv:f (b7 w w2):=by show P _ _ _;rw [jz];exact ap (ap B0.out ha) (bal _ _)
   clear ha;go_wp2_with fail
   rw [<- jz];clear jz;refine(GQ.out _ jv.out).mono ?_;rintro e wb ⟨ao,b8,T,U,rfl,hc,hb⟩;go_wp2_with fail
   go_ret2;exact⟨X,0,fun _=>X,fun _=>0,rfl,(fun e=>absurd e GI.out),ap (ap jv.out hb) (bal _ _)⟩
 ·rw [zl he] at hE HA;subst hE;have e1:(E1 != 0)=true:=by simp [he]
  generalize Cod.cnt (mis (zv N c L F kd v) c.toNat) N=cn at *
  rw [show aK E1 cn=0 from zl he];have GI:=am he;clear h hr zt he;unfold stz at HA;go_enter Tryz.func24,Tryz.ntmps24
  go_wp2_with fail
  rw [<- bi];clear bi;refine(HA.out _ B0.out).mono ?_;rintro e wa ⟨rfl,ha⟩;go_wp2_with fail
  go_ret2;exact⟨X,0,fun _=>X,fun _=>0,rfl,(fun e=>absurd e GI.out),ap (ap B0.out ha) (bal _ _)⟩
end Go.Proofs.YtemlojjkokooeaaGreat
