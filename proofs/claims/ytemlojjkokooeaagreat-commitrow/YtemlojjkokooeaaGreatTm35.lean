import Derived.Test.YtemlojjkokooeaaGreatTm34
open Go.Value renaming int->J,slice->I,agg->jc,string->jg
open Go.IntKind renaming i64->O
open Option renaming none->Y,some->Z
open Go.RowKit renaming Below->P,Hid->R
open Go.Proofs.Tryz renaming prog->S
open Go.Operand renaming tmp->f
open Go.Ground renaming phase->s,data->ja
open Go.RowKit.Below renaming refl->jb
open Nat renaming le_refl->jd
open Go.Ending renaming returned->je
open Go renaming Calls->jf
set_option maxHeartbeats 16000000
set_option maxRecDepth 100000
namespace Go.Proofs.YtemlojjkokooeaaGreat
open Go.RowKit
theorem mreg(w1:World)(zC x:Int)(kd:UInt8)(vb vf n2 vc ab af n cl i m:Nat)(hi:(0:Int)<=(i:Int))(hi2:(i:Int)<(n:Int))(Lo:(i:Int)<(n2:Int))(a0:Option Addr)(c0:Nat)(x0 x1 x2 x4 x6 x7 x8 x9 kq ya qG qO qM qn qH qr qt qk qu ql o8 m8 lw l5 kO qP yj Fc EE EG B7 B8 zS zT zU zB B9 yS yG xU xI Hh Hi Hj Hk Og Oh Oi Oj Ol Om On Mq Oo Oq Ot Ou Ov Ow Ox Oy Xa Xb Xc Xd Xe TA TB TC TD TE TF TG TH TI TJ:Value)
  (HS:R (∀ v,b7 w1 v->(v.cell? ⟨vb,vf+i,Y⟩=Z (J O x)/\v.cell? ⟨ab,af+i,Y⟩=Z (I a0 m c0))))
  (Q:Exit->Act->World->Prop) (HQ:R (∀ v g,b7 w1 v->At w1 v g #[J .u8 ((kd.toNat:Nat):Int),J O (i:Int),J O x,J O zC,I (Z ⟨vb,vf,Y⟩) n2 vc,I a0 m c0] 107->Q .normal ⟨#[x0,x1,x2,J .u8 ((kd.toNat:Nat):Int),x4,J O zC,x6,x7,x8,x9,kq,ya,qG,qO,I (Z ⟨ab,af,Y⟩) n cl,qM,qn,qH,I (Z ⟨vb,vf,Y⟩) n2 vc,qr,J O (i:Int),.pointer (Z ⟨g,0,Y⟩),qk,qu,ql,o8,m8,lw,l5,kO,qP,yj,Fc,EE,EG,B7,B8,zS,zT,zU,zB,B9,yS,yG,xU,xI,Hh,Hi,Hj,Hk,Og,Oh,Oi,Oj,Ol,Om,On,Mq,J .u8 ((kd.toNat:Nat):Int),J O (i:Int),I (Z ⟨vb,vf,Y⟩) n2 vc,J O (i:Int),.pointer (Z ⟨vb,vf+i,Y⟩),J O x,J O zC,I (Z ⟨vb,vf,Y⟩) n2 vc,I (Z ⟨ab,af,Y⟩) n cl,J O (i:Int),.pointer (Z ⟨ab,af+i,Y⟩),I a0 m c0,jc #[J .u8 ((kd.toNat:Nat):Int),J O (i:Int),J O x,J O zC,I (Z ⟨vb,vf,Y⟩) n2 vc,I a0 m c0],TA,TB,TC,TD,TE,TF,TG,TH,TI,TJ],[]⟩ v)) :
  Code.wp S (Code.region 11 #[⟨Z 58,.move (f 3),5,"ref.go:219",#[],Y⟩,⟨Z 59,.move (f 20),3,"ref.go:219",#[],Y⟩,⟨Z 60,.move (f 18),27,"ref.go:219",#[],Y⟩,⟨Z 61,.move (f 20),3,"ref.go:219",#[],Y⟩,⟨Z 62,.indexAddr 27 (f 60) (f 61),0,"ref.go:219",#[⟨2,ja⟩,⟨3,ja⟩],Y⟩,⟨Z 63,.load 3 (f 62),3,"ref.go:219",#[⟨4,ja⟩],Y⟩,⟨Z 64,.move (f 5),3,"ref.go:219",#[],Y⟩,⟨Z 65,.move (f 18),27,"ref.go:219",#[],Y⟩,⟨Z 66,.move (f 14),33,"ref.go:219",#[],Y⟩,⟨Z 67,.move (f 20),3,"ref.go:219",#[],Y⟩,⟨Z 68,.indexAddr 33 (f 66) (f 67),0,"ref.go:219",#[⟨8,ja⟩,⟨9,ja⟩],Y⟩,⟨Z 69,.load 36 (f 68),36,"ref.go:219",#[⟨10,ja⟩],Y⟩,⟨Z 70,.build 107 #[(0,f 58),(1,f 59),(2,f 63),(3,f 64),(4,f 65),(5,f 69)],107,"ref.go:219",#[⟨0,ja⟩,⟨1,ja⟩,⟨5,ja⟩,⟨6,ja⟩,⟨7,ja⟩,⟨11,ja⟩],Y⟩,⟨Z 21,.alloc 107,0,"ref.go:219",#[],Y⟩,⟨Y,.store 107 (f 21) (f 70),0,"ref.go:219",#[⟨13,ja⟩,⟨12,ja⟩,⟨0,s⟩,⟨1,s⟩,⟨2,s⟩,⟨3,s⟩,⟨4,s⟩,⟨5,s⟩,⟨6,s⟩,⟨7,s⟩,⟨8,s⟩,⟨9,s⟩,⟨10,s⟩,⟨11,s⟩,⟨12,s⟩,⟨13,s⟩],Y⟩] true) Q ⟨#[x0,x1,x2,J .u8 ((kd.toNat:Nat):Int),x4,J O zC,x6,x7,x8,x9,kq,ya,qG,qO,I (Z ⟨ab,af,Y⟩) n cl,qM,qn,qH,I (Z ⟨vb,vf,Y⟩) n2 vc,qr,J O (i:Int),qt,qk,qu,ql,o8,m8,lw,l5,kO,qP,yj,Fc,EE,EG,B7,B8,zS,zT,zU,zB,B9,yS,yG,xU,xI,Hh,Hi,Hj,Hk,Og,Oh,Oi,Oj,Ol,Om,On,Mq,Oo,Oq,Ot,Ou,Ov,Ow,Ox,Oy,Xa,Xb,Xc,Xd,Xe,TA,TB,TC,TD,TE,TF,TG,TH,TI,TJ],[]⟩ w1:=by
 obtain⟨s0,s1⟩:=HS.out w1 (jb _ _);have hd0:b7 w1 w1.drew:=bdw _ _;have zV:∀ o,b7 w1 (w1.alloc o).drew:=fun o=>eY (aa (jb _ _) o);go_region_held3 (fun v=>v.cell? ⟨vb,vf+i,Y⟩=Z (J O x)/\v.cell? ⟨ab,af+i,Y⟩=Z (I a0 m c0)) (go_keep) (fail)
 refine HQ.out _ _ ?_ ?_
 ·exact zV _
 ·exact(an (a:=w1) (jb _ _) _ 107).drew
theorem CM{N:Nat}{c:Int}{L:Nat->Nat}{F:Nat->Nat->UInt8}{kd:UInt8}{v:Int}(hk:kd=1\/kd=2){t:Sl}(ht:tS (yy N c L F) kd v (2*N)=t):ct (zv N c L F kd v) N=0\/(t.vn=N/\mx t.V N=v/\∀ j,j<N->1<=t.V j/\t.V j<=1073741824):=by
 rcases dB (v:=v) hk (cL N c L F) (2*N) (jd _) with ⟨a,_⟩ | ⟨j,_,a2,a3,a4,_⟩
 ·left
  have hz:∀ i,zv N c L F kd v i=zSl:=fun i=>by unfold zv zz;rw [a,zk (show zSl.ce=0 from rfl)]
  have:∀ n,ct (zv N c L F kd v) n=0:=fun n=>by
   induction n with
   | zero=>rfl
   | succ n ih=>rw [(nb (z:=zv N c L F kd v) (d:=n) (by rw [hz n];rfl)).1];exact ih
  exact this N
 ·right
  rw [ht] at a2;have ho:=bD a4.1;have hs:(yy N c L F j).st=v:=(of_decide_eq_true a3).2;rw [a2];exact⟨ho.vn,by rw [<- ho.st];exact hs,ho.V⟩
theorem oY{k r c q:Int}{N W:Nat}(h:Par k r c q N W 0)(w:World)(ro:Option Addr)(rc:Nat)(A:Nat->Option Addr)(L C:Nat->Nat)(F:Nat->Nat->UInt8)(hr:Rw w ro N A L C F)(hL:∀ j,j<2*N->L j=0\/L j=sz N c)(nu:Int)(kd:UInt8)(hk:kd=1\/kd=2)(ke v:Int)(GP:ke<=0->(tS (yy N c L F) kd ke (2*N)).vn=0)(E:Int)(hE:erL k.toNat (zv N c L F kd v) N=E):
    jf S 88 #[Pz k r c q,I ro N rc,J O nu,J .u8 ((kd.toNat:Nat):Int),J O ke,J O v] w (bS w E (Cod.cnt (mis (zv N c L F kd v) c.toNat) N) N (mis (zv N c L F kd v) c.toNat) (osl N c L F kd ke) nu (sz N c) (fun i=>enc (slC kd N (tS (yy N c L F) kd v (2*N)).V c.toNat (cH k.toNat (zv N c L F kd v) N i) i))):=by
  have qe:=h.le
  obtain⟨c1,c2⟩:=h.cell rfl
  have kD:1<=k:=by
    rcases h with ⟨hm,_⟩ | ⟨_,_,_,e⟩
    · obtain⟨h1,_⟩:=aB hm;omega
    · exact absurd e zb
  obtain⟨t,ht⟩:=km (tS (yy N c L F) kd v (2*N))
  have Kb:=CM hk ht
  obtain⟨z,hz⟩:=fd (zv N c L F kd v)
  have hok:Zok N c z:=by rw [hz];exact rH
  have HW:R (∀ u,b7 w u->jf S 75 #[Pz k r c q,I ro N rc,J .u8 ((kd.toNat:Nat):Int),J O v] u (cV u E N c.toNat (cH k.toNat z N))):=fun u hu=>by
    rw [<- hE,hz];exact gT h u ro rc A L C F (hr.below hu) hL kd hk v
  have HT:R (∀ u,b7 w u->jf S 73 #[Pz k r c q,I ro N rc,J .u8 ((kd.toNat:Nat):Int),J O v] u fun e w'=>∃(T:Nat->Option Addr) (U:Nat->Nat),e=je (.tuple #[I (Z ⟨u.heap.size+1,0,Y⟩) N N,J O ((ct z N:Nat):Int)])/\(∀ i,i<N->w'.cell? ⟨u.heap.size+1,i,Y⟩=Z (I (T i) (z i).dn (U i)))/\b7 u w'):=fun u hu=>by
    refine(mc h u ro rc A L C F (hr.below hu) hL kd hk v).mono ?_
    rintro e w' ⟨T,U,rfl,h1,_,hb⟩
    rw [<- hz] at h1 ⊢
    refine⟨T,U,rfl,fun i hi=>?_,hb⟩
    have:=h1.cells (g:=u.heap.size+1) rfl i _ (Cod.rowsOf_get N T _ U i hi)
    rw [Addr.add_lit,Nat.zero_add] at this
    exact this
  have GL:=am fun u (hu:b7 w u)=>iR h u ro rc A L C F (hr.below hu) hL kd hk v t ht
  obtain⟨m,hm⟩:=fd (c.toNat)
  have N7:c=(m:Int):=za;have xG:∀ i,i<N->((z i).ce=0/\(z i).dn=0)\/((z i).ce ≠ 0/\(z i).dn=m):=fun i hi=>by rw [hm];exact hok.dn i hi
  obtain⟨H,hH⟩:=fd (cH k.toNat z N)
  obtain⟨n,hn⟩:=fd (sz N c)
  obtain⟨os,C5⟩:=fd (osl N c L F kd ke)
  obtain⟨G,hG⟩:=fd (fun i=>enc (slC kd N t.V m (H i) i))
  have zW:R (t.vn=N->mx t.V N=v->(∀ j,j<N->1<=t.V j/\t.V j<=1073741824)->∀ d,d<N->∀ u,b7 w u->∀ vo vc bo cb,Vec u vo N vc t.V->Bec u bo m cb (H d)->jf S 154 #[Pz k r c q,I ro N rc,J O nu,J O ke,jc #[J .u8 ((kd.toNat:Nat):Int),J O (d:Int),J O (t.V d),J O v,I vo N vc,I bo m cb]] u fun e w'=>∃ uo uc,e=je (jc #[J O (d:Int),J O nu,J O ((os d:Nat):Int),I uo n uc])/\OwU u.heap.size w' uo n uc (G d)/\b7 u w'):=fun _ hst hV d hd u hu vo vc bo cb h1 h2=>by
    have hok:okS N c (slC kd N t.V m (H d) d)=true:=by
      rw [hm];exact(rm (c:=c) (G:=H d) hk hV hd za).ok
    have:=ot h u ro rc A L C F (hr.below hu) hL nu ke (slC kd N t.V m (H d) d) vo vc bo cb ⟨h1,h2⟩ hok d hd rfl _ rfl GP
    rw [show (slC kd N t.V m (H d) d).st=v from hst] at this
    rw [hn,C5,hG]
    exact this
  have hn0:n<=1000:=by rw [hn];unfold sz;omega
  have Fe:E=0->1<=ct z N:=fun e=>by
    rw [<- hE,<- hz] at e
    unfold erL at e
    rw [(AZ hok c1).1] at e
    by_cases a:k.toNat<=ct z N
    · omega
    · rw [zl a] at e;exact absurd e zb
  rw [ht,<- hz,<- hm,<- hH,<- hn,<- C5,<- hG]
  rw [<- hm,<- hH] at HW
  rw [<- hz] at Kb
  obtain⟨j0,hj,kE,kB,kt⟩:=info_parts pJ
  obtain⟨w0,bi⟩:=jM w k r c q
  have B0:R (b7 w w0):=by show P _ _ _;rw [bi];exact bal _ _
  have L0:=am fun v (hv:b7 w0 v)=>(ah (jb _ _) bi).below hv
  have yt:R (m ≠ 0):=by show _ ≠ _;omega
  clear h hr hL hk GP hE ht hok hm N7 hH hn C5 hG hz
  unfold bS
  unfold cV at HW
  by_cases he:E=0
  · have xx:=Fe he
    obtain⟨Jb,hst,hV⟩:t.vn=N/\mx t.V N=v/\∀ j,j<N->1<=t.V j/\t.V j<=1073741824:=by
      rcases Kb with a | a
      · omega
      · exact a
    have Jd:=zW.out Jb hst hV
    have D7:=am Jd
    subst he
    rw [show aK 0 N=N from zk rfl] at HW
    rw [show aK 0 (Cod.cnt (mis z m) N)=Cod.cnt (mis z m) N from zk rfl]
    unfold uK at GL
    rw [Jb] at GL
    clear Kb Fe hst hV Jd zW xx
    have Tv:=am Jb
    clear Jb
    go_enter Tryz.func88,Tryz.ntmps88
    go_wp2_with fail
    rw [<- bi]
    clear bi
    refine(HW.out _ B0.out).mono ?_
    rintro e wa ⟨lo,cl,Ta,Ua,rfl,jU,ha⟩
    have HA:=am ha
    have Hc:=am (jU.rdc (jd _))
    have A7:=am fun i (hi:i<N)=>(jU.row i hi).bec
    clear jU ha HW
    have p:=L0.out wa HA.out
    have p0:=p.cz 0
    have p1:=p.cz 1
    have p2:=p.cz 2
    have p3:=p.cz 3
    clear p
    go_wp2_with fail
    clear p0 p1 p2 p3
    refine(HT.out _ (ap B0.out HA.out)).mono ?_
    rintro e wb ⟨Tb,Ub,rfl,Gw,hb⟩
    have HB:=am hb
    have NQ:=am Gw
    clear hb Gw HT
    have p:=L0.out wb (ap HA.out HB.out)
    have p0:=p.cz 0
    have p1:=p.cz 1
    have p2:=p.cz 2
    have p3:=p.cz 3
    clear p
    go_wp2_with fail
    clear p0 p1 p2 p3
    refine(GL.out _ (ap B0.out (ap HA.out HB.out))).mono ?_
    rintro e wc ⟨vo,vc,rfl,em,hc⟩
    have n8:=am (ap HA.out (ap HB.out hc))
    have qQ:=am (ap HB.out hc)
    have FU:=am (em.vec)
    have yI:=am fun i (hi:i<N)=>held (NQ.out i hi) hc
    have My:=am xG
    clear em hc NQ GL xG HB
    go_wp2_with fail
    go_loopw [19,20] (fun y x wr=>∃ i:Nat,i<=N/\x=J O (i:Int)/\(∃ ao cp cn,y=I ao cn cp/\cn<=i/\R (cn=Cod.cnt (mis z m) i)/\R (∃ T U,wr.ownsRow wc.heap.size 56 4 (I ao cn cp) cn (ptl (mis z m) os nu n T U i)/\∀ l,l<i->mis z m l ≠ 0->OwU wc.heap.size wr (T l) n (U l) (G l)))/\R (b7 wc wr)) (fun _ x _=>N-(intOf x).toNat)
    case atStart=>exact⟨0,Nat.zero_le _,rfl,⟨Y,0,0,rfl,jd _,rfl,fun _=>Y,fun _=>0,World.ownsRow_nil _ _ _ _,fun l hl=>absurd hl (Nat.not_lt_zero l)⟩,jb _ _⟩
    case round =>
      obtain⟨i,hi,rfl,⟨ao,cp,cn,rfl,Xf,qD,kY⟩,d8⟩:=hrel
      by_cases hlt:i<N
      · have i1:(0:Int)<=(i:Int):=za
        have i2:(i:Int)<(N:Int):=za;have cz:=held (yI.out i hlt) d8.out
        rcases My.out i hlt with ⟨z1,z2⟩ | ⟨z1,z2⟩
        · rw [z2] at cz
          have K6:R (mis z m i=m):=by show _=_;unfold mis;rw [zk z1]
          clear z1 z2
          obtain⟨lb,lf,rfl,jI⟩:=Hc.out za
          obtain⟨vb,vf,rfl,GJ⟩:=FU.out.rd za
          have OJ:R (∀ u,b7 wr u->(u.cell? ⟨w.heap.size,0,Y⟩=Z (J O k)/\u.cell? ⟨w.heap.size,1,Y⟩=Z (J O r)/\u.cell? ⟨w.heap.size,2,Y⟩=Z (J O c)/\u.cell? ⟨w.heap.size,3,Y⟩=Z (J O q))):=fun u hu=>by
            have p:=L0.out u (ap n8.out (ap d8.out hu))
            exact⟨p.cz 0,p.cz 1,p.cz 2,p.cz 3⟩
          have JW:R (∀ u,b7 wr u->(u.cell? ⟨vb,vf+i,Y⟩=Z (J O (t.V i))/\u.cell? ⟨lb,lf+i,Y⟩=Z (I (Ta i) m (Ua i)))):=fun u hu=>⟨held (GJ i hlt) (ap d8.out hu),held (jI i hlt) (ap qQ.out (ap d8.out hu))⟩
          have Jd:=D7.out i hlt
          have K4:=am (A7.out i hlt)
          clear jI GJ
          go_wp2_with fail
          clear cz
          refine mreg wr v (t.V i) kd vb vf N vc lb lf N cl i m i1 i2 i2 (Ta i) (Ua i) _ _ _ _ _ _ _ _ _ _ _ _ _ _ _ _ _ _ _ _ _ _ _ _ _ _ _ _ _ _ _ _ _ _ _ _ _ _ _ _ _ _ _ _ _ _ _ _ _ _ _ _ _ _ _ _ _ _ _ _ _ _ _ _ _ _ _ _ _ _ _ _ _ _ _ _ JW _ (fun v' g ku jx=>?_)
          have d0:=jx.cz 0
          have d1:=jx.cz 1
          have d2:=jx.cz 2
          have d3:=jx.cz 3
          have d4:=jx.cz 4
          have d5:=jx.cz 5
          obtain⟨a0,a1,a2,a3⟩:=OJ.out v' ku
          have MZ:=Jd v' (ap B0.out (ap n8.out (ap d8.out ku))) (Z ⟨vb,vf,Y⟩) vc (Ta i) (Ua i) (FU.out.below (ap d8.out ku)) (K4.out.below (ap qQ.out (ap d8.out ku)))
          have m9:=am ku
          clear jx ku Jd
          go_wp2_with fail
          refine MZ.mono ?_
          clear MZ d0 d1 d2 d3 d4 d5 a0 a1 a2 a3
          rintro e w6 ⟨uo,uc,rfl,zY,h6⟩
          have Ka:=am (ap m9.out h6)
          have J1:=am (ap d8.out Ka.out)
          have MG:R (wc.heap.size<=v'.heap.size):=(ap d8.out m9.out).size
          have zR:=am zY
          obtain⟨T,U,ho,jA⟩:=kY.out
          have QM:=am fun l (hl:l<i)(hm:mis z m l ≠ 0)=>(jA l hl hm).below Ka.out
          obtain⟨xs,xV⟩:=fd (ptl (mis z m) os nu n T U i)
          have kR:R (∀ o,(w6.alloc o).ownsRow wc.heap.size 56 4 (I ao cn cp) cn xs):=fun o=>by rw [xV];exact ar (ar ho Ka.out) (bal _ _)
          have HX:R (xs ++ [J O (i:Int),J O nu,J O ((os i:Nat):Int),I uo n uc]=ptl (mis z m) os nu n (Cod.put i uo T) (Cod.put i uc U) (i+1)):=by
            show _=_
            rw [ptl,zl (by rw [K6.out];exact yt.out),Cod.put_at,Cod.put_at,xV]
            congr 1
            exact eK fun l hl=>by rw [Cod.put_ne _ _ za,Cod.put_ne _ _ za];exact⟨rfl,rfl⟩
          have yQ:R (cn+1=Cod.cnt (mis z m) (i+1)):=by show _=_;rw [Cod.cnt_take (by rw [K6.out];exact yt.out),qD.out]
          have W3:=J1.out.size
          clear zY h6 ho jA xV
          go_wp2_with (at_builtin;refine wpList_append_lies _ zg (f 71) (f 78) 43 zg wc.heap.size 56 j0 (jc #[J O 0, J O 0, J O 0, I Y 0 0]) 4 48 Tryz.underlying43 hj kE kB kt zg zb (I ao cn cp) cn xs zg (kR.out _) ⟨w6.heap.size, 0, Y⟩ 1 1 [J O (i : Int), J O nu, J O ((os i : Nat) : Int), I uo n uc] zg zg (World.news_of_block (heap_alloc_new w6 _)) (by simp [Value.oneCell']) zb (by unfold maxLen;omega) za zj (w6.heap.size + 1) zi ?_;intro g5 ky w5 jG i7 _ _
                       have yR:R (w5.ownsRow wc.heap.size 56 4 (I (Z ⟨g5,0,Y⟩) (cn+1) ky) (cn+1) (ptl (mis z m) os nu n (Cod.put i uo T) (Cod.put i uc U) (i+1))):=by rw [<- HX.out];exact jG
                       have yT:R (b7 wc w5):=(ap J1.out (bal _ _)).grown i7 zj (fun r hr=>((kR.out (.cells #[] 3)).lt r hr).1)
                       have MH:R (∀ l,l<i+1->mis z m l ≠ 0->OwU wc.heap.size w5 (Cod.put i uo T l) n (Cod.put i uc U l) (G l)):=fun l hl FB=>by
                         by_cases e:l=i
                         · rw [e,Cod.put_at,Cod.put_at]
                           exact dh (OwU.below (zR.out.mono MG.out) (bal _ _)) (kR.out _) zb i7
                         · rw [Cod.put_ne _ _ e,Cod.put_ne _ _ e]
                           exact dh (OwU.below (QM.out l za FB) (bal _ _)) (kR.out _) zb i7
                       clear jG i7)
          go_roundw
          case rel=>exact⟨i+1,za,by go_num,⟨_,ky,cn+1,rfl,za,yQ.out,Cod.put i uo T,Cod.put i uc U,yR.out,MH.out⟩,yT.out⟩
          case measure=>simp [intOf];omega
        · rw [z2] at cz
          have K6:R (mis z m i=0):=by show _=_;unfold mis;rw [zl z1]
          have YE:((m:Int) == 0)=false:=by have:=yt.out;simp;omega
          clear z1 z2
          go_wp2_with fail
          go_roundw
          case rel =>
            obtain⟨T,U,ho,jA⟩:=kY.out
            refine⟨i+1,za,by go_num,⟨ao,cp,cn,rfl,za,?_,T,U,?_,fun l hl FB=>?_⟩,d8.out⟩
            · show _=_;rw [Cod.cnt_skip K6.out];exact qD.out
            · rw [ptl,zk K6.out];exact ho
            · exact jA l (by have : l ≠ i := fun e => FB (by rw [e];exact K6.out)
                             omega) FB
          case measure=>simp [intOf];omega
      · obtain rfl:i=N:=za
        obtain⟨T,U,ho,jA⟩:=kY.out
        have zI:=am (ap B0.out (ap n8.out d8.out))
        have M0:R (w.heap.size<=wc.heap.size):=(ap B0.out n8.out).size
        have GK:R (PL w.heap.size wr ao cn cp i (mis z m) os nu n T U G):=⟨dz ho M0.out,fun l hl FB=>(jA l hl FB).mono M0.out⟩
        have Hd:=am (qD.out)
        clear ho jA kY d8 qD
        go_wp2_with fail
        go_ret2
        rw [<- Hd.out]
        exact⟨ao,cp,T,U,rfl,fun _=>GK.out,zI.out⟩
  · have e1:(E != 0)=true:=by simp [he]
    rw [show aK E N=0 from zl he] at HW
    rw [show aK E (Cod.cnt (mis z m) N)=0 from zl he]
    clear Kb Fe zW HT GL xG
    go_enter Tryz.func88,Tryz.ntmps88
    go_wp2_with fail
    rw [<- bi]
    clear bi
    refine(HW.out _ B0.out).mono ?_
    rintro e wa ⟨lo,cl,Ta,Ua,rfl,jU,ha⟩
    go_wp2_with fail
    go_ret2
    exact⟨Y,0,fun _=>Y,fun _=>0,rfl,fun e=>absurd e he,ap B0.out ha⟩
theorem ij(k r c q:Int)(w:World):
  jf S 85 #[Pz k r c q] w fun e w'=>e=je (J O (wrap64 (k*c)))/\b7 w w':=by
 go_enter Tryz.func85,Tryz.ntmps85
 go_wp2;go_ret;exact⟨rfl,bal _ _⟩
theorem lS{N:Nat}{c:Int}{L:Nat->Nat}{F:Nat->Nat->UInt8}{kd:UInt8}(hk:kd=1\/kd=2){ke:Int}(h:ke<=0):(tS (yy N c L F) kd ke (2*N)).vn=0:=by
 rcases dB (v:=ke) hk (cL N c L F) (2*N) (jd _) with ⟨a,_⟩ | ⟨j,hj,a2,a3,a4,_⟩
 ·rw [a];rfl
 ·exfalso
  have h1:=(of_decide_eq_true a3).2;have o:=bD a4.1;have h2:=o.le;have h3:=o.ce;have h4:=o.V _ (show (yy N c L F j).ix.toNat<N by have:=o.ix;omega);omega
theorem na(X:List UInt8):((sOf X).toList != (sOf X).toList)=false:=zi
theorem iI{n:Nat}{F G:Nat->UInt8}(h:∀ i,i<n->F i=G i):lsF n F=lsF n G:=by
 unfold lsF;exact List.map_congr_left fun i hi=>h i (List.mem_range.1 hi)
theorem gw(w:World)(ao bo:Option Addr)(n ca cb:Nat)(A B:Nat->Option Addr)(L C D:Nat->Nat)(F G:Nat->Nat->UInt8)(ha:Rw w ao n A L C F)(hb:Rw w bo n B L D G)(hn:n<=9223372036854775807)(he:∀ i,i<2*n->∀ j,j<L i->F i j=G i j):
  jf S 21 #[I ao n ca,I bo n cb] w fun e w'=>e=je (.bool true)/\b7 w w':=by
 have HA:=am ha;have HB:=am hb;have HS:=am he;clear ha hb he;have Ha:((n:Int) != (n:Int))=false:=zi;go_enter Tryz.func21,Tryz.ntmps21
 go_wp2;go_loopw [5] (fun x wr=>∃ i:Nat,i<=n/\x=J O i/\R (b7 w wr)) (fun x _=>n-(intOf x).toNat)
 case atStart=>exact⟨0,Nat.zero_le _,rfl,jb _ _⟩
 case round =>
  obtain⟨i,hi,rfl,jB⟩:=hrel;by_cases hlt:i<n
  ·obtain⟨b,off,rfl,hc⟩:=(HA.out.below jB.out).at_ za;obtain⟨b',qg,rfl,hc'⟩:=(HB.out.below jB.out).at_ za;have c0:=(hc i hlt).1;have c1:=(hc i hlt).2;have d0:=(hc' i hlt).1;have d1:=(hc' i hlt).2;have v0:∀ z,(convert 36 9 (I (A (2*i)) (L (2*i)) (C (2*i)))).run S (wr.drewN z)=.ok (jg (sOf (lsF (L (2*i)) (F (2*i))))) (wr.drewN z):=fun z=>bm (((HA.out.below jB.out).bec (2*i) za).below (below_drewN _ _ _));have v1:∀ z,(convert 36 9 (I (A (2*i+1)) (L (2*i+1)) (C (2*i+1)))).run S (wr.drewN z)=.ok (jg (sOf (lsF (L (2*i+1)) (F (2*i+1))))) (wr.drewN z):=fun z=>bm (((HA.out.below jB.out).bec (2*i+1) za).below (below_drewN _ _ _));have u0:∀ z,(convert 36 9 (I (B (2*i)) (L (2*i)) (D (2*i)))).run S (wr.drewN z)=.ok (jg (sOf (lsF (L (2*i)) (F (2*i))))) (wr.drewN z):=fun z=>by
    rw [iI (HS.out (2*i) za)];exact bm (((HB.out.below jB.out).bec (2*i) za).below (below_drewN _ _ _))
   have u1:∀ z,(convert 36 9 (I (B (2*i+1)) (L (2*i+1)) (D (2*i+1)))).run S (wr.drewN z)=.ok (jg (sOf (lsF (L (2*i+1)) (F (2*i+1))))) (wr.drewN z):=fun z=>by
    rw [iI (HS.out (2*i+1) za)];exact bm (((HB.out.below jB.out).bec (2*i+1) za).below (below_drewN _ _ _))
   have e0:=na (lsF (L (2*i)) (F (2*i)));have e1:=na (lsF (L (2*i+1)) (F (2*i+1)));clear hc hc';have i1:(0:Int)<=(i:Int):=za;have i2:(i:Int)<(n:Int):=za;go_wp2;go_quiet (fail)
   go_wp2;go_roundw
   case rel=>exact⟨i+1,za,by go_num,jB.out.trans (below_drewN _ _ _)⟩
   case measure=>simp [intOf];omega
  ·go_wp2;go_ret;exact⟨rfl,jB.out⟩
end Go.Proofs.YtemlojjkokooeaaGreat
