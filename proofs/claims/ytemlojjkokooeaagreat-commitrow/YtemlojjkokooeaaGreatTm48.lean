import Derived.Test.YtemlojjkokooeaaGreatTm47
open Go.Value renaming int->J,slice->Z,agg->H,bool->T
open Go.IntKind renaming i64->O
open Option renaming some->I,none->Q
open Go.RowKit renaming Below->Y,Hid->U
open Bool renaming false->X,true->B
open Go.RowKit.Below renaming refl->D
open Go.Obj renaming cells->G
open Go.Proofs.Tryz renaming prog->P
open Go.Ending renaming returned->L
open Go renaming World->S,Calls->C,Addr->F
open Nat renaming zero_le->A
set_option maxHeartbeats 16000000
set_option maxRecDepth 100000
namespace Go.Proofs.YtemlojjkokooeaaGreat.De
open Go.RowKit
theorem oq(k r c q:Int)(w:S)(ro:Option F)(n rc:Nat)(R V:Nat->Int)(hR:RdR w ro n R V)(hn:n<=1000):
  C P 256 #[Pz k r c q,Z ro n rc] w fun e w'=>e=L (T (okL q n R V))/\b7 w w':=by
 have HR:=am hR;clear hR;obtain⟨w0,bi⟩:=jM w k r c q
 have b0:=jt bi
 have HP:=am fun u (hu:b7 w0 u)=>ak bi hu;have io:=am b0;by_cases hall:∀ i,i<n->okR q (R i) (V i)=B
 ·rw [show okL q n R V=B from zm hall];have HA:=am hall;clear hall;go_enter Tryz.func256,Tryz.ntmps256
  go_wp2_with fail
  rw [<- bi];clear bi b0;go_loopw [5] (fun x wr=>∃ i:Nat,i<=n/\x=J O i/\U (b7 w0 wr)) (fun x _=>n-(intOf x).toNat)
  case atStart=>exact⟨0,A _,rfl,D _ _⟩
  case round =>
   obtain⟨i,hi,rfl,d8⟩:=hrel;by_cases hlt:i<n
   ·skip
    obtain⟨b,off,rfl,hc⟩:=(HR.out.below (ap io.out d8.out)) za
    obtain⟨q0,q1⟩:=hc i hlt;obtain⟨p0,p1,p2,p3⟩:=HP.out _ d8.out;have HC:=fun v=>mH k r c q (R i) (V i) v;rw [HA.out i hlt] at HC;have B3:U (∀ v,Y wr.drew.heap.size wr.drew v->b7 w0 v/\v.cell? ⟨b,off+i*2,Q⟩=I (J O (R i))/\v.cell? ⟨b,off+i*2+1,Q⟩=I (J O (V i))):=fun v hv=>⟨ap d8.out (aG hv),held q0 (aG hv),held q1 (aG hv)⟩
    have i1:(0:Int)<=(i:Int):=za;have i2:(i:Int)<(n:Int):=za;clear hc;go_wp2_with fail
    go_region_held3 (fun v=>(v.cell? ⟨w.heap.size,0,Q⟩=I (J O k)/\v.cell? ⟨w.heap.size,1,Q⟩=I (J O r)/\v.cell? ⟨w.heap.size,2,Q⟩=I (J O c)/\v.cell? ⟨w.heap.size,3,Q⟩=I (J O q))/\v.cell? ⟨b,off+i*2,Q⟩=I (J O (R i))/\v.cell? ⟨b,off+i*2+1,Q⟩=I (J O (V i))) (go_keep)
     ((go_at_call 310;refine(HC _).mono ?_;rintro e wa ⟨rfl,ha⟩;obtain⟨ko,h2,h3⟩:=B3.out _ ha;obtain⟨g0,g1,g2,g3⟩:=HP.out _ ko))
    have jv:=am ko;clear ko h2 h3 g0 g1 g2 g3 ha;go_wp2_with fail
    exact⟨⟨i+1,za,by go_num,jv⟩,by simp [intOf];omega⟩
   ·go_wp2;go_ret;exact⟨rfl,ap io.out d8.out⟩
 ·rw [show okL q n R V=X from zp hall];obtain⟨z,hz,f9,heq⟩:=bA hall;have HE:=am heq;have HN:U (okR q (R z) (V z)=X):=by show _=_;cases h:okR q (R z) (V z);rfl;exact absurd h f9
  clear hall f9 heq;go_enter Tryz.func256,Tryz.ntmps256
  go_wp2_with fail
  rw [<- bi];clear bi b0;go_loopw [5] (fun x wr=>∃ i:Nat,i<=z/\x=J O i/\U (b7 w0 wr)) (fun x _=>n-(intOf x).toNat)
  case atStart=>exact⟨0,A _,rfl,D _ _⟩
  case round =>
   obtain⟨i,hi,rfl,d8⟩:=hrel;have hlt:i<n:=za;by_cases hiz:i<z
   ·skip
    obtain⟨b,off,rfl,hc⟩:=(HR.out.below (ap io.out d8.out)) za
    obtain⟨q0,q1⟩:=hc i hlt;obtain⟨p0,p1,p2,p3⟩:=HP.out _ d8.out;have HC:=fun v=>mH k r c q (R i) (V i) v;rw [HE.out i hiz] at HC;have B3:U (∀ v,Y wr.drew.heap.size wr.drew v->b7 w0 v/\v.cell? ⟨b,off+i*2,Q⟩=I (J O (R i))/\v.cell? ⟨b,off+i*2+1,Q⟩=I (J O (V i))):=fun v hv=>⟨ap d8.out (aG hv),held q0 (aG hv),held q1 (aG hv)⟩
    have i1:(0:Int)<=(i:Int):=za;have i2:(i:Int)<(n:Int):=za;clear hc;go_wp2_with fail
    go_region_held3 (fun v=>(v.cell? ⟨w.heap.size,0,Q⟩=I (J O k)/\v.cell? ⟨w.heap.size,1,Q⟩=I (J O r)/\v.cell? ⟨w.heap.size,2,Q⟩=I (J O c)/\v.cell? ⟨w.heap.size,3,Q⟩=I (J O q))/\v.cell? ⟨b,off+i*2,Q⟩=I (J O (R i))/\v.cell? ⟨b,off+i*2+1,Q⟩=I (J O (V i))) (go_keep)
     ((go_at_call 310;refine(HC _).mono ?_;rintro e wa ⟨rfl,ha⟩;obtain⟨ko,h2,h3⟩:=B3.out _ ha;obtain⟨g0,g1,g2,g3⟩:=HP.out _ ko))
    have jv:=am ko;clear ko h2 h3 g0 g1 g2 g3 ha;go_wp2_with fail
    exact⟨⟨i+1,za,by go_num,jv⟩,by simp [intOf];omega⟩
   ·obtain rfl:i=z:=za;obtain⟨b,off,rfl,hc⟩:=(HR.out.below (ap io.out d8.out)) za
    obtain⟨q0,q1⟩:=hc i hlt;obtain⟨p0,p1,p2,p3⟩:=HP.out _ d8.out;have HC:=fun v=>mH k r c q (R i) (V i) v;rw [HN.out] at HC;have B3:U (∀ v,Y wr.drew.heap.size wr.drew v->b7 w0 v/\v.cell? ⟨b,off+i*2,Q⟩=I (J O (R i))/\v.cell? ⟨b,off+i*2+1,Q⟩=I (J O (V i))):=fun v hv=>⟨ap d8.out (aG hv),held q0 (aG hv),held q1 (aG hv)⟩
    have i1:(0:Int)<=(i:Int):=za;have i2:(i:Int)<(n:Int):=za;clear hc;go_wp2_with fail
    go_region_held3 (fun v=>(v.cell? ⟨w.heap.size,0,Q⟩=I (J O k)/\v.cell? ⟨w.heap.size,1,Q⟩=I (J O r)/\v.cell? ⟨w.heap.size,2,Q⟩=I (J O c)/\v.cell? ⟨w.heap.size,3,Q⟩=I (J O q))/\v.cell? ⟨b,off+i*2,Q⟩=I (J O (R i))/\v.cell? ⟨b,off+i*2+1,Q⟩=I (J O (V i))) (go_keep)
     ((go_at_call 310;refine(HC _).mono ?_;rintro e wa ⟨rfl,ha⟩;obtain⟨ko,h2,h3⟩:=B3.out _ ha;obtain⟨g0,g1,g2,g3⟩:=HP.out _ ko))
    have jv:=am ko;clear ko h2 h3 g0 g1 g2 g3 ha;go_wp2_with fail
    go_ret;exact⟨rfl,ap io.out jv.out⟩
theorem Bq{k r c q:Int}(w:S)(len gt:Int)(ro:Option F)(n rc:Nat)(hl:len<0):
  C P 177 #[Pz k r c q,H #[J O len,J O gt,Z ro n rc]] w fun e w'=>e=L (T X)/\b7 w w':=by
 obtain⟨w0,bi⟩:=jM w k r c q
 obtain⟨w1,ci⟩:=fd (w0.alloc (G #[J O len,J O gt,Z ro n rc] 60))
 have b0:=jt bi
 have b1:=jt ci
 have z0:=ks bi
 have io:=am (ap b0 b1);have HP:U (∀ u,b7 w1 u->(u.cell? ⟨w.heap.size,0,Q⟩=I (J O k)/\u.cell? ⟨w.heap.size,1,Q⟩=I (J O r)/\u.cell? ⟨w.heap.size,2,Q⟩=I (J O c)/\u.cell? ⟨w.heap.size,3,Q⟩=I (J O q))/\u.cell? ⟨w.heap.size+1,0,Q⟩=I (J O len)/\u.cell? ⟨w.heap.size+1,1,Q⟩=I (J O gt)/\u.cell? ⟨w.heap.size+1,2,Q⟩=I (Z ro n rc)):=fun u hu=>⟨ak bi (ap b1 hu),by rw [<- z0];exact⟨ae ci hu 0 rfl,ae ci hu 1 rfl,ae ci hu 2 rfl⟩⟩
 obtain⟨⟨p0,p1,p2,p3⟩,d0,d1,d2⟩:=HP.out _ (D _ _);have e1:decide (len<0)=B:=zm hl;go_enter Tryz.func177,Tryz.ntmps177
 go_wp2_with fail
 rw [<- bi,<- ci];clear bi ci z0 b0 b1;go_big_quiet (fail)
 go_wp2_with fail
 go_ret;exact⟨rfl,ap io.out (below_drewN _ _ _)⟩
theorem Bs{k r c q:Int}{N W:Nat}(h:Par k r c q N W 0)(w:S)(len gt:Int)(ro:Option F)(n rc:Nat)(hl:0<=len)(FK:(mst W:Int)<len):
  C P 177 #[Pz k r c q,H #[J O len,J O gt,Z ro n rc]] w fun e w'=>e=L (T X)/\b7 w w':=by
 obtain⟨qC,_⟩:=h.fine;obtain⟨g1,g2,g3,_,_⟩:=h.good qC;have HM:=fun w=>ei k r c q w W g1 g2 g3;have gm:=cq W;generalize mst W=mm at *
 have e1:decide (len<0)=X:=zp za;have e2:decide ((mm:Int)<len)=B:=zm FK;clear h qC g1 g2 g3;obtain⟨w0,bi⟩:=jM w k r c q
 obtain⟨w1,ci⟩:=fd (w0.alloc (G #[J O len,J O gt,Z ro n rc] 60))
 have b0:=jt bi
 have b1:=jt ci
 have z0:=ks bi
 have io:=am (ap b0 b1);have HP:U (∀ u,b7 w1 u->(u.cell? ⟨w.heap.size,0,Q⟩=I (J O k)/\u.cell? ⟨w.heap.size,1,Q⟩=I (J O r)/\u.cell? ⟨w.heap.size,2,Q⟩=I (J O c)/\u.cell? ⟨w.heap.size,3,Q⟩=I (J O q))/\u.cell? ⟨w.heap.size+1,0,Q⟩=I (J O len)/\u.cell? ⟨w.heap.size+1,1,Q⟩=I (J O gt)/\u.cell? ⟨w.heap.size+1,2,Q⟩=I (Z ro n rc)):=fun u hu=>⟨ak bi (ap b1 hu),by rw [<- z0];exact⟨ae ci hu 0 rfl,ae ci hu 1 rfl,ae ci hu 2 rfl⟩⟩
 obtain⟨⟨p0,p1,p2,p3⟩,d0,d1,d2⟩:=HP.out _ (D _ _);go_enter Tryz.func177,Tryz.ntmps177
 go_wp2_with fail
 rw [<- bi,<- ci];clear bi ci z0 b0 b1;have HT:=am fun v (hv:Y w1.drew.heap.size w1.drew v)=>aG hv;go_region_held3 (fun v=>(v.cell? ⟨w.heap.size,0,Q⟩=I (J O k)/\v.cell? ⟨w.heap.size,1,Q⟩=I (J O r)/\v.cell? ⟨w.heap.size,2,Q⟩=I (J O c)/\v.cell? ⟨w.heap.size,3,Q⟩=I (J O q))/\v.cell? ⟨w.heap.size+1,0,Q⟩=I (J O len)/\v.cell? ⟨w.heap.size+1,1,Q⟩=I (J O gt)/\v.cell? ⟨w.heap.size+1,2,Q⟩=I (Z ro n rc)) (go_keep)
  ((go_at_call 129;refine(HM _).mono ?_;rintro e wa ⟨rfl,ha⟩;have xA:=HT.out _ ha;obtain⟨⟨q0,q1,q2,q3⟩,f0,f1,f2⟩:=HP.out _ xA))
 go_wp2_with fail
 go_ret;exact⟨rfl,ap io.out xA⟩
theorem ud{k r c q:Int}{N W:Nat}(h:Par k r c q N W 0)(w:S)(len gt:Int)(ro:Option F)(n rc:Nat)(hl:0<=len)(FK:len<=(mst W:Int)){s x nn:Nat}(h':Made k r c q len W s 0 x nn 0)(h1:¬ gt=0):
  C P 177 #[Pz k r c q,H #[J O len,J O gt,Z ro n rc]] w fun e w'=>e=L (T (X))/\b7 w w':=by
 obtain⟨qC,_⟩:=h.fine;obtain⟨g1,g2,g3,_,_⟩:=h.good qC;have HM:=fun w=>ei k r c q w W g1 g2 g3;have gm:=cq W;generalize mst W=mm at *
 have e1:decide (len<0)=X:=zp za;have e2:decide ((mm:Int)<len)=X:=zp za;have CS:=fun v=>bC h h' v;have CD:=fun v=>cB h h' v;have CV:=fun v=>bO h h' v;have e3:(gt == (0:Int))=X:=by simpa using h1
 clear h1;clear h h' qC g1 g2 g3;obtain⟨w0,bi⟩:=jM w k r c q
 obtain⟨w1,ci⟩:=fd (w0.alloc (G #[J O len,J O gt,Z ro n rc] 60))
 have b0:=jt bi
 have b1:=jt ci
 have z0:=ks bi
 have io:=am (ap b0 b1);have HP:U (∀ u,b7 w1 u->(u.cell? ⟨w.heap.size,0,Q⟩=I (J O k)/\u.cell? ⟨w.heap.size,1,Q⟩=I (J O r)/\u.cell? ⟨w.heap.size,2,Q⟩=I (J O c)/\u.cell? ⟨w.heap.size,3,Q⟩=I (J O q))/\u.cell? ⟨w.heap.size+1,0,Q⟩=I (J O len)/\u.cell? ⟨w.heap.size+1,1,Q⟩=I (J O gt)/\u.cell? ⟨w.heap.size+1,2,Q⟩=I (Z ro n rc)):=fun u hu=>⟨ak bi (ap b1 hu),by rw [<- z0];exact⟨ae ci hu 0 rfl,ae ci hu 1 rfl,ae ci hu 2 rfl⟩⟩
 obtain⟨⟨p0,p1,p2,p3⟩,d0,d1,d2⟩:=HP.out _ (D _ _);go_enter Tryz.func177,Tryz.ntmps177
 go_wp2_with fail
 rw [<- bi,<- ci];clear bi ci z0 b0 b1;have HT:=am fun v (hv:Y w1.drew.heap.size w1.drew v)=>aG hv;go_region_held3 (fun v=>(v.cell? ⟨w.heap.size,0,Q⟩=I (J O k)/\v.cell? ⟨w.heap.size,1,Q⟩=I (J O r)/\v.cell? ⟨w.heap.size,2,Q⟩=I (J O c)/\v.cell? ⟨w.heap.size,3,Q⟩=I (J O q))/\v.cell? ⟨w.heap.size+1,0,Q⟩=I (J O len)/\v.cell? ⟨w.heap.size+1,1,Q⟩=I (J O gt)/\v.cell? ⟨w.heap.size+1,2,Q⟩=I (Z ro n rc)) (go_keep)
  ((go_at_call 129;refine(HM _).mono ?_;rintro e wa ⟨rfl,ha⟩;have xA:=HT.out _ ha;obtain⟨⟨q0,q1,q2,q3⟩,f0,f1,f2⟩:=HP.out _ xA))
 have k1:=am xA;clear ha xA p0 p1 p2 p3 d0 d1 d2;go_wp2_with fail
 refine(CS _).mono ?_;rintro e wb ⟨rfl,hb⟩;have k2:=am (ap k1.out hb);clear hb q0 q1 q2 q3 f0 f1 f2;obtain⟨⟨p0,p1,p2,p3⟩,d0,d1,d2⟩:=HP.out _ k2.out;go_wp2_with fail
 refine(CD _).mono ?_;rintro e wc ⟨rfl,hc⟩;have k3:=am (ap k2.out hc);clear hc p0 p1 p2 p3 d0 d1 d2;obtain⟨⟨p0,p1,p2,p3⟩,d0,d1,d2⟩:=HP.out _ k3.out;go_wp2_with fail
 refine(CV _).mono ?_;rintro e wd ⟨rfl,hd⟩;have k4:=am (ap k3.out hd);clear hd p0 p1 p2 p3 d0 d1 d2;obtain⟨⟨p0,p1,p2,p3⟩,d0,d1,d2⟩:=HP.out _ k4.out;go_wp2_with fail
 go_ret;exact⟨rfl,ap io.out k4.out⟩
theorem CI{k r c q:Int}{N W:Nat}(h:Par k r c q N W 0)(w:S)(len gt:Int)(ro:Option F)(n rc:Nat)(hl:0<=len)(FK:len<=(mst W:Int)){s x nn:Nat}(h':Made k r c q len W s 0 x nn 0)(h1:gt=0)(h2:¬ n=s):
  C P 177 #[Pz k r c q,H #[J O len,J O gt,Z ro n rc]] w fun e w'=>e=L (T (X))/\b7 w w':=by
 obtain⟨qC,_⟩:=h.fine;obtain⟨g1,g2,g3,_,_⟩:=h.good qC;have HM:=fun w=>ei k r c q w W g1 g2 g3;have gm:=cq W;generalize mst W=mm at *
 have e1:decide (len<0)=X:=zp za;have e2:decide ((mm:Int)<len)=X:=zp za;have CS:=fun v=>bC h h' v;have CD:=fun v=>cB h h' v;have CV:=fun v=>bO h h' v;have e3:(gt == (0:Int))=B:=by simpa using h1
 have e4:((n:Int) == (s:Int))=X:=by have:¬ (n:Int)=(s:Int):=(by omega);simpa using this
 clear h1 h2;clear h h' qC g1 g2 g3;obtain⟨w0,bi⟩:=jM w k r c q
 obtain⟨w1,ci⟩:=fd (w0.alloc (G #[J O len,J O gt,Z ro n rc] 60))
 have b0:=jt bi
 have b1:=jt ci
 have z0:=ks bi
 have io:=am (ap b0 b1);have HP:U (∀ u,b7 w1 u->(u.cell? ⟨w.heap.size,0,Q⟩=I (J O k)/\u.cell? ⟨w.heap.size,1,Q⟩=I (J O r)/\u.cell? ⟨w.heap.size,2,Q⟩=I (J O c)/\u.cell? ⟨w.heap.size,3,Q⟩=I (J O q))/\u.cell? ⟨w.heap.size+1,0,Q⟩=I (J O len)/\u.cell? ⟨w.heap.size+1,1,Q⟩=I (J O gt)/\u.cell? ⟨w.heap.size+1,2,Q⟩=I (Z ro n rc)):=fun u hu=>⟨ak bi (ap b1 hu),by rw [<- z0];exact⟨ae ci hu 0 rfl,ae ci hu 1 rfl,ae ci hu 2 rfl⟩⟩
 obtain⟨⟨p0,p1,p2,p3⟩,d0,d1,d2⟩:=HP.out _ (D _ _);go_enter Tryz.func177,Tryz.ntmps177
 go_wp2_with fail
 rw [<- bi,<- ci];clear bi ci z0 b0 b1;have HT:=am fun v (hv:Y w1.drew.heap.size w1.drew v)=>aG hv;go_region_held3 (fun v=>(v.cell? ⟨w.heap.size,0,Q⟩=I (J O k)/\v.cell? ⟨w.heap.size,1,Q⟩=I (J O r)/\v.cell? ⟨w.heap.size,2,Q⟩=I (J O c)/\v.cell? ⟨w.heap.size,3,Q⟩=I (J O q))/\v.cell? ⟨w.heap.size+1,0,Q⟩=I (J O len)/\v.cell? ⟨w.heap.size+1,1,Q⟩=I (J O gt)/\v.cell? ⟨w.heap.size+1,2,Q⟩=I (Z ro n rc)) (go_keep)
  ((go_at_call 129;refine(HM _).mono ?_;rintro e wa ⟨rfl,ha⟩;have xA:=HT.out _ ha;obtain⟨⟨q0,q1,q2,q3⟩,f0,f1,f2⟩:=HP.out _ xA))
 have k1:=am xA;clear ha xA p0 p1 p2 p3 d0 d1 d2;go_wp2_with fail
 refine(CS _).mono ?_;rintro e wb ⟨rfl,hb⟩;have k2:=am (ap k1.out hb);clear hb q0 q1 q2 q3 f0 f1 f2;obtain⟨⟨p0,p1,p2,p3⟩,d0,d1,d2⟩:=HP.out _ k2.out;go_wp2_with fail
 refine(CD _).mono ?_;rintro e wc ⟨rfl,hc⟩;have k3:=am (ap k2.out hc);clear hc p0 p1 p2 p3 d0 d1 d2;obtain⟨⟨p0,p1,p2,p3⟩,d0,d1,d2⟩:=HP.out _ k3.out;go_wp2_with fail
 refine(CV _).mono ?_;rintro e wd ⟨rfl,hd⟩;have k4:=am (ap k3.out hd);clear hd p0 p1 p2 p3 d0 d1 d2;obtain⟨⟨p0,p1,p2,p3⟩,d0,d1,d2⟩:=HP.out _ k4.out;go_wp2_with fail
 go_ret;exact⟨rfl,ap io.out k4.out⟩
theorem AL{k r c q:Int}{N W:Nat}(h:Par k r c q N W 0)(w:S)(len gt:Int)(ro:Option F)(n rc:Nat)(hl:0<=len)(FK:len<=(mst W:Int)){s x nn:Nat}(h':Made k r c q len W s 0 x nn 0)(h1:gt=0)(h2:n=s)(R V:Nat->Int)(hR:RdR w ro n R V)(hn:n<=1000):
  C P 177 #[Pz k r c q,H #[J O len,J O gt,Z ro n rc]] w fun e w'=>e=L (T (okL q n R V))/\b7 w w':=by
 obtain⟨qC,_⟩:=h.fine;obtain⟨g1,g2,g3,_,_⟩:=h.good qC;have HM:=fun w=>ei k r c q w W g1 g2 g3;have gm:=cq W;generalize mst W=mm at *
 have e1:decide (len<0)=X:=zp za;have e2:decide ((mm:Int)<len)=X:=zp za;have CS:=fun v=>bC h h' v;have CD:=fun v=>cB h h' v;have CV:=fun v=>bO h h' v;have e3:(gt == (0:Int))=B:=by simpa using h1
 have e4:((n:Int) == (s:Int))=B:=by rw [h2];simp
 have CR:=fun v hv=>oq k r c q v ro n rc R V hv hn;have HR:=am hR;generalize okL q n R V=ok at *
 clear h1 h2 hR;clear h h' qC g1 g2 g3;obtain⟨w0,bi⟩:=jM w k r c q
 obtain⟨w1,ci⟩:=fd (w0.alloc (G #[J O len,J O gt,Z ro n rc] 60))
 have b0:=jt bi
 have b1:=jt ci
 have z0:=ks bi
 have io:=am (ap b0 b1);have HP:U (∀ u,b7 w1 u->(u.cell? ⟨w.heap.size,0,Q⟩=I (J O k)/\u.cell? ⟨w.heap.size,1,Q⟩=I (J O r)/\u.cell? ⟨w.heap.size,2,Q⟩=I (J O c)/\u.cell? ⟨w.heap.size,3,Q⟩=I (J O q))/\u.cell? ⟨w.heap.size+1,0,Q⟩=I (J O len)/\u.cell? ⟨w.heap.size+1,1,Q⟩=I (J O gt)/\u.cell? ⟨w.heap.size+1,2,Q⟩=I (Z ro n rc)):=fun u hu=>⟨ak bi (ap b1 hu),by rw [<- z0];exact⟨ae ci hu 0 rfl,ae ci hu 1 rfl,ae ci hu 2 rfl⟩⟩
 obtain⟨⟨p0,p1,p2,p3⟩,d0,d1,d2⟩:=HP.out _ (D _ _);go_enter Tryz.func177,Tryz.ntmps177
 go_wp2_with fail
 rw [<- bi,<- ci];clear bi ci z0 b0 b1;have HT:=am fun v (hv:Y w1.drew.heap.size w1.drew v)=>aG hv;go_region_held3 (fun v=>(v.cell? ⟨w.heap.size,0,Q⟩=I (J O k)/\v.cell? ⟨w.heap.size,1,Q⟩=I (J O r)/\v.cell? ⟨w.heap.size,2,Q⟩=I (J O c)/\v.cell? ⟨w.heap.size,3,Q⟩=I (J O q))/\v.cell? ⟨w.heap.size+1,0,Q⟩=I (J O len)/\v.cell? ⟨w.heap.size+1,1,Q⟩=I (J O gt)/\v.cell? ⟨w.heap.size+1,2,Q⟩=I (Z ro n rc)) (go_keep)
  ((go_at_call 129;refine(HM _).mono ?_;rintro e wa ⟨rfl,ha⟩;have xA:=HT.out _ ha;obtain⟨⟨q0,q1,q2,q3⟩,f0,f1,f2⟩:=HP.out _ xA))
 have k1:=am xA;clear ha xA p0 p1 p2 p3 d0 d1 d2;go_wp2_with fail
 refine(CS _).mono ?_;rintro e wb ⟨rfl,hb⟩;have k2:=am (ap k1.out hb);clear hb q0 q1 q2 q3 f0 f1 f2;obtain⟨⟨p0,p1,p2,p3⟩,d0,d1,d2⟩:=HP.out _ k2.out;go_wp2_with fail
 refine(CD _).mono ?_;rintro e wc ⟨rfl,hc⟩;have k3:=am (ap k2.out hc);clear hc p0 p1 p2 p3 d0 d1 d2;obtain⟨⟨p0,p1,p2,p3⟩,d0,d1,d2⟩:=HP.out _ k3.out;go_wp2_with fail
 refine(CV _).mono ?_;rintro e wd ⟨rfl,hd⟩;have k4:=am (ap k3.out hd);clear hd p0 p1 p2 p3 d0 d1 d2;obtain⟨⟨p0,p1,p2,p3⟩,d0,d1,d2⟩:=HP.out _ k4.out;go_wp2_with fail
 refine(CR _ (HR.out.below (ap io.out k4.out))).mono ?_;rintro e we ⟨rfl,he⟩;have k5:=am (ap k4.out he);clear he;go_wp2_with fail
 go_ret;exact⟨rfl,ap io.out k5.out⟩
theorem tG{k r c q:Int}{N W:Nat}(h:Par k r c q N W 0)(w:S)(len gt:Int)(ro:Option F)(n rc:Nat)(hl:0<=len)(FK:len<=(mst W:Int)){s x nn:Nat}(h':Made k r c q len W s 1 x nn 0)(h1:¬ gt=1):
  C P 177 #[Pz k r c q,H #[J O len,J O gt,Z ro n rc]] w fun e w'=>e=L (T (X))/\b7 w w':=by
 obtain⟨qC,_⟩:=h.fine;obtain⟨g1,g2,g3,_,_⟩:=h.good qC;have HM:=fun w=>ei k r c q w W g1 g2 g3;have gm:=cq W;generalize mst W=mm at *
 have e1:decide (len<0)=X:=zp za;have e2:decide ((mm:Int)<len)=X:=zp za;have CS:=fun v=>bC h h' v;have CD:=fun v=>cB h h' v;have CV:=fun v=>bO h h' v;have e3:(gt == (1:Int))=X:=by simpa using h1
 clear h1;clear h h' qC g1 g2 g3;obtain⟨w0,bi⟩:=jM w k r c q
 obtain⟨w1,ci⟩:=fd (w0.alloc (G #[J O len,J O gt,Z ro n rc] 60))
 have b0:=jt bi
 have b1:=jt ci
 have z0:=ks bi
 have io:=am (ap b0 b1);have HP:U (∀ u,b7 w1 u->(u.cell? ⟨w.heap.size,0,Q⟩=I (J O k)/\u.cell? ⟨w.heap.size,1,Q⟩=I (J O r)/\u.cell? ⟨w.heap.size,2,Q⟩=I (J O c)/\u.cell? ⟨w.heap.size,3,Q⟩=I (J O q))/\u.cell? ⟨w.heap.size+1,0,Q⟩=I (J O len)/\u.cell? ⟨w.heap.size+1,1,Q⟩=I (J O gt)/\u.cell? ⟨w.heap.size+1,2,Q⟩=I (Z ro n rc)):=fun u hu=>⟨ak bi (ap b1 hu),by rw [<- z0];exact⟨ae ci hu 0 rfl,ae ci hu 1 rfl,ae ci hu 2 rfl⟩⟩
 obtain⟨⟨p0,p1,p2,p3⟩,d0,d1,d2⟩:=HP.out _ (D _ _);go_enter Tryz.func177,Tryz.ntmps177
 go_wp2_with fail
 rw [<- bi,<- ci];clear bi ci z0 b0 b1;have HT:=am fun v (hv:Y w1.drew.heap.size w1.drew v)=>aG hv;go_region_held3 (fun v=>(v.cell? ⟨w.heap.size,0,Q⟩=I (J O k)/\v.cell? ⟨w.heap.size,1,Q⟩=I (J O r)/\v.cell? ⟨w.heap.size,2,Q⟩=I (J O c)/\v.cell? ⟨w.heap.size,3,Q⟩=I (J O q))/\v.cell? ⟨w.heap.size+1,0,Q⟩=I (J O len)/\v.cell? ⟨w.heap.size+1,1,Q⟩=I (J O gt)/\v.cell? ⟨w.heap.size+1,2,Q⟩=I (Z ro n rc)) (go_keep)
  ((go_at_call 129;refine(HM _).mono ?_;rintro e wa ⟨rfl,ha⟩;have xA:=HT.out _ ha;obtain⟨⟨q0,q1,q2,q3⟩,f0,f1,f2⟩:=HP.out _ xA))
 have k1:=am xA;clear ha xA p0 p1 p2 p3 d0 d1 d2;go_wp2_with fail
 refine(CS _).mono ?_;rintro e wb ⟨rfl,hb⟩;have k2:=am (ap k1.out hb);clear hb q0 q1 q2 q3 f0 f1 f2;obtain⟨⟨p0,p1,p2,p3⟩,d0,d1,d2⟩:=HP.out _ k2.out;go_wp2_with fail
 refine(CD _).mono ?_;rintro e wc ⟨rfl,hc⟩;have k3:=am (ap k2.out hc);clear hc p0 p1 p2 p3 d0 d1 d2;obtain⟨⟨p0,p1,p2,p3⟩,d0,d1,d2⟩:=HP.out _ k3.out;go_wp2_with fail
 refine(CV _).mono ?_;rintro e wd ⟨rfl,hd⟩;have k4:=am (ap k3.out hd);clear hd p0 p1 p2 p3 d0 d1 d2;obtain⟨⟨p0,p1,p2,p3⟩,d0,d1,d2⟩:=HP.out _ k4.out;go_wp2_with fail
 go_ret;exact⟨rfl,ap io.out k4.out⟩
theorem Cx{k r c q:Int}{N W:Nat}(h:Par k r c q N W 0)(w:S)(len gt:Int)(ro:Option F)(n rc:Nat)(hl:0<=len)(FK:len<=(mst W:Int)){s x nn:Nat}(h':Made k r c q len W s 1 x nn 0)(h1:gt=1)(h2:¬ n=x):
  C P 177 #[Pz k r c q,H #[J O len,J O gt,Z ro n rc]] w fun e w'=>e=L (T (X))/\b7 w w':=by
 obtain⟨qC,_⟩:=h.fine;obtain⟨g1,g2,g3,_,_⟩:=h.good qC;have HM:=fun w=>ei k r c q w W g1 g2 g3;have gm:=cq W;generalize mst W=mm at *
 have e1:decide (len<0)=X:=zp za;have e2:decide ((mm:Int)<len)=X:=zp za;have CS:=fun v=>bC h h' v;have CD:=fun v=>cB h h' v;have CV:=fun v=>bO h h' v;have e3:(gt == (1:Int))=B:=by simpa using h1
 have e4:((n:Int) == (x:Int))=X:=by have:¬ (n:Int)=(x:Int):=(by omega);simpa using this
 clear h1 h2;clear h h' qC g1 g2 g3;obtain⟨w0,bi⟩:=jM w k r c q
 obtain⟨w1,ci⟩:=fd (w0.alloc (G #[J O len,J O gt,Z ro n rc] 60))
 have b0:=jt bi
 have b1:=jt ci
 have z0:=ks bi
 have io:=am (ap b0 b1);have HP:U (∀ u,b7 w1 u->(u.cell? ⟨w.heap.size,0,Q⟩=I (J O k)/\u.cell? ⟨w.heap.size,1,Q⟩=I (J O r)/\u.cell? ⟨w.heap.size,2,Q⟩=I (J O c)/\u.cell? ⟨w.heap.size,3,Q⟩=I (J O q))/\u.cell? ⟨w.heap.size+1,0,Q⟩=I (J O len)/\u.cell? ⟨w.heap.size+1,1,Q⟩=I (J O gt)/\u.cell? ⟨w.heap.size+1,2,Q⟩=I (Z ro n rc)):=fun u hu=>⟨ak bi (ap b1 hu),by rw [<- z0];exact⟨ae ci hu 0 rfl,ae ci hu 1 rfl,ae ci hu 2 rfl⟩⟩
 obtain⟨⟨p0,p1,p2,p3⟩,d0,d1,d2⟩:=HP.out _ (D _ _);go_enter Tryz.func177,Tryz.ntmps177
 go_wp2_with fail
 rw [<- bi,<- ci];clear bi ci z0 b0 b1;have HT:=am fun v (hv:Y w1.drew.heap.size w1.drew v)=>aG hv;go_region_held3 (fun v=>(v.cell? ⟨w.heap.size,0,Q⟩=I (J O k)/\v.cell? ⟨w.heap.size,1,Q⟩=I (J O r)/\v.cell? ⟨w.heap.size,2,Q⟩=I (J O c)/\v.cell? ⟨w.heap.size,3,Q⟩=I (J O q))/\v.cell? ⟨w.heap.size+1,0,Q⟩=I (J O len)/\v.cell? ⟨w.heap.size+1,1,Q⟩=I (J O gt)/\v.cell? ⟨w.heap.size+1,2,Q⟩=I (Z ro n rc)) (go_keep)
  ((go_at_call 129;refine(HM _).mono ?_;rintro e wa ⟨rfl,ha⟩;have xA:=HT.out _ ha;obtain⟨⟨q0,q1,q2,q3⟩,f0,f1,f2⟩:=HP.out _ xA))
 have k1:=am xA;clear ha xA p0 p1 p2 p3 d0 d1 d2;go_wp2_with fail
 refine(CS _).mono ?_;rintro e wb ⟨rfl,hb⟩;have k2:=am (ap k1.out hb);clear hb q0 q1 q2 q3 f0 f1 f2;obtain⟨⟨p0,p1,p2,p3⟩,d0,d1,d2⟩:=HP.out _ k2.out;go_wp2_with fail
 refine(CD _).mono ?_;rintro e wc ⟨rfl,hc⟩;have k3:=am (ap k2.out hc);clear hc p0 p1 p2 p3 d0 d1 d2;obtain⟨⟨p0,p1,p2,p3⟩,d0,d1,d2⟩:=HP.out _ k3.out;go_wp2_with fail
 refine(CV _).mono ?_;rintro e wd ⟨rfl,hd⟩;have k4:=am (ap k3.out hd);clear hd p0 p1 p2 p3 d0 d1 d2;obtain⟨⟨p0,p1,p2,p3⟩,d0,d1,d2⟩:=HP.out _ k4.out;go_wp2_with fail
 go_ret;exact⟨rfl,ap io.out k4.out⟩
theorem wP{k r c q:Int}{N W:Nat}(h:Par k r c q N W 0)(w:S)(len gt:Int)(ro:Option F)(n rc:Nat)(hl:0<=len)(FK:len<=(mst W:Int)){s x nn:Nat}(h':Made k r c q len W s 1 x nn 0)(h1:gt=1)(h2:n=x)(R V:Nat->Int)(hR:RdR w ro n R V)(hn:n<=1000):
  C P 177 #[Pz k r c q,H #[J O len,J O gt,Z ro n rc]] w fun e w'=>e=L (T (okL q n R V))/\b7 w w':=by
 obtain⟨qC,_⟩:=h.fine;obtain⟨g1,g2,g3,_,_⟩:=h.good qC;have HM:=fun w=>ei k r c q w W g1 g2 g3;have gm:=cq W;generalize mst W=mm at *
 have e1:decide (len<0)=X:=zp za;have e2:decide ((mm:Int)<len)=X:=zp za;have CS:=fun v=>bC h h' v;have CD:=fun v=>cB h h' v;have CV:=fun v=>bO h h' v;have e3:(gt == (1:Int))=B:=by simpa using h1
 have e4:((n:Int) == (x:Int))=B:=by rw [h2];simp
 have CR:=fun v hv=>oq k r c q v ro n rc R V hv hn;have HR:=am hR;generalize okL q n R V=ok at *
 clear h1 h2 hR;clear h h' qC g1 g2 g3;obtain⟨w0,bi⟩:=jM w k r c q
 obtain⟨w1,ci⟩:=fd (w0.alloc (G #[J O len,J O gt,Z ro n rc] 60))
 have b0:=jt bi
 have b1:=jt ci
 have z0:=ks bi
 have io:=am (ap b0 b1);have HP:U (∀ u,b7 w1 u->(u.cell? ⟨w.heap.size,0,Q⟩=I (J O k)/\u.cell? ⟨w.heap.size,1,Q⟩=I (J O r)/\u.cell? ⟨w.heap.size,2,Q⟩=I (J O c)/\u.cell? ⟨w.heap.size,3,Q⟩=I (J O q))/\u.cell? ⟨w.heap.size+1,0,Q⟩=I (J O len)/\u.cell? ⟨w.heap.size+1,1,Q⟩=I (J O gt)/\u.cell? ⟨w.heap.size+1,2,Q⟩=I (Z ro n rc)):=fun u hu=>⟨ak bi (ap b1 hu),by rw [<- z0];exact⟨ae ci hu 0 rfl,ae ci hu 1 rfl,ae ci hu 2 rfl⟩⟩
 obtain⟨⟨p0,p1,p2,p3⟩,d0,d1,d2⟩:=HP.out _ (D _ _);go_enter Tryz.func177,Tryz.ntmps177
 go_wp2_with fail
 rw [<- bi,<- ci];clear bi ci z0 b0 b1;have HT:=am fun v (hv:Y w1.drew.heap.size w1.drew v)=>aG hv;go_region_held3 (fun v=>(v.cell? ⟨w.heap.size,0,Q⟩=I (J O k)/\v.cell? ⟨w.heap.size,1,Q⟩=I (J O r)/\v.cell? ⟨w.heap.size,2,Q⟩=I (J O c)/\v.cell? ⟨w.heap.size,3,Q⟩=I (J O q))/\v.cell? ⟨w.heap.size+1,0,Q⟩=I (J O len)/\v.cell? ⟨w.heap.size+1,1,Q⟩=I (J O gt)/\v.cell? ⟨w.heap.size+1,2,Q⟩=I (Z ro n rc)) (go_keep)
  ((go_at_call 129;refine(HM _).mono ?_;rintro e wa ⟨rfl,ha⟩;have xA:=HT.out _ ha;obtain⟨⟨q0,q1,q2,q3⟩,f0,f1,f2⟩:=HP.out _ xA))
 have k1:=am xA;clear ha xA p0 p1 p2 p3 d0 d1 d2;go_wp2_with fail
 refine(CS _).mono ?_;rintro e wb ⟨rfl,hb⟩;have k2:=am (ap k1.out hb);clear hb q0 q1 q2 q3 f0 f1 f2;obtain⟨⟨p0,p1,p2,p3⟩,d0,d1,d2⟩:=HP.out _ k2.out;go_wp2_with fail
 refine(CD _).mono ?_;rintro e wc ⟨rfl,hc⟩;have k3:=am (ap k2.out hc);clear hc p0 p1 p2 p3 d0 d1 d2;obtain⟨⟨p0,p1,p2,p3⟩,d0,d1,d2⟩:=HP.out _ k3.out;go_wp2_with fail
 refine(CV _).mono ?_;rintro e wd ⟨rfl,hd⟩;have k4:=am (ap k3.out hd);clear hd p0 p1 p2 p3 d0 d1 d2;obtain⟨⟨p0,p1,p2,p3⟩,d0,d1,d2⟩:=HP.out _ k4.out;go_wp2_with fail
 refine(CR _ (HR.out.below (ap io.out k4.out))).mono ?_;rintro e we ⟨rfl,he⟩;have k5:=am (ap k4.out he);clear he;go_wp2_with fail
 go_ret;exact⟨rfl,ap io.out k5.out⟩
theorem nO{k r c q:Int}{N W:Nat}(h:Par k r c q N W 0)(w:S)(len gt:Int)(ro:Option F)(n rc:Nat)(R V:Nat->Int)(hR:RdR w ro n R V):
  C P 177 #[Pz k r c q,H #[J O len,J O gt,Z ro n rc]] w fun e w'=>e=L (T (okD W q len gt n R V))/\b7 w w':=by
 obtain⟨qC,hW,yY,_⟩:=h.fine;by_cases hl:len<0
 ·rw [show okD W q len gt n R V=X from zp fun h=>by have:=h.1;omega];exact Bq w len gt ro n rc hl
 ·by_cases FK:(mst W:Int)<len
  ·rw [show okD W q len gt n R V=X from zp fun h=>by have:=h.2.1;omega];exact Bs h w len gt ro n rc za FK
  ·obtain⟨s,d,x,nn,er,h'⟩:=cN k r c q len W;have hf:=mE h h';have Lu:=dP yY;rw [iM h h'];have he:er=0:=by
    rcases h' with ⟨_,_,_,_,_,_,_,h3⟩ | ⟨h1,_⟩ | ⟨_,_,h1,_⟩
    ·exact h3
    ·rcases h1 with h1 | h1
     ·rw [qC] at h1;cases h1
     ·omega
    ·omega
   subst he;rcases h'.zero with ⟨_,hd⟩ | ⟨hd,_⟩
   ·rcases (show d=0\/d=1 by omega) with rfl | rfl
    ·by_cases h1:gt=0
     ·by_cases h2:n=s
      ·rw [zm (show (0:Int)=0/\gt=((0:Nat):Int)/\(n:Int)=((cns 0 s x:Nat):Int) from⟨rfl,h1,by rw [h2];rfl⟩),Bool.true_and];exact AL h w len gt ro n rc za za h' h1 h2 R V hR (by have:cns 0 s x=s:=rfl;omega)
      ·rw [zp (fun h=>h2 (by have h3:=h.2.2;have:cns 0 s x=s:=rfl;omega)),Bool.false_and];exact CI h w len gt ro n rc za za h' h1 h2
     ·rw [zp (fun h=>h1 h.2.1),Bool.false_and];exact ud h w len gt ro n rc za za h' h1
    ·by_cases h1:gt=1
     ·by_cases h2:n=x
      ·rw [zm (show (0:Int)=0/\gt=((1:Nat):Int)/\(n:Int)=((cns 1 s x:Nat):Int) from⟨rfl,h1,by rw [h2];rfl⟩),Bool.true_and];exact wP h w len gt ro n rc za za h' h1 h2 R V hR (by have:cns 1 s x=x:=rfl;omega)
      ·rw [zp (fun h=>h2 (by have h3:=h.2.2;have:cns 1 s x=x:=rfl;omega)),Bool.false_and];exact Cx h w len gt ro n rc za za h' h1 h2
     ·rw [zp (fun h=>h1 h.2.1),Bool.false_and];exact tG h w len gt ro n rc za za h' h1
   ·exact absurd rfl hd
end Go.Proofs.YtemlojjkokooeaaGreat.De
