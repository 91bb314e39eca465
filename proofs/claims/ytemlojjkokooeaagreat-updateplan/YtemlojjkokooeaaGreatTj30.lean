import Derived.Deep.DeepMust
import Derived.Test.YtemlojjkokooeaaGreatTj27
set_option maxHeartbeats 4000000
set_option maxRecDepth 100000
namespace Go.Proofs.YtemlojjkokooeaaGreat
open Go.RowKit
def Ans (w:World) (E:Int) (n:Nat) (F:Nat->Int) (e:Ending) (w':World):Prop :=
  ∃ ao cap,e=.returned (.tuple #[.slice ao (lenE E n) cap,.int .i64 E])/\Own w.heap.size w' ao (lenE E n) cap F/\Below w.heap.size w w'
def Cap (wz v:World) (gp:Nat) (ty e sz m:Nat) (xs:List Value) (Y:Nat->Prop):Prop :=
  ∃ ao cap,At wz v gp #[.slice ao m cap] ty/\v.ownsRow wz.heap.size e sz (.slice ao m cap) m xs/\∀ g,Y g ↔ (g=gp\/∃ a:Addr,ao=some a/\g=a.block)
theorem owns_at{w:World}{B e sz n cap:Nat}{ao:Option Addr}{xs:List Value}(h:w.ownsRow B e sz (.slice ao n cap) n xs){a:Addr}(ha:ao=some a):B<=a.block/\a.block<w.heap.size/\∃ cur,w.heap[a.block]? = some (.cells cur e (0,0)):=by
 rcases h.2 with ⟨h1,_⟩ | ⟨g,cap',cur,h1,h2,h3,_⟩
 ·cases h1; cases ha
 ·cases h1; cases ha; exact⟨h2,(Array.getElem?_eq_some_iff.1 h3).1,cur,h3⟩
theorem owns_blocks{w w':World}{B e sz n cap:Nat}{ao:Option Addr}{xs:List Value}(h:w.ownsRow B e sz (.slice ao n cap) n xs)(hb:∀ a:Addr,ao=some a->w'.heap[a.block]? = w.heap[a.block]?):w'.ownsRow B e sz (.slice ao n cap) n xs:=by
 refine⟨h.1,?_⟩;rcases h.2 with h1 | ⟨g,cap',cur,h1,h2,h3,h4⟩
 ·exact .inl h1
 ·cases h1; exact .inr ⟨g,cap,cur,rfl,h2,(hb ⟨g,0,none⟩ rfl).trans h3,h4⟩
theorem owns_below{w w':World}{B e sz n cap:Nat}{ao:Option Addr}{xs:List Value}(h:w.ownsRow B e sz (.slice ao n cap) n xs)(hb:Below w.heap.size w w'):w'.ownsRow B e sz (.slice ao n cap) n xs :=
 owns_blocks h fun _ ha=>hb.block _ (owns_at h ha).2.1
theorem Cap.below{wz v v':World}{gp ty e sz m:Nat}{xs:List Value}{Y:Nat->Prop}(h:Cap wz v gp ty e sz m xs Y)(hb:Below v.heap.size v v'):Cap wz v' gp ty e sz m xs Y:=by
 obtain⟨ao,cap,hA,hO,hY⟩:=h;exact⟨ao,cap,hA.below hb,owns_below hO hb,hY⟩
theorem Cap.at_{wz v:World}{gp ty e sz m:Nat}{xs:List Value}{Y:Nat->Prop}(h:Cap wz v gp ty e sz m xs Y)(g:Nat)(hg:Y g):wz.heap.size<=g/\g<v.heap.size:=by
 obtain⟨ao,cap,hA,hO,hY⟩:=h;rcases (hY g).1 hg with rfl | ⟨a,ha,rfl⟩
 ·exact⟨hA.1,hA.lt⟩
 ·exact⟨(owns_at hO ha).1,(owns_at hO ha).2.1⟩
theorem cap_grow{wz v v1 w':World}{gp ty e sz m cap g cap':Nat}{ao:Option Addr}{xs xs':List Value}{Y:Nat->Prop}(hty:ty ≠ e)(hA:At wz v gp #[.slice ao m cap] ty)(hO:v.ownsRow wz.heap.size e sz (.slice ao m cap) m xs)(hY:∀ g,Y g ↔ (g=gp\/∃ a:Addr,ao=some a/\g=a.block))
  (hb:Below v.heap.size v v1) (hg:v1.grownBy w' (Value.slice ao m cap).ownBlock) (ho:w'.ownsRow wz.heap.size e sz (.slice (some ⟨g,0,none⟩) (m+1) cap') (m+1) xs') (hgg:(Value.slice ao m cap).ownBlock=some g\/g=v1.heap.size) :
  Cap wz (w'.setCell ⟨gp,0,none⟩ (.slice (some ⟨g,0,none⟩) (m+1) cap')) gp ty e sz (m+1) xs' (fun x=>x=gp\/x=g)/\Only Y v (w'.setCell ⟨gp,0,none⟩ (.slice (some ⟨g,0,none⟩) (m+1) cap'))/\∀ x,(x=gp\/x=g)->Y x\/v.heap.size<=x:=by
 have hs:=hb.size;have hlt:=hA.lt;have hne:∀ a:Addr,ao=some a->a.block ≠ gp:=fun a ha e1=>by
  obtain⟨_,_,cur,hc⟩:=owns_at hO ha;rw [e1,hA.2] at hc;cases hc
  exact hty rfl
 have hgne:g ≠ gp:=by
  rcases hgg with e1 | e1
  ·cases ao with
   | none=>cases e1
   | some a=>cases e1; exact hne a rfl
  ·omega
 have hA':At wz w' gp #[.slice ao m cap] ty:=⟨hA.1,by
  rw [hg.block gp (by omega) (fun e1=>by
   cases ao with
   | none=>cases e1
   | some a=>cases e1; exact hne a rfl rfl),hb.block gp hlt]
  exact hA.2⟩
 refine⟨⟨some ⟨g,0,none⟩,cap',?_,?_,fun x=>?_⟩,⟨?_,?_,?_,?_,fun x hx hy=>?_⟩,fun x hx=>?_⟩
 ·exact hA'.set 0 _
 ·exact owns_blocks ho fun a ha=>by cases ha; exact Below.heap_setCell _ _ _ _ (by simpa using hgne)
 ·constructor
  ·rintro(h | h)
   ·exact .inl h
   ·exact .inr ⟨_,rfl,h⟩
  ·rintro(h | ⟨a,ha,h⟩)
   ·exact .inl h
   ·cases ha; exact .inr h
 ·exact hg.os.trans hb.os
 ·exact hg.tape.trans hb.tape
 ·exact hg.output.trans hb.output
 ·have:=hg.size; simp [World.setCell]; omega
 ·have hxgp:x ≠ gp:=fun e1=>hy ((hY x).2 (.inl e1));rw [Below.heap_setCell _ _ _ _ (by simpa using hxgp),hg.block x (by omega) (fun e1=>by
   cases ao with
   | none=>cases e1
   | some a=>cases e1; exact hy ((hY _).2 (.inr ⟨a,rfl,rfl⟩))),hb.block x hx]
 ·rcases hx with h | h
  ·exact .inl ((hY x).2 (.inl h))
  ·subst h;rcases hgg with e1 | e1
   ·cases ao with
    | none=>cases e1
    | some a=>cases e1; exact .inl ((hY _).2 (.inr ⟨a,rfl,rfl⟩))
   ·exact .inr (by omega)
def lz (z:Nat->Sl) (i:Nat):Nat:=if (z i).ce=0 then 0 else 1
def ct (z:Nat->Sl) (d:Nat):Nat:=Cod.cnt (lz z) d
def se (z:Nat->Sl) (d:Nat):Nat->Int:=fun t=>((Cod.sel (lz z) d t:Nat):Int)
theorem ct_le(z:Nat->Sl)(d:Nat):ct z d<=d:=Cod.cnt_le _ _
theorem se_skip{z:Nat->Sl}{d:Nat}(h:(z d).ce=0):ct z (d+1)=ct z d/\se z (d+1)=se z d:=by
 have:lz z d=0:=if_pos h;refine⟨Cod.cnt_skip this,?_⟩;unfold se; rw [Cod.sel_skip this]
def zv (N:Nat) (c:Int) (L:Nat->Nat) (F:Nat->Nat->UInt8) (kd:UInt8) (v:Int) (i:Nat):Sl:=zz (yy N c L F) kd (tS (yy N c L F) kd v (2*N)) i
theorem cap_new{wz v v':World}{gp ty e sz:Nat}(hb:Below wz.heap.size wz v)(hv:v'=v.alloc (.cells #[.slice none 0 0] ty))(hg:v.heap.size=gp):Cap wz v' gp ty e sz 0 [] (fun x=>x=gp):=by
 refine⟨none,0,by rw [<- hg]; exact at_made hb hv,World.ownsRow_nil _ _ _ _,fun g=>⟨fun h=>.inl h,fun h=>?_⟩⟩;rcases h with h | ⟨a,ha,_⟩
 ·exact h
 ·cases ha
def toK (u:UInt8):Cod.K:=⟨u.toNat,u.toNat_lt⟩
def bK (a:Cod.K):UInt8:=UInt8.ofNat (Cod.K.n a)
theorem bK_n(a:Cod.K):(bK a).toNat=Cod.K.n a:=by
 have:=Cod.K.lt a;unfold bK; simp; omega
theorem bK_toK(u:UInt8):bK (toK u)=u:=UInt8.toNat_inj.1 (bK_n (toK u))
theorem toK_bK(a:Cod.K):toK (bK a)=a:=Cod.K.ext (bK_n a)
theorem rd_toK{w:World}{ao:Option Addr}{n:Nat}{F:Nat->UInt8}(h:RdU w ao n F):Cod.Rd w ao n (fun j=>toK (F j)):=h
theorem cells_bK(n:Nat)(f:Nat->Cod.K):Cod.cellsOf n f=byF n (fun j=>bK (f j)):=by
 unfold Cod.cellsOf byF;refine List.map_congr_left fun i _=>?_;rw [bK_n]
def Lz (z:Nat->Sl) (i:Nat):Nat:=(z i).dn
def Hz (z:Nat->Sl) (i j:Nat):Cod.K:=toK ((z i).D j)
def cD (k:Nat) (z:Nat->Sl) (N:Nat):Cod.M:=Cod.dec k (Cod.sel (Lz z) N) (Hz z)
def cH (k:Nat) (z:Nat->Sl) (N:Nat) (i b:Nat):UInt8:=bK (Cod.enc k (cD k z N) i b)
theorem rows_push(d:Nat)(T:Nat->Option Addr)(L U:Nat->Nat)(b:Option Addr)(u:Nat):Cod.rowsOf (d+1) (Cod.put d b T) L (Cod.put d u U)=Cod.rowsOf d T L U ++ [.slice b (L d) u]:=by
 unfold Cod.rowsOf;rw [List.range_succ,List.map_append,List.map_cons,List.map_nil,Cod.put_at,Cod.put_at];congr 1
 refine List.map_congr_left fun i hi=>?_;have:=List.mem_range.1 hi;rw [Cod.put_ne _ _ (by omega),Cod.put_ne _ _ (by omega)]
theorem cap_apart{wz v:World}{gp ty e sz m b t:Nat}{xs:List Value}{Y:Nat->Prop}{cur:Array Value}{f:Nat × Nat}(h:Cap wz v gp ty e sz m xs Y)(hb:v.heap[b]? = some (.cells cur t f))(h1:ty ≠ t)(h2:e ≠ t):¬ Y b:=fun hy=>by
 obtain⟨ao,cap,hA,hO,hY⟩:=h;rcases (hY b).1 hy with rfl | ⟨a,ha,rfl⟩
 ·rw [hA.2] at hb; cases hb; exact h1 rfl
 ·obtain⟨_,_,cur',hc⟩:=owns_at hO ha;rw [hc] at hb; cases hb; exact h2 rfl
theorem owu_stay{wz v v':World}{B n cap gp ty e sz m:Nat}{ao:Option Addr}{F:Nat->UInt8}{xs:List Value}{Y:Nat->Prop}(h:OwU B v ao n cap F)(hc:Cap wz v gp ty e sz m xs Y)(h1:ty ≠ 5)(h2:e ≠ 5)(ho:Only Y v v'):OwU B v' ao n cap F :=
 owns_blocks h fun a ha=>by
  obtain⟨_,hl,cur,hh⟩:=owns_at h ha;exact ho.block _ hl (cap_apart hc hh h1 h2)
def Thr (wz:World) (gp:Nat) (z:Nat->Sl) (d:Nat) (v:World) (Y:Nat->Prop):Prop :=
  ∃ T U,Cap wz v gp 33 36 1 d (Cod.rowsOf d T (Lz z) U) Y/\∀ i,i<d->OwU wz.heap.size v (T i) (Lz z i) (U i) (z i).D
theorem cells1_any (wz v : World) (gp d B : Nat) (z : Nat -> Sl) (Y : Nat -> Prop) (x0 x1 x2 : Value) (hd : d < 16) (ao : Option Addr) (ca : Nat) (bo : Option Addr) (cb : Nat) (h : Thr wz gp z d v Y) (hG : OwU B v bo (z d).dn cb (z d).D) (hB : ∀ g, Y g -> g < B) :
    Calls Tryz.prog 138 #[x2, .agg #[x0, x1], slv (z d) ao ca bo cb, .pointer (some ⟨gp, 0, none⟩)] v fun e v' => e = .returned (.tuple #[]) /\ ∃ Y', Thr wz gp z (d + 1) v' Y' /\ Only Y v v' /\ ∀ g, Y' g -> Y g \/ v.heap.size <= g := by
  unfold slv
  obtain ⟨T, U, ⟨oo, cc, hA, hO, hY⟩, hT⟩ := h
  have hsz : wz.heap.size <= v.heap.size := Nat.le_trans hA.1 (Nat.le_of_lt hA.lt)
  have hBz : wz.heap.size <= B := by have := hB gp ((hY gp).2 (.inl rfl)); have := hA.1; omega
  obtain ⟨v0, hv0⟩ : ∃ v0, v0 = v.alloc (.cells #[x0, x1] 97) := ⟨_, rfl⟩
  obtain ⟨v1, hv1⟩ : ∃ v1, v1 = v0.alloc (.cells #[.int .u8 (((z d).kd.toNat : Nat) : Int), .int .i64 (z d).ix, .int .i64 (z d).ce, .int .i64 (z d).st, .slice ao (z d).vn ca, .slice bo (z d).dn cb] 107) := ⟨_, rfl⟩
  have b0 : Below v.heap.size v v0 := by rw [hv0]; exact bal _ _
  have b1 : Below v.heap.size v v1 := by rw [hv1]; exact bth b0 (bal _ _)
  have z0 : v0.heap.size = v.heap.size + 1 := by rw [hv0]; simp
  obtain ⟨xs, hxs⟩ : ∃ xs, xs = Cod.rowsOf d T (Lz z) U := ⟨_, rfl⟩
  have HX : Hid (xs ++ [.slice bo (z d).dn cb] = Cod.rowsOf (d + 1) (Cod.put d bo T) (Lz z) (Cod.put d cb U)) := by show _ = _; rw [rows_push, hxs]; rfl
  rw [<- hxs] at hO
  obtain ⟨i0, hi, hi0, hi1, hi2⟩ := info_parts Cod.info23c
  have HA : Hid (At wz v gp #[.slice oo d cc] 33) := hA
  have HO : Hid (v.ownsRow wz.heap.size 36 1 (.slice oo d cc) d xs) := hO
  have HY : Hid (∀ g, Y g ↔ (g = gp \/ ∃ a : Addr, oo = some a /\ g = a.block)) := hY
  have HB : Hid (Below v.heap.size v v1) := b1
  have HZ1 : Hid (v1.heap.size = v.heap.size + 1 + 1) := by show _ = _; rw [hv1]; simp [z0]
  have HT : Hid (∀ i, i < d -> OwU wz.heap.size v (T i) (Lz z i) (U i) (z i).D) := hT
  have HG : Hid (OwU wz.heap.size v bo (z d).dn cb (z d).D) := hG.mono hBz
  have sg := fun o o' => ((hA.alloc o).alloc o').cell (i := 0) rfl
  clear hA hO hY b0 b1 z0 hT hG hB hBz hxs
  go_enter Tryz.func138, Tryz.ntmps138
  go_wp2_with (at_builtin; rw [<- hv0, <- hv1]; clear hv0 hv1; refine wpList_append_lies _ (by rfl) (.tmp 7) (.tmp 10) 33 (by rfl) wz.heap.size 36 i0 (.slice none 0 0) 1 24 Tryz.underlying33 hi hi0 hi1 hi2 (by rfl) (by decide) (.slice oo d cc) d xs (by rfl) (owns_below HO.out (bth HB.out (bal _ _))) ⟨v.heap.size + 1 + 1, 0, none⟩ 1 1 [.slice bo (z d).dn cb] (by rfl) (by rfl) (by rw [<- HZ1.out]; exact World.news_of_block (heap_alloc_new v1 _)) (by simp [Value.oneCell']) (by decide) (by unfold maxLen; omega) (by omega) (by have := HB.out.size; simp; omega) (v1.heap.size + 1) (by simp) ?_; intro g5 cap5 w5 hown5 hgrow5 hgg5 _
               have hall := cap_grow (by decide) HA.out HO.out HY.out (bth HB.out (bal v1 _)) hgrow5 hown5 (by rcases hgg5 with a | a; exact .inl a; exact .inr (by rw [a]; simp))
               have hg1 := hgrow5.block gp (by have := HA.out.lt; have := HB.out.size; simp; omega) (fun e1 => by
                 cases oo with
                 | none => cases e1
                 | some a =>
                   cases e1
                   obtain ⟨_, _, cur, hc⟩ := owns_at HO.out rfl
                   rw [HA.out.2] at hc
                   cases hc)
               have hAt5 : At wz w5 gp #[.slice oo d cc] 33 := ⟨HA.out.1, hg1.trans (((HA.out.below HB.out).alloc _).2)⟩
               have t0 := hAt5.cell (i := 0) rfl
               have tf := hAt5.free
               have HALL : Hid _ := hall
               clear hall hg1 hAt5 hown5 hgrow5 hgg5)
  refine bodyPost_end (results_none rfl _ _ _) rfl ?_
  refine ⟨rfl, _, ⟨Cod.put d bo T, Cod.put d cb U, by rw [<- HX.out]; exact HALL.out.1, fun i hi => ?_⟩, HALL.out.2.1, HALL.out.2.2⟩
  have hcap : Cap wz v gp 33 36 1 d xs Y := ⟨oo, cc, HA.out, HO.out, HY.out⟩
  by_cases e : i = d
  · subst e
    rw [Cod.put_at, Cod.put_at]
    exact owu_stay HG.out hcap (by decide) (by decide) HALL.out.2.1
  · rw [Cod.put_ne _ _ e, Cod.put_ne _ _ e]
    exact owu_stay (HT.out i (by omega)) hcap (by decide) (by decide) HALL.out.2.1
structure Cls (B:Nat) (w:World) (ao:Option Addr) (n cap m:Nat) (T:Nat->Option Addr) (U:Nat->Nat) (H:Nat->Nat->UInt8):Prop where
  out:w.ownsRow B 36 1 (.slice ao n cap) n (Cod.rowsOf n T (fun _=>m) U)
  row:∀ i,i<n->OwU B w (T i) m (U i) (H i)
  apart:∀ i j a b,i<n->j<n->i ≠ j->T i=some a->T j=some b->a.block ≠ b.block
theorem cls_of{B:Nat}{w:World}{ao:Option Addr}{n cap m:Nat}{T:Nat->Option Addr}{U:Nat->Nat}{H:Cod.M}(h:Cod.Copied w B n (.slice ao n cap) T (fun _=>m) U H):Cls B w ao n cap m T U (fun i b=>bK (H i b)) :=
 ⟨h.out,fun i hi=>by have:=h.row i hi; rw [cells_bK] at this; exact this,h.apart⟩
theorem cls_nil(B:Nat)(w:World)(m:Nat)(T:Nat->Option Addr)(U:Nat->Nat)(H:Nat->Nat->UInt8):Cls B w none 0 0 m T U H:=⟨World.ownsRow_nil _ _ _ _,fun i hi=>absurd hi (by omega),fun i _ _ _ hi=>absurd hi (by omega)⟩
theorem Cls.below{B:Nat}{w w':World}{ao:Option Addr}{n cap m:Nat}{T:Nat->Option Addr}{U:Nat->Nat}{H:Nat->Nat->UInt8}(h:Cls B w ao n cap m T U H)(hb:Below w.heap.size w w'):Cls B w' ao n cap m T U H :=
 ⟨owns_below h.out hb,fun i hi=>(h.row i hi).below hb,h.apart⟩
theorem Cls.mono{B B':Nat}{w:World}{ao:Option Addr}{n cap m:Nat}{T:Nat->Option Addr}{U:Nat->Nat}{H:Nat->Nat->UInt8}(h:Cls B w ao n cap m T U H)(hb:B'<=B):Cls B' w ao n cap m T U H:=by
 refine⟨⟨h.out.1,?_⟩,fun i hi=>(h.row i hi).mono hb,h.apart⟩;rcases h.out.2 with h1 | ⟨g,cap',cur,h1,h2,h3⟩
 ·exact .inl h1
 ·exact .inr ⟨g,cap',cur,h1,by omega,h3⟩
def AnsC (w:World) (E:Int) (n m:Nat) (H:Nat->Nat->UInt8) (e:Ending) (w':World):Prop :=
  ∃ ao cap T U,e=.returned (.tuple #[.slice ao (lenE E n) cap,.int .i64 E])/\Cls w.heap.size w' ao (lenE E n) cap m T U H/\Below w.heap.size w w'
def erL (k:Nat) (z:Nat->Sl) (N:Nat):Int:=if k<=Cod.cnt (Lz z) N then 0 else 5
structure Zok (N:Nat) (c:Int) (z:Nat->Sl):Prop where
  dn:∀ i,i<N->((z i).ce=0/\(z i).dn=0)\/((z i).ce ≠ 0/\(z i).dn=c.toNat)
theorem zok_of{N:Nat}{c:Int}{L:Nat->Nat}{F:Nat->Nat->UInt8}{kd:UInt8}{v:Int}:Zok N c (zv N c L F kd v):=⟨fun i hi=>by
 rcases zz_is (kd:=kd) (yy_ok N c L F) (tS (yy N c L F) kd v (2*N)) hi with h | ⟨h,_⟩
 ·unfold zv; rw [h]; exact .inl ⟨rfl,rfl⟩
 ·refine .inr ⟨(ok_of h.1).ne,?_⟩;have:=(ok_of h.1).dn;unfold zv;omega⟩
theorem lz_zero{N:Nat}{c:Int}{z:Nat->Sl}(h:Zok N c z)(hc:8<=c){i:Nat}(hi:i<N):Lz z i=0 ↔ lz z i=0:=by
 unfold Lz lz;rcases h.dn i hi with ⟨a,b⟩ | ⟨a,b⟩
 ·rw [if_pos a,b]
 ·rw [if_neg a,b]; constructor
  ·intro e; omega
  ·intro e; exact absurd e (by decide)
theorem cnt_ct{N:Nat}{c:Int}{z:Nat->Sl}(h:Zok N c z)(hc:8<=c):Cod.cnt (Lz z) N=ct z N/\Cod.sel (Lz z) N=Cod.sel (lz z) N:=by
 have:=Cod.cnt_congr (fun i hi=>lz_zero h hc (i:=i) hi);unfold ct Cod.cnt Cod.sel;rw [this]; exact⟨rfl,rfl⟩
theorem dec_ans{k r c q:Int}{N W:Nat}(h:Par k r c q N W 0)(z:Nat->Sl)(hz:Zok N c z)(w:World)(lo:Option Addr)(cl:Nat)(T:Nat->Option Addr)(U:Nat->Nat)(hl:Cod.Lst w lo N T U (Lz z) (Hz z)):
  Calls Tryz.prog 139 #[.int .i64 k,.int .i64 r,.slice lo N cl] w (AnsC w (erL k.toNat z N) N c.toNat (cH k.toNat z N)):=by
 have HD:=Cod.Decode_any w k r lo N cl T U (Lz z) (Hz z) hl;obtain⟨hc1,hc2⟩:=h.cell rfl;rcases h with ⟨hm,_,hN,_⟩ | ⟨_,_,_,h0⟩
 ·obtain⟨h1,h2,h3,h4,h5,h6,h7,h8,h9⟩:=may_true hm;have hL:∀ i,i<N->Lz z i=0\/Lz z i=c.toNat:=fun i hi=>by
   rcases hz.dn i hi with ⟨_,a⟩ | ⟨_,a⟩
   ·exact .inl a
   ·exact .inr a
  obtain⟨g1,g2⟩:=Cod.okT_of (show c.toNat ≠ 0 by omega) (by omega) hL;have e1:Cod.mayB k r=true:=decide_eq_true (by omega);have e2:Cod.okC N (Lz z) (k+r)=true:=by unfold Cod.okC; rw [g1]; simp; omega
  have e3:k.toNat+r.toNat=N:=by omega
  rw [e1,e2,e3] at HD;unfold AnsC erL;by_cases hk:k.toNat<=Cod.cnt (Lz z) N
  ·have e4:Cod.okDec N (Lz z) k r=true:=by unfold Cod.okDec; rw [e1,e2]; simp; omega
   have e5:Cod.len0 (Lz z) N=c.toNat:=by
    rcases Cod.len0_sel (Lz z) N with ⟨e,_⟩ | ⟨_,_,e⟩
    ·omega
    ·exact g2.resolve_left e
   rw [e4,e5] at HD;rw [if_pos hk];refine HD.mono ?_;rintro e w' ⟨ao,cap,T',U',rfl,hcop,hb⟩;exact⟨ao,cap,T',U',rfl,cls_of hcop,hb⟩
  ·have e4:Cod.okDec N (Lz z) k r=false:=by unfold Cod.okDec; rw [decide_eq_false (by omega)]; simp
   rw [e4] at HD;rw [if_neg hk];refine HD.mono ?_;rintro e w' ⟨ao,cap,T',U',rfl,hcop,hb⟩;have hn:ao=none/\cap=0\/True:=.inr trivial;refine⟨ao,cap,T',U',rfl,⟨hcop.out,fun i hi=>absurd hi (by show ¬ i<0; omega),fun i _ _ _ hi=>absurd hi (by show ¬ i<0; omega)⟩,hb⟩
 ·exact absurd h0 (by decide)
theorem cells_any{k r c q:Int}{N W:Nat}(h:Par k r c q N W 0)(w:World)(ro:Option Addr)(rc:Nat)(A:Nat->Option Addr)(L C:Nat->Nat)(F:Nat->Nat->UInt8)(hr:Rw w ro N A L C F)(hL:∀ j,j<2*N->L j=0\/L j=sz N c)(kd:UInt8)(hk:kd=1\/kd=2)(v:Int):
  Calls Tryz.prog 74 #[stv k r c q ro N rc kd,.int .i64 v] w (AnsC w (erL k.toNat (zv N c L F kd v) N) N c.toNat (cH k.toNat (zv N c L F kd v) N)):=by
 have hle:=h.le;obtain⟨z,hz⟩:∃ z,z=zv N c L F kd v:=⟨_,rfl⟩
 have HEA:Hid (∀ wf gp,Below w.heap.size w wf->Cap w wf gp 33 36 1 0 [] (fun x=>x=gp)->Calls Tryz.prog 71 #[stv k r c q ro N rc kd,.int .i64 v,.func (.func 138) #[] #[.pointer (some ⟨gp,0,none⟩)]] wf fun e w'=>e=.returned (.tuple #[])/\∃ Y,Thr w gp z N w' Y/\Only (fun x=>x=gp) wf w'/\∀ g,Y g->g=gp\/wf.heap.size<=g):=fun wf gp hb hc=>by
  rw [hz];refine each_any h w wf hb ro rc A L C F hr hL kd hk v _ rfl 138 _ (Thr w gp (zv N c L F kd v)) ⟨fun _ _=>rfl,fun d a b Y hI hb=>?_,fun d a Y hI g hg=>?_,fun d hd u Y B hI _ hB ao ca bo cb hg=>?_⟩ _ ⟨fun _=>none,fun _=>0,hc,fun i hi=>absurd hi (by omega)⟩
  ·obtain⟨T,U,h1,h2⟩:=hI;exact⟨T,U,h1.below hb,fun i hi=>(h2 i hi).below hb⟩
  ·obtain⟨T,U,h1,_⟩:=hI;exact h1.at_ g hg
  ·exact cells1_any w u gp d B (zv N c L F kd v) Y _ _ _ (by omega) ao ca bo cb hI hg.bec hB
 have HDD:Hid (∀ u lo cl T U,Cod.Lst u lo N T U (Lz z) (Hz z)->Calls Tryz.prog 139 #[.int .i64 k,.int .i64 r,.slice lo N cl] u (AnsC u (erL k.toNat z N) N c.toNat (cH k.toNat z N))):=fun u lo cl T U hl=>dec_ans h z (by rw [hz]; exact zok_of) u lo cl T U hl;rw [<- hz];obtain⟨w0,hw0⟩:∃ w0,w0=w.alloc (.cells #[.int .i64 k,.int .i64 r,.int .i64 c,.int .i64 q,.slice ro N rc,.int .u8 ((kd.toNat:Nat):Int)] 99):=⟨_,rfl⟩
 obtain⟨w1,hw1⟩:∃ w1,w1=w0.alloc (.cells #[.slice none 0 0] 33):=⟨_,rfl⟩
 have b0:Below w.heap.size w w0:=by rw [hw0]; exact bal _ _
 have z0:w0.heap.size=w.heap.size+1:=by rw [hw0]; simp
 have b1:Below w.heap.size w w1:=by rw [hw1]; exact bth b0 (bal _ _)
 have hE2:=HEA.out w1 (w.heap.size+1) b1 (cap_new b0 hw1 z0);have HB1:Hid (Below w.heap.size w w1):=b1;have L0:Hid (At w w1 w.heap.size #[.int .i64 k,.int .i64 r,.int .i64 c,.int .i64 q,.slice ro N rc,.int .u8 ((kd.toNat:Nat):Int)] 99):=(at_made (Below.refl _ _) hw0).below (by rw [hw1]; exact bal _ _);clear h hr hL hk hz b0 b1 z0 HEA;unfold AnsC at HDD ⊢;unfold stv at hE2 ⊢;go_enter Tryz.func74,Tryz.ntmps74
 go_wp2_with fail
 rw [<- hw0,<- hw1];clear hw0 hw1;refine hE2.mono ?_;rintro e wf ⟨rfl,Y,⟨T,U,⟨ao,cap,hAt,hown,_⟩,hT⟩,hO,_⟩;have q0:At w wf w.heap.size _ 99:=L0.out.only hO (by omega);have p0:=q0.cell (i:=0) rfl;have p1:=q0.cell (i:=1) rfl;have s0:=hAt.cell (i:=0) rfl;have hD:=HDD.out wf ao cap T U (Cod.owns_lst hown (fun i hi=>rd_toK (hT i hi).bec.rd));have HBF:Hid (Below w.heap.size w wf):=HB1.out.trans (hO.below (fun i hi=>by omega) HB1.out.size);clear hO hAt hown hT q0;go_wp2_with fail
 refine hD.mono ?_;rintro e wd ⟨ao',cap',T',U',rfl,hc',hb'⟩;go_wp2_with fail
 go_ret2;exact⟨ao',cap',T',U',rfl,hc'.mono HBF.out.size,bth HBF.out hb'⟩
end Go.Proofs.YtemlojjkokooeaaGreat
