import Derived.Test.YtemlojjkokooeaaGreatTj39
import Derived.Test.YtemlojjkokooeaaGreatTj40
set_option maxHeartbeats 8000000
set_option maxRecDepth 100000
namespace Go.Proofs.YtemlojjkokooeaaGreat
open Go.RowKit
theorem Cls.push{B B':Nat}{w w':World}{ao:Option Addr}{n cap g cap' d u m:Nat}{T:Nat->Option Addr}{U:Nat->Nat}{H:Nat->Nat->UInt8}(h:Cls B w ao n cap m T U H)(hd:OwU B' w (some ⟨d,0,none⟩) m u (H n))(hB:B<=B')(hlt:∀ i,i<n->∀ a,T i=some a->a.block<B')
  (hg:w.grownBy w' (Value.slice ao n cap).ownBlock) (ho:w'.ownsRow B 36 1 (.slice (some ⟨g,0,none⟩) (n+1) cap') (n+1) (Cod.rowsOf n T (fun _=>m) U ++ [.slice (some ⟨d,0,none⟩) m u])) (hBd:B'<=d) :
  Cls B w' (some ⟨g,0,none⟩) (n+1) cap' m (Cod.put n (some ⟨d,0,none⟩) T) (Cod.put n u U) H:=by
 have key:∀ {B2:Nat} {x:Option Addr} {c:Nat} {G:Nat->UInt8},OwU B2 w x m c G->OwU B2 w' x m c G:=fun {B2 x c G} hx=>owns_blocks hx fun a ha=>by
  obtain⟨_,k2,cur,k3⟩:=owns_at hx ha;refine hg.block _ k2 fun e=>?_;cases ao with
  | none=>cases e
  | some z =>
   have e2:z.block=a.block:=by simpa [Value.ownBlock] using e.symm
   obtain⟨_,_,cur',k4⟩:=owns_at h.out (a:=z) rfl;rw [e2,k3] at k4;cases k4
 refine⟨?_,fun i hi=>?_,fun i j a b hi hj hij ha hb=>?_⟩
 ·rw [rows_push]; exact ho
 ·by_cases e:i=n
  ·subst e; rw [Cod.put_at,Cod.put_at]; exact(key hd).mono hB
  ·rw [Cod.put_ne _ _ e,Cod.put_ne _ _ e]; exact key (h.row i (by omega))
 ·by_cases e:i=n
  ·subst e;rw [Cod.put_at] at ha;rw [Cod.put_ne _ _ (fun q=>hij q.symm)] at hb;cases ha
   have:=hlt j (by omega) b hb;show d ≠ b.block;omega
  ·rw [Cod.put_ne _ _ e] at ha;by_cases e2:j=n
   ·subst e2;rw [Cod.put_at] at hb;cases hb
    have:=hlt i (by omega) a ha;show a.block ≠ d;omega
   ·rw [Cod.put_ne _ _ e2] at hb; exact h.apart i j a b (by omega) (by omega) hij ha hb
theorem cls_lt{B:Nat}{w:World}{ao:Option Addr}{n cap m:Nat}{T:Nat->Option Addr}{U:Nat->Nat}{H:Nat->Nat->UInt8}(h:Cls B w ao n cap m T U H):∀ i,i<n->∀ a,T i=some a->a.block<w.heap.size:=fun i hi _ ha=>(owns_at (h.row i hi) ha).2.1
theorem Cls.lst{B:Nat}{w:World}{ao:Option Addr}{n cap m:Nat}{T:Nat->Option Addr}{U:Nat->Nat}{H:Nat->Nat->UInt8}(h:Cls B w ao n cap m T U H):Cod.Lst w ao n T U (fun _=>m) (fun i b=>toK (H i b)) :=
 Cod.owns_lst h.out fun i hi=>rd_toK (h.row i hi).bec.rd
theorem own_owu{w:World}{g n u:Nat}{f:Nat->Cod.K}(h:Cod.Own w g n u f):OwU g w (some ⟨g,0,none⟩) n u (fun b=>bK (f b)):=by
 have:=Cod.own_owns h;rw [cells_bK] at this;exact this
theorem of_good(w:World)(ao bo:Option Addr)(m ca cb:Nat)(F G:Nat->UInt8)(hF:Bec w ao m ca F)(hG:Bec w bo m cb G)(hm:1<=m)(hm2:m<=64):
  Calls Tryz.prog 161 #[.slice ao m ca,.slice bo m cb] w fun e w'=>∃ g u,e=.returned (.tuple #[.slice (some ⟨g,0,none⟩) m u,.int .i64 0])/\w.heap.size<=g/\OwU w.heap.size w' (some ⟨g,0,none⟩) m u (fun b=>bK (Cod.K.add (toK (F b)) (toK (G b))))/\Below w.heap.size w w':=by
 refine(Cod.Of_any w ao bo m ca m cb _ _ (rd_toK hF.rd) (rd_toK hG.rd)).mono ?_;rintro e w' ⟨xo,cap,rfl,hs,hb⟩;have e1:Cod.okOf m m=true:=decide_eq_true fun i _=>by
  have hx:∀ i,Cod.duo m m i=m:=fun i=>by unfold Cod.duo; split <;> rfl
  rw [hx,hx];exact⟨hm,by omega,rfl⟩
 have e2:Cod.lenB (Cod.okOf m m) m=m:=by rw [e1]; rfl
 have e3:Cod.errB (Cod.okOf m m) 40=0:=by rw [e1]; rfl
 rw [e2] at hs;rcases hs with ⟨_,h0,_⟩ | ⟨g,rfl,h1,h2,h3⟩
 ·omega
 ·exact⟨g,cap,by rw [e2,e3],h1,(own_owu h3).mono h1,hb⟩
def dlt (D:Nat->Int) (H F:Nat->Nat->UInt8) (j b:Nat):Cod.K:=Cod.K.add (toK (H (D j).toNat b)) (toK (F j b))
def nwP (K n:Nat) (D:Nat->Int) (H F:Nat->Nat->UInt8) (i b:Nat):UInt8:=bK (Cod.upd K n D (dlt D H F) (fun i b=>toK (H (K+i) b)) i b)
theorem all_good{K R n m:Nat}(w:World)(po:Option Addr)(pc:Nat)(PA:Nat->Option Addr)(PC:Nat->Nat)(P:Cod.M)(co:Option Addr)(cc:Nat)(D:Nat->Int)(qo:Option Addr)(dc:Nat)(DA:Nat->Option Addr)(DC:Nat->Nat)(Q:Cod.M)(hK:1<=K)(hK2:K<=12)(hR:R<=4)(hm:1<=m)(hm2:m<=64)(hn:0<n)
  (hp:Cod.Lst w po R PA PC (fun _=>m) P) (hpn:po=none->R=0/\pc=0) (hcr:Cod.RdI w co n D) (hcc:n<=cc) (hq:Cod.Lst w qo n DA DC (fun _=>m) Q) (hg:gdB D (K:Int) n) :
  Calls Tryz.prog 162 #[.int .i64 (K:Int),.int .i64 (R:Int),.slice po R pc,.slice co n cc,.slice qo n dc] w fun e w'=>∃ ao cap,e=.returned (.tuple #[.slice ao R cap,.int .i64 0])/\Cod.Ans w w' ao R cap m (Cod.upd K n D Q P)/\Below w.heap.size w w':=by
 have hqn:qo=none->n=0/\dc=0:=fun e=>by obtain⟨b,off,e',_⟩:=hq.at_ hn; rw [e] at e'; cases e'
 have hnK:(n:Int)<=(K:Int):=by
  have key:∀ j,j<n->(j:Int)<=D j:=fun j=>by
   induction j with
   | zero=>intro h; exact(gd_ge hg h).1
   | succ j ih=>intro h; have:=ih (by omega); have:=gd_lt hg (j+1) j (by omega) h; omega
  have h1:=key (n-1) (by omega);have h2:=(gd_ge hg (show n-1<n by omega)).2;omega
 have e0:Cod.okAll (K:Int) (R:Int) R (fun _=>m) n D n (fun _=>m)=true:=by
  refine Cod.okAll_of (decide_eq_true (by omega)) rfl (decide_eq_true fun i _=>⟨hm,show m<=65536 by omega,rfl⟩) ?_ rfl ?_
  ·refine decide_eq_true ⟨hnK,fun i hi=>⟨gd_ge hg hi,fun j hj=>?_⟩⟩;have:=gd_lt hg i j hj hi;omega
  ·refine decide_eq_true fun i _=>?_;have:∀ x,Cod.cat R (fun _=>m) (fun _=>m) x=m:=fun x=>by unfold Cod.cat; split <;> rfl
   rw [this,this];exact⟨hm,by omega,rfl⟩
 refine(Cod.All_any w (K:Int) (R:Int) po R pc PA PC (fun _=>m) P co n cc D qo n dc DA DC (fun _=>m) Q hp hpn hcr hcc hq hqn).mono ?_;rintro e w' ⟨ao,cap,rfl,hs,hb⟩;rw [e0] at hs ⊢;rw [Int.toNat_natCast] at hs;exact⟨ao,cap,rfl,hs,hb⟩
theorem owns_kept{w w1 w2:World}{B B' e e' s s' n n' cap cap':Nat}{ao bo:Option Addr}{xs ys:List Value}(h:w.ownsRow B e s (.slice ao n cap) n xs)(k:w.ownsRow B' e' s' (.slice bo n' cap') n' ys)(he:e ≠ e')(hb:Below w.heap.size w w1)(hg:w1.grownBy w2 (Value.slice bo n' cap').ownBlock):w2.ownsRow B e s (.slice ao n cap) n xs :=
 owns_blocks h fun a ha=>by
  obtain⟨_,k2,cur,k3⟩:=owns_at h ha;refine(hg.block _ (Nat.lt_of_lt_of_le k2 hb.size) fun q=>?_).trans (hb.block _ k2);cases bo with
  | none=>cases q
  | some z =>
   have e2:z.block=a.block:=by simpa [Value.ownBlock] using q.symm
   obtain⟨_,_,cur',k4⟩:=owns_at k (a:=z) rfl;rw [e2,k3] at k4
   injection k4 with k5
   injection k5 with _ k6 _
   exact he k6
theorem Cls.kept{w w1 w2:World}{B B' e' s' n n' cap cap' m:Nat}{ao bo:Option Addr}{T:Nat->Option Addr}{U:Nat->Nat}{H:Nat->Nat->UInt8}{ys:List Value}(h:Cls B w ao n cap m T U H)(k:w.ownsRow B' e' s' (.slice bo n' cap') n' ys)(h1:36 ≠ e')(h2:5 ≠ e')(hb:Below w.heap.size w w1)(hg:w1.grownBy w2 (Value.slice bo n' cap').ownBlock):Cls B w2 ao n cap m T U H :=
 ⟨owns_kept h.out k h1 hb hg,fun i hi=>owns_kept (h.row i hi) k h2 hb hg,h.apart⟩
theorem parity_any {K R m : Nat} (q : Int) (w : World) (B : Nat) (oo : Option Addr) (oc : Nat) (T : Nat -> Option Addr) (U : Nat -> Nat) (H : Nat -> Nat -> UInt8) (hold : Cls B w oo (K + R) oc m T U H) (lo : Option Addr) (n lc : Nat) (D : Nat -> Int) (A : Nat -> Option Addr) (C : Nat -> Nat) (F : Nat -> Nat -> UInt8) (hl : Chl w lo n lc D A (fun _ => m) C F) (hg : gdB D (K : Int) n) (hn : 0 < n) (hn2 : n <= 12) (hK : 1 <= K) (hK2 : K <= 12) (hR : R <= 4) (hm : 1 <= m) (hm2 : m <= 64) :
    Calls Tryz.prog 94 #[.agg #[.int .i64 (K : Int), .int .i64 (R : Int), .int .i64 (m : Int), .int .i64 q], .slice oo (K + R) oc, .slice lo n lc] w fun e w' => ∃ ao cap T' U', e = .returned (.slice ao R cap) /\ Chs w.heap.size w' ao R cap (fun i => ((K + i : Nat) : Int)) T' (fun _ => m) U' (nwP K n D H F) /\ Below w.heap.size w w' := by
  obtain ⟨j0, hj, hj0, hj1, hj2⟩ := info_parts info33
  obtain ⟨k0, hk, hk0, hk1, hk2⟩ := info_parts Cod.info23c
  obtain ⟨i0, hi, hi0, hi1, hi2⟩ := info_parts info3
  obtain ⟨w0, hw0⟩ : ∃ w0, w0 = w.alloc (.cells #[.int .i64 (K : Int), .int .i64 (R : Int), .int .i64 (m : Int), .int .i64 q] 23) := ⟨_, rfl⟩
  have B0 : Hid (Below w.heap.size w w0) := by show Below _ _ _; rw [hw0]; exact bal _ _
  have HPAR : Hid (∀ v, Below w0.heap.size w0 v -> v.cell? ⟨w.heap.size, 0, none⟩ = some (.int .i64 (K : Int)) /\ v.cell? ⟨w.heap.size, 1, none⟩ = some (.int .i64 (R : Int)) /\ v.cell? ⟨w.heap.size, 2, none⟩ = some (.int .i64 (m : Int)) /\ v.cell? ⟨w.heap.size, 3, none⟩ = some (.int .i64 q)) := fun v hv => par_held hw0 hv
  have HOLD : Hid (∀ v, Below w.heap.size w v -> Cls B v oo (K + R) oc m T U H) := fun v hv => hold.below hv
  have HLL : Hid (∀ v, Below w.heap.size w v -> Chl v lo n lc D A (fun _ => m) C F) := fun v hv => hl.below hv
  have HG : Hid (gdB D (K : Int) n) := hg
  have hoc := hold.room
  obtain ⟨go, rfl⟩ : ∃ go, oo = some ⟨go, 0, none⟩ := by
    rcases hold.out.2 with ⟨_, e⟩ | ⟨g, _, _, e, _⟩
    · omega
    · cases e; exact ⟨g, rfl⟩
  have HOC : Hid (∀ v, Below w.heap.size w v -> ∀ i, i < K + R -> v.cell? ⟨go, i, none⟩ = some (.slice (T i) m (U i))) := fun v hv i hi => by
    have := (hold.below hv).out.cells (g := go) rfl _ _ (Cod.rowsOf_get _ _ _ _ i hi)
    rw [Addr.add_lit, Nat.zero_add] at this
    exact this
  clear hold hl hg
  go_enter Tryz.func94, Tryz.ntmps94
  go_wp2_with fail
  rw [<- hw0]
  clear hw0
  go_wp2_with fail
  go_loopw [7, 8, 20] (fun nm dl y wr => ∃ i : Nat, i <= n /\ y = .int .i64 (i : Int) /\ ∃ ao ca bo cb T' U', nm = .slice ao i ca /\ dl = .slice bo i cb /\ Hid (Own w0.heap.size wr ao i ca D) /\ Hid (Cls w0.heap.size wr bo i cb m T' U' (fun j b => bK (dlt D H F j b))) /\ Hid (Below w0.heap.size w0 wr)) (fun _ _ y _ => n - (intOf y).toNat)
  case atStart => exact ⟨0, Nat.zero_le _, rfl, none, 0, none, 0, fun _ => none, fun _ => 0, rfl, rfl, own_nil _ _ _, cls_nil _ _ _ _ _ _, Below.refl _ _⟩
  case round =>
    obtain ⟨i, hi', rfl, ao, ca, bo, cb, T', U', rfl, rfl, hown, hcls, hb⟩ := hrel
    by_cases hlt : i < n
    · obtain ⟨b, off, rfl, hc⟩ := (HLL.out wr (bth B0.out hb.out)).at_ (by omega)
      obtain ⟨c0, c1⟩ := hc i hlt
      obtain ⟨hd0, hd1⟩ := gd_ge HG.out hlt
      obtain ⟨d, hd⟩ := Int.eq_ofNat_of_zero_le hd0
      have HD : Hid (D i = (d : Int)) := hd
      rw [hd] at c0 hd1
      have hdK : d < K + R := by omega
      have i1 : (0 : Int) <= (i : Int) := by omega
      have i2 : (i : Int) < (n : Int) := by omega
      have i3 : (0 : Int) <= (d : Int) := by omega
      have i4 : (d : Int) < (K : Int) + (R : Int) := by omega
      have i5 : (d : Int) < ((K + R : Nat) : Int) := by omega
      obtain ⟨wc, hwc⟩ : ∃ wc, wc = wr.alloc (.cells #[.int .i64 (d : Int), .slice (A i) m (C i)] 124) := ⟨_, rfl⟩
      have bc : Below wr.heap.size wr wc := by rw [hwc]; exact bal _ _
      have HBC : Hid (Below w0.heap.size w0 wc) := bth hb.out bc
      have HCC : Hid (∀ v, Below wc.heap.size wc v -> v.cell? ⟨wr.heap.size, 0, none⟩ = some (.int .i64 (d : Int)) /\ v.cell? ⟨wr.heap.size, 1, none⟩ = some (.slice (A i) m (C i))) := fun v hv => ⟨blk_held hwc hv 0 rfl, blk_held hwc hv 1 rfl⟩
      have HOWN : Hid (Own w0.heap.size wc ao i ca D) := hown.out.below bc
      have HCLS : Hid (Cls w0.heap.size wc bo i cb m T' U' (fun j b => bK (dlt D H F j b))) := hcls.out.below bc
      have BWC : Hid (Below w.heap.size w wc) := bth B0.out HBC.out
      have d0 := HOC.out wc BWC.out d hdK
      have HOF := And.intro trivial (fun u (hu : Below wc.heap.size wc u) => of_good u (T d) (A i) m (U d) (C i) (H d) (F i) (((HOLD.out u (bth BWC.out hu)).row d hdK).bec) ((HLL.out u (bth BWC.out hu)).bec i hlt) hm hm2)
      have HOF : Hid _ := HOF
      obtain ⟨e0, e1⟩ := HCC.out wc (Below.refl _ _)
      clear hc hd hd0 hd1 hown hcls hb bc
      go_wp2_with fail
      rw [<- hwc]
      clear hwc c0 c1
      go_region_held3 (fun v => v.cell? ⟨go, d, none⟩ = some (.slice (T d) m (U d)) /\ v.cell? ⟨wr.heap.size, 0, none⟩ = some (.int .i64 (d : Int)) /\ v.cell? ⟨wr.heap.size, 1, none⟩ = some (.slice (A i) m (C i))) (go_keep)
        ((go_at_call 161; refine (HOF.out.2 _ (bdw _ _)).mono ?_; rintro e wd ⟨g, u, rfl, hgg, hgo, hdd⟩; have f0 := held (w := wc.drew) d0 hdd; have f1 := held (w := wc.drew) e0 hdd; have f2 := held (w := wc.drew) e1 hdd))
      obtain ⟨xs, hxs⟩ : ∃ xs, xs = zOf i D := ⟨_, rfl⟩
      obtain ⟨ys, hys⟩ : ∃ ys, ys = Cod.rowsOf i T' (fun _ => m) U' := ⟨_, rfl⟩
      have BCD : Hid (Below wc.heap.size wc wd) := bth (bdw _ _) hdd
      have HOW2 : Hid (wd.ownsRow w0.heap.size 3 1 (.slice ao i ca) i xs) := by rw [hxs]; exact HOWN.out.below BCD.out
      have HCL2 : Hid (Cls w0.heap.size wd bo i cb m T' U' (fun j b => bK (dlt D H F j b))) := HCLS.out.below BCD.out
      have HGO : Hid (OwU wc.heap.size wd (some ⟨g, 0, none⟩) m u (fun b => bK (dlt D H F i b)) /\ wc.heap.size <= g) := by
        refine ⟨?_, hgg⟩
        unfold dlt
        rw [HD.out, Int.toNat_natCast]
        exact hgo
      have HBD : Hid (Below w0.heap.size w0 wd) := bth HBC.out BCD.out
      have HXS : Hid (xs ++ [.int .i64 (d : Int)] = zOf (i + 1) D) := by show _ = _; rw [zOf_succ, HD.out, hxs]
      have HYS : Hid (ys = Cod.rowsOf i T' (fun _ => m) U') := hys
      have HLT : Hid (∀ j, j < i -> ∀ a, T' j = some a -> a.block < wc.heap.size) := cls_lt HCLS.out
      have HSZ : Hid (w0.heap.size <= wc.heap.size) := HBC.out.size
      clear hgg hgo hdd hxs hys d0 e0 e1
      go_wp2_with (at_builtin; first
        | (refine wpList_append_lies _ (by rfl) (.tmp 35) (.tmp 38) 27 (by rfl) w0.heap.size 3 i0 (.int .i64 0) 1 8 Tryz.underlying27 hi hi0 hi1 hi2 (by rfl) (by decide) (.slice ao i ca) i xs (by rfl) (owns_below HOW2.out (bal _ _)) ⟨wd.heap.size, 0, none⟩ 1 1 [.int .i64 (d : Int)] (by simp [Act.eval]) (by rfl) (World.news_of_block (heap_alloc_new wd _)) (by simp [Value.oneCell']) (by decide) (by unfold maxLen; omega) (by omega) (by have := HBD.out.size; simp; omega) (wd.heap.size + 1) (by simp) ?_; intro g5 cap5 w5 hown5 hgrow5 _ _
           have HO5 : Hid (Own w0.heap.size w5 (some ⟨g5, 0, none⟩) (i + 1) cap5 D) := by show Own _ _ _ _ _ _; unfold Own; rw [<- HXS.out]; exact hown5
           have HCL5 : Hid (Cls w0.heap.size w5 bo i cb m T' U' (fun j b => bK (dlt D H F j b))) := HCL2.out.kept HOW2.out (by decide) (by decide) (bal _ _) hgrow5
           have HGO5 : Hid (OwU wc.heap.size w5 (some ⟨g, 0, none⟩) m u (fun b => bK (dlt D H F i b))) := owns_kept HGO.out.1 HOW2.out (by decide) (bal _ _) hgrow5
           have HB5 : Hid (Below w0.heap.size w0 w5) := (bth HBD.out (bal _ _)).grown hgrow5 (by have := HBD.out.size; simp; omega) (fun r hr => (HOW2.out.lt r hr).1)
           clear hown5 hgrow5)
        | (refine wpList_append_lies _ (by rfl) (.tmp 40) (.tmp 42) 33 (by rfl) w0.heap.size 36 k0 (.slice none 0 0) 1 24 Tryz.underlying33 hk hk0 hk1 hk2 (by rfl) (by decide) (.slice bo i cb) i ys (by rfl) (owns_below (HYS.out ▸ HCL5.out.out) (bal _ _)) ⟨w5.heap.size, 0, none⟩ 1 1 [.slice (some ⟨g, 0, none⟩) m u] (by simp [Act.eval]) (by rfl) (World.news_of_block (heap_alloc_new w5 _)) (by simp [Value.oneCell']) (by decide) (by unfold maxLen; omega) (by omega) (by have := HB5.out.size; simp; omega) (w5.heap.size + 1) (by simp) ?_; intro g6 cap6 w6 hown6 hgrow6 _ _
           have HO6 : Hid (Own w0.heap.size w6 (some ⟨g5, 0, none⟩) (i + 1) cap5 D) := owns_kept HO5.out HCL5.out.out (by decide) (bal _ _) hgrow6
           have HCL6 : Hid (Cls w0.heap.size w6 (some ⟨g6, 0, none⟩) (i + 1) cap6 m (Cod.put i (some ⟨g, 0, none⟩) T') (Cod.put i u U') (fun j b => bK (dlt D H F j b))) := (HCL5.out.below (bal _ _)).push (HGO5.out.below (bal _ _)) HSZ.out HLT.out hgrow6 (HYS.out ▸ hown6) HGO.out.2
           have HB6 : Hid (Below w0.heap.size w0 w6) := (bth HB5.out (bal _ _)).grown hgrow6 (by have := HB5.out.size; simp; omega) (fun r hr => (HCL5.out.out.lt r hr).1)
           clear hown6 hgrow6))
      go_roundw
      case rel => exact ⟨i + 1, by omega, by go_num, _, cap5, _, cap6, _, _, rfl, rfl, HO6.out, HCL6.out, HB6.out⟩
      case measure => simp [intOf]; omega
    · obtain rfl : i = n := by omega
      obtain ⟨wm, rfl⟩ : ∃ x, x = wr := ⟨wr, rfl⟩
      obtain ⟨a0, a1, a2, _⟩ := HPAR.out wm hb.out
      have BWM : Hid (Below w.heap.size w wm) := bth B0.out hb.out
      have HBM : Hid (Below w0.heap.size w0 wm) := hb.out
      have HPL : Hid (∀ v, Below w.heap.size w v -> Cod.Lst v (some ⟨go, K, none⟩) R (fun j => T (K + j)) (fun j => U (K + j)) (fun _ => m) (fun j b => toK (H (K + j) b))) := fun v hv =>
        ⟨fun j hj => rd_toK (((HOLD.out v hv).row (K + j) (by omega)).bec.rd), fun _ => ⟨go, K, rfl, fun j hj => HOC.out v hv (K + j) (by omega)⟩⟩
      have HALL : Hid (∀ u po pc, Below wm.heap.size wm u -> ((po = some ⟨go, K, none⟩) \/ (R = 0 /\ ∃ x, po = some x)) -> Calls Tryz.prog 162 #[.int .i64 (K : Int), .int .i64 (R : Int), .slice po R pc, .slice ao i ca, .slice bo i cb] u fun e w' => ∃ xo cap, e = .returned (.tuple #[.slice xo R cap, .int .i64 0]) /\ Cod.Ans u w' xo R cap m (Cod.upd K i D (dlt D H F) (fun i b => toK (H (K + i) b))) /\ Below u.heap.size u w') := fun u po pc hu hpo => by
        have hq : Cod.Lst u bo i T' U' (fun _ => m) (dlt D H F) := (hcls.out.below hu).lst.congr fun j b _ _ => by rw [toK_bK]
        have hv := (hown.out.below hu).vec
        refine all_good u po pc (fun j => T (K + j)) (fun j => U (K + j)) _ ao ca D bo cb T' U' _ hK hK2 hR hm hm2 hn ?_ ?_ hv.rd hv.room hq HG.out
        · rcases hpo with e | ⟨e, x, rfl⟩
          · rw [e]; exact HPL.out u (bth BWM.out hu)
          · subst e; exact ⟨fun j hj => absurd hj (Nat.not_lt_zero j), fun hp => absurd hp (Nat.lt_irrefl 0)⟩
        · intro e
          rcases hpo with e2 | ⟨_, x, e2⟩ <;> (rw [e] at e2; cases e2)
      have i1 : (0 : Int) <= (K : Int) := by omega
      have i2 : (K : Int) <= (K : Int) + (R : Int) := by omega
      have i3 : (K : Int) <= (oc : Int) := by omega
      have i4 : (K : Int) + (R : Int) <= (oc : Int) := by omega
      clear hown hcls hb
      by_cases hcap : oc = K
      · obtain rfl : R = 0 := by omega
        subst hcap
        go_wp2_with fail
        go_region_held3 (fun v => v.cell? ⟨w.heap.size, 0, none⟩ = some (.int .i64 (oc : Int)) /\ v.cell? ⟨w.heap.size, 1, none⟩ = some (.int .i64 0)) (go_keep)
          ((go_at_call 162; refine (HALL.out _ _ _ (bdw _ _) (.inr ⟨by trivial, _, rfl⟩)).mono ?_; rintro e wd ⟨xo, xc, rfl, hans, hdd⟩; have f0 := held (w := wm.drew) a0 hdd; have f1 := held (w := wm.drew) a1 hdd))
        obtain ⟨T2, U2, hat, hrow, hap⟩ : ∃ (T2 : Nat -> Option Addr) (U2 : Nat -> Nat), (0 < 0 -> ∃ l, xo = some ⟨l, 0, none⟩ /\ ∀ j, j < 0 -> wd.cell? ⟨l, j, none⟩ = some (.slice (T2 j) m (U2 j))) /\ (∀ j, j < 0 -> OwU w.heap.size wd (T2 j) m (U2 j) (nwP oc i D H F j)) /\ (∀ j l, j < l -> l < 0 -> ∀ a b, T2 j = some a -> T2 l = some b -> a.block ≠ b.block) := by
          rcases hans with ⟨_, h0, _⟩ | ⟨l, G, U3, rfl, hmat⟩
          · exact ⟨fun _ => none, fun _ => 0, fun hp => absurd hp (by omega), fun j hj => absurd hj (by omega), fun _ l _ hl => absurd hl (by omega)⟩
          · refine ⟨fun j => some ⟨G j, 0, none⟩, U3, fun _ => ⟨l, rfl, fun j hj => hmat.cell_l hj⟩, fun j hj => (own_owu (hmat.row j hj)).mono ?_, fun j l hjl hl a b ha hb => ?_⟩
            · have := hmat.los j hj; have := BWM.out.size; show w.heap.size <= G j; exact Nat.le_trans this ‹_›
            · cases ha; cases hb; exact hmat.apart j l (by omega) hl (by omega)
        have HAT : Hid (0 < 0 -> ∃ l, xo = some ⟨l, 0, none⟩ /\ ∀ j, j < 0 -> wd.cell? ⟨l, j, none⟩ = some (.slice (T2 j) m (U2 j))) := hat
        have HROW : Hid (∀ j, j < 0 -> OwU w.heap.size wd (T2 j) m (U2 j) (nwP oc i D H F j)) := hrow
        have HAP : Hid (∀ j l, j < l -> l < 0 -> ∀ a b, T2 j = some a -> T2 l = some b -> a.block ≠ b.block) := hap
        have HBD : Hid (Below w0.heap.size w0 wd) := bth HBM.out (bth (bdw _ _) hdd)
        clear hat hrow hap hans hdd f0 f1
        go_wp2_with fail
        go_loopw [15, 61] (fun cl y wr => ∃ j : Nat, j <= 0 /\ y = .int .i64 (j : Int) /\ ∃ zo zc, cl = .slice zo j zc /\ Hid (wr.ownsRow wd.heap.size 124 2 (.slice zo j zc) j (chOf (fun i => ((oc + i : Nat) : Int)) T2 (fun _ => m) U2 j)) /\ Hid (Below wd.heap.size wd wr)) (fun _ y _ => 0 - (intOf y).toNat)
        case atStart => exact ⟨0, Nat.zero_le _, rfl, none, 0, rfl, World.ownsRow_nil _ _ _ _, Below.refl _ _⟩
        case round =>
          obtain ⟨j, hjR, rfl, zo, zc, rfl, hown, hb⟩ := hrel
          by_cases hlt : j < 0
          · exact absurd hlt (Nat.not_lt_zero j)
          · obtain rfl : j = 0 := by omega
            have hsz := Nat.le_trans B0.out.size HBD.out.size
            go_wp2_with fail
            go_ret
            exact ⟨zo, zc, T2, U2, rfl, ⟨owns_mono hown.out hsz, fun l hl => (HROW.out l hl).below hb.out, HAP.out⟩, bth B0.out (bth HBD.out hb.out)⟩
      · go_wp2_with fail
        go_region_held3 (fun v => v.cell? ⟨w.heap.size, 0, none⟩ = some (.int .i64 (K : Int)) /\ v.cell? ⟨w.heap.size, 1, none⟩ = some (.int .i64 (R : Int))) (go_keep)
          ((go_at_call 162; refine (HALL.out _ _ _ (bdw _ _) (.inl rfl)).mono ?_; rintro e wd ⟨xo, xc, rfl, hans, hdd⟩; have f0 := held (w := wm.drew) a0 hdd; have f1 := held (w := wm.drew) a1 hdd))
        obtain ⟨T2, U2, hat, hrow, hap⟩ : ∃ (T2 : Nat -> Option Addr) (U2 : Nat -> Nat), (0 < R -> ∃ l, xo = some ⟨l, 0, none⟩ /\ ∀ j, j < R -> wd.cell? ⟨l, j, none⟩ = some (.slice (T2 j) m (U2 j))) /\ (∀ j, j < R -> OwU w.heap.size wd (T2 j) m (U2 j) (nwP K i D H F j)) /\ (∀ j l, j < l -> l < R -> ∀ a b, T2 j = some a -> T2 l = some b -> a.block ≠ b.block) := by
          rcases hans with ⟨_, h0, _⟩ | ⟨l, G, U3, rfl, hmat⟩
          · exact ⟨fun _ => none, fun _ => 0, fun hp => absurd hp (by omega), fun j hj => absurd hj (by omega), fun _ l _ hl => absurd hl (by omega)⟩
          · refine ⟨fun j => some ⟨G j, 0, none⟩, U3, fun _ => ⟨l, rfl, fun j hj => hmat.cell_l hj⟩, fun j hj => (own_owu (hmat.row j hj)).mono ?_, fun j l hjl hl a b ha hb => ?_⟩
            · have := hmat.los j hj; have := BWM.out.size; show w.heap.size <= G j; exact Nat.le_trans this ‹_›
            · cases ha; cases hb; exact hmat.apart j l (by omega) hl (by omega)
        have HAT : Hid (0 < R -> ∃ l, xo = some ⟨l, 0, none⟩ /\ ∀ j, j < R -> wd.cell? ⟨l, j, none⟩ = some (.slice (T2 j) m (U2 j))) := hat
        have HROW : Hid (∀ j, j < R -> OwU w.heap.size wd (T2 j) m (U2 j) (nwP K i D H F j)) := hrow
        have HAP : Hid (∀ j l, j < l -> l < R -> ∀ a b, T2 j = some a -> T2 l = some b -> a.block ≠ b.block) := hap
        have HBD : Hid (Below w0.heap.size w0 wd) := bth HBM.out (bth (bdw _ _) hdd)
        clear hat hrow hap hans hdd f0 f1
        go_wp2_with fail
        go_loopw [15, 61] (fun cl y wr => ∃ j : Nat, j <= R /\ y = .int .i64 (j : Int) /\ ∃ zo zc, cl = .slice zo j zc /\ Hid (wr.ownsRow wd.heap.size 124 2 (.slice zo j zc) j (chOf (fun i => ((K + i : Nat) : Int)) T2 (fun _ => m) U2 j)) /\ Hid (Below wd.heap.size wd wr)) (fun _ y _ => R - (intOf y).toNat)
        case atStart => exact ⟨0, Nat.zero_le _, rfl, none, 0, rfl, World.ownsRow_nil _ _ _ _, Below.refl _ _⟩
        case round =>
          obtain ⟨j, hjR, rfl, zo, zc, rfl, hown, hb⟩ := hrel
          by_cases hlt : j < R
          · obtain ⟨l, rfl, hc⟩ := HAT.out (by omega)
            have c0 := held (hc j hlt) hb.out
            obtain ⟨p0, _⟩ := HPAR.out wr (bth HBD.out hb.out)
            have j1 : (0 : Int) <= (j : Int) := by omega
            have j2 : (j : Int) < (R : Int) := by omega
            obtain ⟨xs, hxs⟩ : ∃ xs, xs = chOf (fun i => ((K + i : Nat) : Int)) T2 (fun _ => m) U2 j := ⟨_, rfl⟩
            have HXO : Hid (wr.ownsRow wd.heap.size 124 2 (.slice zo j zc) j xs) := by rw [hxs]; exact hown.out
            have HX : Hid (xs ++ [.int .i64 ((K : Int) + (j : Int)), .slice (T2 j) m (U2 j)] = chOf (fun i => ((K + i : Nat) : Int)) T2 (fun _ => m) U2 (j + 1)) := by show _ = _; rw [chOf, hxs, Int.natCast_add]
            have HB1 : Hid (Below wd.heap.size wd wr) := hb.out
            clear hc hxs hown hb
            go_wp2_with (at_builtin; refine wpList_append_lies _ (by rfl) (.tmp 66) (.tmp 73) 50 (by rfl) wd.heap.size 124 j0 (.agg #[.int .i64 0, .slice none 0 0]) 2 32 Tryz.underlying50 hj hj0 hj1 hj2 (by rfl) (by decide) (.slice zo j zc) j xs (by rfl) (owns_below HXO.out (bal _ _)) ⟨wr.heap.size, 0, none⟩ 1 1 [.int .i64 ((K : Int) + (j : Int)), .slice (T2 j) m (U2 j)] (by simp [Act.eval]) (by rfl) (World.news_of_block (heap_alloc_new wr _)) (by simp [Value.oneCell']) (by decide) (by unfold maxLen; omega) (by omega) (by have := HB1.out.size; simp; omega) (wr.heap.size + 1) (by simp) ?_; intro g7 cap7 w7 hown7 hgrow7 _ _
                         have HO7 : Hid (w7.ownsRow wd.heap.size 124 2 (.slice (some ⟨g7, 0, none⟩) (j + 1) cap7) (j + 1) (chOf (fun i => ((K + i : Nat) : Int)) T2 (fun _ => m) U2 (j + 1))) := by rw [<- HX.out]; exact hown7
                         have HB7 : Hid (Below wd.heap.size wd w7) := (bth HB1.out (bal _ _)).grown hgrow7 (by have := HB1.out.size; simp; omega) (fun r hr => (HXO.out.lt r hr).1)
                         clear hown7 hgrow7)
            go_roundw
            case rel => exact ⟨j + 1, by omega, by go_num, _, cap7, rfl, HO7.out, HB7.out⟩
            case measure => simp [intOf]; omega
          · obtain rfl : j = R := by omega
            have hsz := Nat.le_trans B0.out.size HBD.out.size
            go_wp2_with fail
            go_ret
            exact ⟨zo, zc, T2, U2, rfl, ⟨owns_mono hown.out hsz, fun l hl => (HROW.out l hl).below hb.out, HAP.out⟩, bth B0.out (bth HBD.out hb.out)⟩
end Go.Proofs.YtemlojjkokooeaaGreat
