import Derived.Test.YtemlojjkokooeaaGreatTj36
set_option maxHeartbeats 4000000
set_option maxRecDepth 100000
namespace Go.Proofs.YtemlojjkokooeaaGreat
open Go.RowKit
theorem bec_cutc{w:World}{b off n cap:Nat}{D:Nat->UInt8}(h:Bec w (some ⟨b,off,none⟩) n cap D){p m u:Nat}(hp:p+m<=n)(hn:0<n)(hu:m<=u):Bec w (some ⟨b,off+p,none⟩) m u (fun j=>D (p+j)):=by
 refine⟨fun hm=>⟨b,off+p,rfl,fun j hj=>?_⟩,(fun e=>by cases e),hu⟩;obtain⟨b',off',e,hc⟩:=h.rd hn;cases e
 have:=hc (p+j) (by omega);rw [Nat.add_assoc]; exact this
theorem wpList_append_row{w:World}{ops:Array Oper}{rest:List Oper}{o:Oper}{a:Act}{Q:Exit->Act->World->Prop}(hgd:o.guard=none)(s x:Operand)
  (ho:o.op=.call { callee:=.builtin .append,args:=#[s,x],argTypes:=#[33,33]}) (base n r ca cx:Nat) (ao xo:Option Addr) (xs:List Value) (T:Nat->Option Addr) (L U:Nat->Nat)
  (hs:a.eval s=.slice ao n ca) (hx:a.eval x=.slice xo r cx) (hv:w.ownsRow base 36 1 (.slice ao n ca) n xs) (hl:∃ B,w.ownsRow B 36 1 (.slice xo r cx) r (Cod.rowsOf r T L U)) (hn:n<=1000) (hr:r<=1000) (hB:base<=w.heap.size)
  (cont:∀ ao' c' w',w'.ownsRow base 36 1 (.slice ao' (n+r) c') (n+r) (xs ++ Cod.rowsOf r T L U)->w.grownBy w' (Value.slice ao n ca).ownBlock->wpList Tryz.prog ops Q rest (a.put o.dst (.slice ao' (n+r) c')) w'):wpList Tryz.prog ops Q (o :: rest) a w:=by
 obtain⟨j0,hj,hj0,hj1,hj2⟩:=info_parts Cod.info23c;obtain⟨B,hl⟩:=hl;rcases hl.2 with ⟨h1,h2⟩ | ⟨g,cap,cur,h1,_⟩
 ·cases h1
  exact wpList_append_own_none hgd s x 33 ho base 36 j0 1 Tryz.underlying33 hj (.slice ao n ca) n xs hs hv hx (cont ao ca w (by rw [show Cod.rowsOf 0 T L U=[] from rfl,List.append_nil]; exact hv) ⟨rfl,rfl,rfl,Nat.le_refl _,fun _ _ _=>rfl⟩)
 ·cases h1
  refine wpList_append_own w hgd s x 33 ho base 36 j0 (.slice none 0 0) 1 24 Tryz.underlying33 hj hj0 hj1 hj2 rfl (by decide) (.slice ao n ca) n xs hs hv ⟨g,0,none⟩ r cx (Cod.rowsOf r T L U) hx (by rw [Cod.rowsOf_length,Nat.mul_one]) (hl.cells (g:=g) rfl) (Cod.rowsOf_one _ _ _ _) (by unfold maxLen; omega) (by omega) hB ?_;intro v' w' h1 h2 _;obtain⟨ao',c',rfl⟩:=Cod.owns_form h1;exact cont ao' c' w' h1 h2
theorem RCoded_any {K R m : Nat} (q : Int) (w : World) (b off dn dc : Nat) (D : Nat -> UInt8) (hD : Bec w (some ⟨b, off, none⟩) dn dc D) (hK0 : 1 <= K) (hK : K <= 12) (hR : R <= 4) (hm0 : 0 < m) (hm : m <= 64) (hdn : dn = K * m) (h32 : 0 < dn) :
    Calls Tryz.prog 152 #[.agg #[.int .i64 (K : Int), .int .i64 (R : Int), .int .i64 (m : Int), .int .i64 q], .slice (some ⟨b, off, none⟩) dn dc] w fun e w' => ∃ ao cap T U, e = .returned (.slice ao (K + R) cap) /\ RdC w' ao (K + R) T (fun _ => m) U /\ (∀ i, i < K + R -> Bec w' (T i) m (U i) (dH K m D i)) /\ Below w.heap.size w w' := by
  have hdc : dn <= dc := hD.room
  have HBC : Hid (∀ u, Below w.heap.size w u -> ∀ i, i < K -> Bec u (some ⟨b, off + i * m, none⟩) m (dc - i * m) (fun j => D (i * m + j))) := fun u hu i hi => by
    have h1 : i * m + m <= dn := by rw [hdn, <- Nat.succ_mul]; exact Nat.mul_le_mul_right m hi
    exact bec_cutc (hD.below hu) h1 h32 (by omega)
  have HEN : Hid (∀ u lo cl, Below w.heap.size w u -> (∃ B, u.ownsRow B 36 1 (.slice lo K cl) K (Cod.rowsOf K (fun i => some ⟨b, off + i * m, none⟩) (fun _ => m) (fun i => dc - i * m))) -> Calls Tryz.prog 222 #[.int .i64 (K : Int), .int .i64 (R : Int), .slice lo K cl] u fun e w' => ∃ ao cap T U, e = .returned (.tuple #[.slice ao R cap, .int .i64 0]) /\ Cod.Copied w' u.heap.size R (.slice ao R cap) T (fun _ => m) U (Cod.par K (dM m D)) /\ Below u.heap.size u w') := fun u lo cl hu ⟨B, hl⟩ => by
    have hlst : Cod.Lst u lo K (fun i => some ⟨b, off + i * m, none⟩) (fun i => dc - i * m) (fun _ => m) (dM m D) := Cod.owns_lst hl (fun i hi => rd_toK (HBC.out u hu i hi).rd)
    have hEn := Cod.rEncode_any u (K : Int) (R : Int) lo K cl _ _ _ _ hlst
    have e1 : Cod.mayB (K : Int) (R : Int) = true := decide_eq_true (by omega)
    have hc := Cod.cnt_full (L := fun _ => m) (n := K) (fun i _ => by omega)
    obtain ⟨g1, g2⟩ := Cod.okT_of (L := fun _ => m) (n := K) (show m ≠ 0 by omega) (by omega) (fun _ _ => .inr rfl)
    have e2 : Cod.okEnc K (fun _ => m) (K : Int) (R : Int) = true := by unfold Cod.okEnc Cod.okC; rw [e1, g1, hc]; simp
    have e3 : Cod.len0 (fun _ => m) K = m := by
      rcases Cod.len0_sel (fun _ => m) K with ⟨e, _⟩ | ⟨_, e, _⟩
      · omega
      · exact e
    rw [e1, e2, e3, Int.toNat_natCast, Int.toNat_natCast] at hEn
    exact hEn
  obtain ⟨j0, hj, hj0, hj1, hj2⟩ := info_parts Cod.info23c
  obtain ⟨w0, hw0⟩ : ∃ w0, w0 = w.alloc (.cells #[.int .i64 (K : Int), .int .i64 (R : Int), .int .i64 (m : Int), .int .i64 q] 23) := ⟨_, rfl⟩
  have B0 : Hid (Below w.heap.size w w0) := by show Below _ _ _; rw [hw0]; exact bal _ _
  have L0 : Hid (∀ v, Below w0.heap.size w0 v -> At w v w.heap.size #[.int .i64 (K : Int), .int .i64 (R : Int), .int .i64 (m : Int), .int .i64 q] 23) := fun v hv => (at_made (Below.refl _ _) hw0).below hv
  have HDN : Hid (dn = K * m) := hdn
  have HMU : Hid (∀ i, i <= K -> i * m <= 1024) := fun i hi => mul_le16 hi (by omega) hm
  clear hdn hD
  go_enter Tryz.func152, Tryz.ntmps152
  go_wp2_with fail
  rw [<- hw0]
  clear hw0
  go_loopw [5, 6] (fun s x wr => ∃ i : Nat, i <= K /\ x = .int .i64 (i : Int) /\ ∃ ao c, s = .slice ao i c /\ Hid (wr.ownsRow w0.heap.size 36 1 (.slice ao i c) i (Cod.rowsOf i (fun i => some ⟨b, off + i * m, none⟩) (fun _ => m) (fun i => dc - i * m))) /\ Hid (Below w0.heap.size w0 wr)) (fun _ x _ => K - (intOf x).toNat)
  case atStart => exact ⟨0, Nat.zero_le _, rfl, none, 0, rfl, World.ownsRow_nil _ _ _ _, Below.refl _ _⟩
  case round =>
    obtain ⟨i, hi, rfl, ao, cp, rfl, hown, hbel⟩ := hrel
    have pp := L0.out wr hbel.out
    have q0 := pp.cell (i := 0) rfl
    have q1 := pp.cell (i := 1) rfl
    have q2 := pp.cell (i := 2) rfl
    clear pp
    by_cases hlt : i < K
    · obtain ⟨p, hp⟩ : ∃ p, p = i * m := ⟨_, rfl⟩
      have hp1 : p + m = (i + 1) * m := by rw [hp, Nat.succ_mul]
      have hp2 : p + m <= dn := by rw [HDN.out, hp1]; exact Nat.mul_le_mul_right m hlt
      have hp3 : p + m <= 1024 := by rw [hp1]; exact HMU.out _ hlt
      obtain ⟨v1, v3⟩ := val_mul hp (by omega)
      obtain ⟨v2, v4⟩ := val_mul2 hp1 (by omega)
      have HP : Hid (p = i * m) := hp
      clear hp hp1
      have HOW : Hid (wr.ownsRow w0.heap.size 36 1 (.slice ao i cp) i (Cod.rowsOf i (fun i => some ⟨b, off + i * m, none⟩) (fun _ => m) (fun i => dc - i * m))) := hown.out
      obtain ⟨xs, hxs⟩ : ∃ xs, xs = Cod.rowsOf i (fun i => some (⟨b, off + i * m, none⟩ : Addr)) (fun _ => m) (fun i => dc - i * m) := ⟨_, rfl⟩
      rw [<- hxs] at HOW
      have HX : Hid (xs ++ [.slice (some ⟨b, off + p, none⟩) m (dc - p)] = Cod.rowsOf (i + 1) (fun i => some ⟨b, off + i * m, none⟩) (fun _ => m) (fun i => dc - i * m)) := by
        show _ = _
        unfold Cod.rowsOf at hxs ⊢
        rw [List.range_succ, List.map_append, List.map_cons, List.map_nil, hxs, HP.out]
      have i0 : (i : Int) < (K : Int) := by omega
      have i1 : (0 : Int) <= (p : Int) := by omega
      have i2 : (p : Int) <= (p : Int) + (m : Int) := by omega
      have i3 : (p : Int) + (m : Int) <= (dc : Int) := by omega
      have i4 : ¬ (p : Int) + (m : Int) < 0 := by omega
      clear hxs hown
      go_wp2_with (at_builtin; refine wpList_append_lies _ (by rfl) (.tmp 15) (.tmp 27) 33 (by rfl) w0.heap.size 36 j0 (.slice none 0 0) 1 24 Tryz.underlying33 hj hj0 hj1 hj2 (by rfl) (by decide) (.slice ao i cp) i xs (by rfl) (owns_below HOW.out (bal _ _)) ⟨wr.heap.size, 0, none⟩ 1 1 [.slice (some ⟨b, off + p, none⟩) m (dc - p)] (by simp [Act.eval]) (by rfl) (World.news_of_block (heap_alloc_new wr _)) (by simp [Value.oneCell']) (by decide) (by unfold maxLen; omega) (by omega) (by have := hbel.out.size; simp; omega) (wr.heap.size + 1) (by simp) ?_; intro g5 cap5 w5 hown5 hgrow5 _ _
                   have HO5 : Hid (w5.ownsRow w0.heap.size 36 1 (.slice (some ⟨g5, 0, none⟩) (i + 1) cap5) (i + 1) (Cod.rowsOf (i + 1) (fun i => some ⟨b, off + i * m, none⟩) (fun _ => m) (fun i => dc - i * m))) := by rw [<- HX.out]; exact hown5
                   have HB5 : Hid (Below w0.heap.size w0 w5) := (bth hbel.out (bal _ _)).grown hgrow5 (by have := hbel.out.size; simp; omega) (fun r hr => (HOW.out.lt r hr).1)
                   clear hown5 hgrow5)
      go_roundw
      case rel => exact ⟨i + 1, by omega, by go_num, _, cap5, rfl, HO5.out, HB5.out⟩
      case measure => simp [intOf]; omega
    · obtain rfl : i = K := by omega
      have hEN := HEN.out wr ao cp (bth B0.out hbel.out) ⟨_, hown.out⟩
      have HOW : Hid (wr.ownsRow w0.heap.size 36 1 (.slice ao i cp) i (Cod.rowsOf i (fun i => some ⟨b, off + i * m, none⟩) (fun _ => m) (fun i => dc - i * m))) := hown.out
      clear hown
      go_wp2_with fail
      refine hEN.mono ?_
      clear hEN q0 q1 q2
      rintro e w5 ⟨po, pc, T, U, rfl, hcop, h5⟩
      have HB5 : Hid (Below w0.heap.size w0 w5) := bth hbel.out h5
      have HL5 : Hid (w5.ownsRow w0.heap.size 36 1 (.slice ao i cp) i (Cod.rowsOf i (fun i => some ⟨b, off + i * m, none⟩) (fun _ => m) (fun i => dc - i * m))) := owns_below HOW.out h5
      have HC5 : Hid (Cod.Copied w5 wr.heap.size R (.slice po R pc) T (fun _ => m) U (Cod.par i (dM m D))) := hcop
      have hws := HB5.out.size
      clear h5 hcop
      go_wp2_with (at_builtin; refine wpList_append_row rfl (.tmp 38) (.tmp 39) rfl w0.heap.size i R cp pc ao po _ T (fun _ => m) U rfl rfl HL5.out ⟨_, HC5.out.out⟩ (by omega) (by omega) hws ?_; intro ao' c' w7 hown7 hgrow7; have HO7 : Hid (w7.ownsRow w0.heap.size 36 1 (.slice ao' (i + R) c') (i + R) (Cod.rowsOf i (fun i => some ⟨b, off + i * m, none⟩) (fun _ => m) (fun i => dc - i * m) ++ Cod.rowsOf R T (fun _ => m) U)) := hown7; have HG7 : Hid (w5.grownBy w7 (Value.slice ao i cp).ownBlock) := hgrow7; clear hown7 hgrow7)
      go_ret
      have hb7 : Below w0.heap.size w0 w7 := HB5.out.grown HG7.out hws (fun r hr => (HL5.out.lt r hr).1)
      have hown := HO7.out
      rw [<- Cod.rowsOf_join] at hown
      refine ⟨ao', ⟨c', rfl⟩, Cod.join i (fun i => some ⟨b, off + i * m, none⟩) T, Cod.join i (fun i => dc - i * m) U, fun hp => ?_, fun l hl => ?_, bth B0.out hb7⟩
      · rcases hown.2 with ⟨_, h1⟩ | ⟨g, cap', cur, h1, _⟩
        · omega
        · cases h1
          refine ⟨g, 0, rfl, fun l hl => ?_⟩
          have := hown.cells (g := g) rfl l _ (Cod.rowsOf_get (i + R) _ _ _ l hl)
          rw [Addr.add_lit, Cod.join_const] at this
          exact this
      · unfold Cod.join
        by_cases e : l < i
        · rw [if_pos e, if_pos e]
          exact (HBC.out w7 (bth B0.out hb7) l e).congr fun j _ => (dH_data e).symm
        · rw [if_neg e, if_neg e]
          have hrow := HC5.out.row (l - i) (by omega)
          rw [cells_bK] at hrow
          have := OwU.bec (B := wr.heap.size) (owns_grown hrow HL5.out (by decide) HG7.out)
          refine this.congr fun j _ => ?_
          unfold dH Cod.par
          rw [show i + (l - i) = l by omega]
theorem ptl_len(Lc os:Nat->Nat)(nu:Int)(n:Nat)(T:Nat->Option Addr)(U:Nat->Nat):∀ d,(ptl Lc os nu n T U d).length=4*Cod.cnt Lc d
 | 0=>rfl
 | d+1=>by
  rw [ptl];by_cases h:Lc d=0
  ·rw [if_pos h,Cod.cnt_skip h]; exact ptl_len Lc os nu n T U d
  ·rw [if_neg h,Cod.cnt_take h,List.length_append,ptl_len Lc os nu n T U d]; simp; omega
theorem owns_grown8{w w':World}{B B' e s n cap k ca:Nat}{ao lo:Option Addr}{xs ys:List Value}(h:w.ownsRow B e s (.slice ao n cap) n xs)(hk:w.ownsRow B' 56 4 (.slice lo k ca) k ys)(he:e ≠ 56)(hg:w.grownBy w' (Value.slice lo k ca).ownBlock):w'.ownsRow B e s (.slice ao n cap) n xs :=
 owns_blocks h fun a ha=>by
  obtain⟨_,hl,cur,hc⟩:=owns_at h ha;refine hg.block _ hl fun e1=>?_;cases lo with
  | none=>cases e1
  | some l =>
   obtain⟨_,_,cur',hc'⟩:=owns_at hk rfl;have e2:a.block=l.block:=by simpa [Value.ownBlock] using e1
   rw [e2,hc'] at hc;cases hc
   exact he rfl
theorem str_ne'(X:List UInt8):((sOf X).toList != (sOf X).toList)=false:=by simp
theorem lsF_congr'{n:Nat}{F G:Nat->UInt8}(h:∀ i,i<n->F i=G i):lsF n F=lsF n G:=by
 unfold lsF; exact List.map_congr_left fun i hi=>h i (List.mem_range.1 hi)
theorem SameRow_any(w:World)(ao bo:Option Addr)(n ca cb:Nat)(A B:Nat->Option Addr)(L C D:Nat->Nat)(F G:Nat->Nat->UInt8)(ha:Rw w ao n A L C F)(hb:Rw w bo n B L D G)(hn:n<=9223372036854775807)(he:∀ i,i<2*n->∀ j,j<L i->F i j=G i j):
  Calls Tryz.prog 21 #[.slice ao n ca,.slice bo n cb] w fun e w'=>e=.returned (.bool true)/\Below w.heap.size w w':=by
 have HA:Hid (Rw w ao n A L C F):=ha;have HB:Hid (Rw w bo n B L D G):=hb;have HS:Hid (∀ i,i<2*n->∀ j,j<L i->F i j=G i j):=he;clear ha hb he;have hnn:((n:Int) != (n:Int))=false:=by simp
 go_enter Tryz.func21,Tryz.ntmps21
 go_wp2;go_loopw [5] (fun x wr=>∃ i:Nat,i<=n/\x=.int .i64 i/\Hid (Below w.heap.size w wr)) (fun x _=>n-(intOf x).toNat)
 case atStart=>exact⟨0,Nat.zero_le _,rfl,Below.refl _ _⟩
 case round =>
  obtain⟨i,hi,rfl,hbw⟩:=hrel;by_cases hlt:i<n
  ·obtain⟨b,off,rfl,hc⟩:=(HA.out.below hbw.out).at_ (by omega);obtain⟨b',off',rfl,hc'⟩:=(HB.out.below hbw.out).at_ (by omega);have c0:=(hc i hlt).1;have c1:=(hc i hlt).2;have d0:=(hc' i hlt).1;have d1:=(hc' i hlt).2;have v0:∀ z,(convert 36 9 (.slice (A (2*i)) (L (2*i)) (C (2*i)))).run Tryz.prog (wr.drewN z)=.ok (.string (sOf (lsF (L (2*i)) (F (2*i))))) (wr.drewN z):=fun z=>conv_any (((HA.out.below hbw.out).bec (2*i) (by omega)).below (below_drewN _ _ _));have v1:∀ z,(convert 36 9 (.slice (A (2*i+1)) (L (2*i+1)) (C (2*i+1)))).run Tryz.prog (wr.drewN z)=.ok (.string (sOf (lsF (L (2*i+1)) (F (2*i+1))))) (wr.drewN z):=fun z=>conv_any (((HA.out.below hbw.out).bec (2*i+1) (by omega)).below (below_drewN _ _ _));have u0:∀ z,(convert 36 9 (.slice (B (2*i)) (L (2*i)) (D (2*i)))).run Tryz.prog (wr.drewN z)=.ok (.string (sOf (lsF (L (2*i)) (F (2*i))))) (wr.drewN z):=fun z=>by
    rw [lsF_congr' (HS.out (2*i) (by omega))];exact conv_any (((HB.out.below hbw.out).bec (2*i) (by omega)).below (below_drewN _ _ _))
   have u1:∀ z,(convert 36 9 (.slice (B (2*i+1)) (L (2*i+1)) (D (2*i+1)))).run Tryz.prog (wr.drewN z)=.ok (.string (sOf (lsF (L (2*i+1)) (F (2*i+1))))) (wr.drewN z):=fun z=>by
    rw [lsF_congr' (HS.out (2*i+1) (by omega))];exact conv_any (((HB.out.below hbw.out).bec (2*i+1) (by omega)).below (below_drewN _ _ _))
   have e0:=str_ne' (lsF (L (2*i)) (F (2*i)));have e1:=str_ne' (lsF (L (2*i+1)) (F (2*i+1)));clear hc hc';have i1:(0:Int)<=(i:Int):=by omega
   have i2:(i:Int)<(n:Int):=by omega
   go_wp2;go_quiet (fail)
   go_wp2;go_roundw
   case rel=>exact⟨i+1,by omega,by go_num,hbw.out.trans (below_drewN _ _ _)⟩
   case measure=>simp [intOf]; omega
  ·go_wp2;go_ret;exact⟨rfl,hbw.out⟩
end Go.Proofs.YtemlojjkokooeaaGreat
