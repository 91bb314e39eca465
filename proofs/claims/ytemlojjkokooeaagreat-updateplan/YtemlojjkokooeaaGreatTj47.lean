import Derived.Test.YtemlojjkokooeaaGreatTj46
set_option maxHeartbeats 8000000
set_option maxRecDepth 100000
namespace Go.Proofs.YtemlojjkokooeaaGreat
open Go.RowKit
theorem run_copy_vec{w:World}{g N vc:Nat}{V:Nat->Int}{vo:Option Addr}{f:Nat->Value}(hg:w.rowIs g 3 N f)(hv:Vec w vo N vc V)(h0:0<N):
  ∃ w',(Builtin.copy_ #[27,27] 3 #[.slice (some ⟨g,0,none⟩) N N,.slice vo N vc]).run Tryz.prog w=.ok (goInt N) w'/\w'.rowIs g 3 N (fun i=>.int .i64 (V i))/\Only (fun b=>b=g) w w':=by
 obtain⟨b,bof,rfl,hc⟩:=hv.rd h0;obtain⟨cur,h1,h2,h3⟩:=hg;have hrun:=run_copy_row (P:=Tryz.prog) w 27 27 3 3 g 0 N N ⟨b,bof,none⟩ N vc cur 3 (zOf N V) Tryz.underlying27 (by kernel_rfl) h1 (by rw [zOf_length]; exact(Nat.min_self N).symm)
  (fun j v hv=>by
   have hj:=list_lt (zOf_length N V) hv;rw [zOf_get _ _ _ hj] at hv;rw [Addr.add_lit,hc j hj]; exact hv) (by rw [zOf_length]; omega) (zOf_one N V)
 rw [zOf_length] at hrun;refine⟨_,hrun,?_,only_setRow _ _ _⟩;have hh:=setRow_heap w g _ (cur.toList.take 0 ++ zOf N V ++ cur.toList.drop (0+N)).toArray 3 _ h1;have hd:cur.toList.drop (0+N)=[]:=List.drop_eq_nil_of_le (by simp; omega);refine⟨_,hh,?_,fun i hi=>?_⟩
 ·rw [hd]; simp [zOf_length]
 ·rw [hd]; simp [zOf_get N V i hi]
theorem row_only{X:Nat->Prop}{w w':World}{g n:Nat}{t:TypeId}{f:Nat->Value}(h:w.rowIs g t n f)(ho:Only X w w')(hx:¬ X g):w'.rowIs g t n f:=World.rowIs.of_block h (ho.block g (World.rowIs.lt h) hx)
theorem row_set_other{w:World}{g g' n i:Nat}{t:TypeId}{f:Nat->Value}{v:Value}(h:w.rowIs g t n f)(hx:g' ≠ g):(w.setCell ⟨g',i,none⟩ v).rowIs g t n f:=World.rowIs.of_block h (Below.heap_setCell _ _ _ _ (fun e=>hx e.symm))
theorem owu_set_other{B:Nat}{w:World}{g g' n cap i:Nat}{F:Nat->UInt8}{v:Value}(h:OwU B w (some ⟨g,0,none⟩) n cap F)(hx:g' ≠ g):OwU B (w.setCell ⟨g',i,none⟩ v) (some ⟨g,0,none⟩) n cap F:=owns_blocks h fun a ha=>by cases ha; exact Below.heap_setCell _ _ _ _ (fun e=>hx e.symm)
theorem enc_D{kd:UInt8}{N m:Nat}{X:Nat->Int}{F G:Nat->UInt8}{i:Nat}(h:∀ j,j<m->F j=G j):∀ j,j<12+4*N+m->enc (slC kd N X m F i) j=enc (slC kd N X m G i) j:=fun j hj=>by
 unfold enc slC;dsimp only
 repeat' split
 all_goals first | rfl | exact h _ (by omega)
theorem row_vec3{w:World}{g N:Nat}{X:Nat->Int}(h:w.rowIs g 3 N (fun i=>.int .i64 (X i))):Vec w (some ⟨g,0,none⟩) N N X:=by
 refine⟨fun _=>⟨g,0,rfl,fun i hi=>?_⟩,(fun e=>by cases e),Nat.le_refl _⟩;rw [Nat.zero_add]; exact World.rowIs.cell h hi
theorem RMade13_any {K R m : Nat} {q : Int} {N W : Nat} (h : Par (K : Int) (R : Int) (m : Int) q N W 0) (w : World) (ro : Option Addr) (rc : Nat) (A : Nat -> Option Addr) (L C : Nat -> Nat) (F : Nat -> Nat -> UInt8) (hr : Rw w ro N A L C F) (hL : ∀ j, j < 2 * N -> L j = 0 \/ L j = sz N (m : Int)) (nu fr tv : Int) (hfr : 1 <= fr /\ fr <= 1073741824) (hft : fr < tv /\ tv <= 1073741824)
    (lo : Option Addr) (n lc : Nat) (D : Nat -> Int) (AA : Nat -> Option Addr) (CC : Nat -> Nat) (H : Nat -> Nat -> UInt8) (hl : Chl w lo n lc D AA (fun _ => m) CC H) (hn0 : 0 < n) (hg : gdB D (K : Int) n) (t : Sl) (ht : tS (yy N (m : Int) L F) 1 fr (2 * N) = t) (z : Nat -> Sl) (hz : zv N (m : Int) L F 1 fr = z) (E : Int) (hE : erL K z N = E) :
    Calls Tryz.prog 96 #[.agg #[.int .i64 (K : Int), .int .i64 (R : Int), .int .i64 (m : Int), .int .i64 q], .slice ro N rc, .int .i64 nu, .int .i64 fr, .int .i64 tv, .slice lo n lc] w (AnsL w E (n + R) N (Lw (dq K n D) (n + R)) (ol N (m : Int) L F t.V) nu (sz N (m : Int)) (fun i => enc (slC 1 N (bmp (Cod.cat n D (fun i => ((K + i : Nat) : Int))) tv t.V (n + R)) m (pH K N n z D H (Cod.cnt (Lw (dq K n D) (n + R)) i)) i))) := by
  obtain ⟨⟨hK, hK2, hR, hm, hm2, hWK⟩, hNK⟩ : (1 <= K /\ K <= 12 /\ R <= 4 /\ 8 <= m /\ m <= 64 /\ W = K * m) /\ N = K + R := by
    rcases h with ⟨h1, h2, h3, _⟩ | ⟨_, _, _, h0⟩
    · obtain ⟨g1, g2, g3, g4, g5, g6, g7, g8, g9⟩ := may_true h1
      have e : ((W : Nat) : Int) = ((K * m : Nat) : Int) := by rw [h2, Int.natCast_mul]
      exact ⟨⟨by omega, by omega, by omega, by omega, by omega, Int.natCast_inj.1 e⟩, by omega⟩
    · exact absurd h0 (by decide)
  have hWp : 8 <= W := by rw [hWK]; exact Nat.le_trans hm (Nat.le_mul_of_pos_left m hK)
  have hW2 : W <= 768 := by rw [hWK]; exact Nat.mul_le_mul hK2 hm2
  have h32 : 0 < W := by omega
  have hnK := gd_len hg
  have HDA : Hid (∀ u, Below w.heap.size w u -> Calls Tryz.prog 77 #[.agg #[.int .i64 (K : Int), .int .i64 (R : Int), .int .i64 (m : Int), .int .i64 q], .slice ro N rc, .int .u8 1, .int .i64 fr] u (AnsB u E W (cat2 m (cH K z N)))) := fun u hu => by
    have := RData_any h u ro rc A L C F (hr.below hu) hL 1 (.inl rfl) fr
    rw [hz, Int.toNat_natCast, Int.toNat_natCast, hE, <- hWK] at this
    exact this
  have HTO : Hid (∀ u, Below w.heap.size w u -> Calls Tryz.prog 70 #[.agg #[.int .i64 (K : Int), .int .i64 (R : Int), .int .i64 (m : Int), .int .i64 q], .slice ro N rc, .int .u8 1, .int .i64 fr] u (AnsW u t)) := fun u hu => Told_any h u ro rc A L C F (hr.below hu) hL 1 (.inl rfl) fr t ht
  have HLL : Hid (∀ u, Below w.heap.size w u -> Chl u lo n lc D AA (fun _ => m) CC H) := fun u hu => hl.below hu
  obtain ⟨w0, hw0⟩ : ∃ w0, w0 = w.alloc (.cells #[.int .i64 (K : Int), .int .i64 (R : Int), .int .i64 (m : Int), .int .i64 q] 23) := ⟨_, rfl⟩
  have B0 : Hid (Below w.heap.size w w0) := by show Below _ _ _; rw [hw0]; exact bal _ _
  have HPAR : Hid (∀ v, Below w0.heap.size w0 v -> v.cell? ⟨w.heap.size, 0, none⟩ = some (.int .i64 (K : Int)) /\ v.cell? ⟨w.heap.size, 1, none⟩ = some (.int .i64 (R : Int)) /\ v.cell? ⟨w.heap.size, 2, none⟩ = some (.int .i64 (m : Int)) /\ v.cell? ⟨w.heap.size, 3, none⟩ = some (.int .i64 q)) := fun v hv => par_held hw0 hv
  by_cases he : E = 0
  · subst he
    obtain ⟨htc, htn, hV⟩ := told_of ht (by rw [hz]; exact hE) hK
    have hren : Ren N t.V (n + R) (Cod.cat n D (fun i => ((K + i : Nat) : Int))) (dq K n D) tv := ⟨fun i hi => by have := hV i (by omega); omega, by omega, fun j hj => ⟨dq_D hg j, by rw [hNK]; exact (dq_ris (R := R) hg).lt j hj⟩, by omega, by omega⟩
    obtain ⟨X, hX⟩ : ∃ X, bmp (Cod.cat n D (fun i => ((K + i : Nat) : Int))) tv t.V (n + R) = X := ⟨_, rfl⟩
    have HXV : Hid (∀ i, X i = if wB K n D (n + R) i = true then tv else t.V i) := fun i => by
      rw [<- hX, bmp_lw hg]; unfold wB
      by_cases e : Lw (dq K n D) (n + R) i ≠ 0
      · rw [if_pos e, if_pos (decide_eq_true e)]
      · rw [if_neg e, if_neg (by rw [decide_eq_false e]; decide)]
    have HWA : Hid (∀ i, i < N -> wB K n D (n + R) i = (wB K n D n i || decide (K <= i))) := fun i hi => wB_all i (by omega)
    have HLW : Hid (∀ i, Lw (dq K n D) (n + R) i ≠ 0 ↔ wB K n D (n + R) i = true) := fun i => by unfold wB; exact (decide_eq_true_iff (p := Lw (dq K n D) (n + R) i ≠ 0)).symm
    have HD0 : Hid (∀ B u g cap, OwU B u (some ⟨g, 0, none⟩) W cap (cat2 m (cH K z N)) -> OwU B u (some ⟨g, 0, none⟩) W cap (dat m D (cD K z N) H 0)) := fun B u g cap hh => hh.congr fun b hb => (dat_zero (by rw [<- hWK]; exact hb)).symm
    have HCO : Hid (∀ u g cap, Bec u (some ⟨g, 0, none⟩) W cap (dat m D (cD K z N) H n) -> Calls Tryz.prog 152 #[.agg #[.int .i64 (K : Int), .int .i64 (R : Int), .int .i64 (m : Int), .int .i64 q], .slice (some ⟨g, 0, none⟩) W cap] u fun e w' => ∃ ao cap T U, e = .returned (.slice ao N cap) /\ RdC w' ao N T (fun _ => m) U /\ (∀ i, i < N -> Bec w' (T i) m (U i) (dH K m (dat m D (cD K z N) H n) i)) /\ Below u.heap.size u w') := fun u g cap hb => by
      have := RCoded_any (K := K) (R := R) (m := m) q u g 0 W cap _ hb hK hK2 hR (by omega) hm2 hWK h32
      rw [<- hNK] at this
      exact this
    obtain ⟨S, hS⟩ : ∃ S, S = sz N (m : Int) := ⟨_, rfl⟩
    have hS0 : S = 12 + 4 * N + m := by rw [hS]; unfold sz; omega
    obtain ⟨os, hos⟩ : ∃ os, os = ol N (m : Int) L F t.V := ⟨_, rfl⟩
    obtain ⟨Lc, hLc⟩ : ∃ Lc, Lc = Lw (dq K n D) (n + R) := ⟨_, rfl⟩
    obtain ⟨G, hG⟩ : ∃ G, G = fun i => enc (slC 1 N X m (pH K N n z D H (Cod.cnt Lc i)) i) := ⟨_, rfl⟩
    have HPU : Hid (∀ d, d < N -> wB K n D (n + R) d = true -> ∀ u, Below w.heap.size w u -> ∀ vo vc bo cb, Vec u vo N vc X -> Bec u bo m cb (dH K m (dat m D (cD K z N) H n) d) -> Calls Tryz.prog 154 #[.agg #[.int .i64 (K : Int), .int .i64 (R : Int), .int .i64 (m : Int), .int .i64 q], .slice ro N rc, .int .i64 nu, .int .i64 fr, .agg #[.int .u8 1, .int .i64 (d : Int), .int .i64 tv, .int .i64 tv, .slice vo N vc, .slice bo m cb]] u fun e w' => ∃ uo uc, e = .returned (.agg #[.int .i64 (d : Int), .int .i64 nu, .int .i64 ((os d : Nat) : Int), .slice uo S uc]) /\ OwU u.heap.size w' uo S uc (G d) /\ Below u.heap.size u w') := fun d hd hw u hu vo vc bo cb h1 h2 => by
      have hXb : ∀ j, j < N -> 1 <= X j /\ X j <= 1073741824 := fun j hj => by have := hren.X j hj; rw [hX] at this; omega
      have hok : okS N (m : Int) (slC 1 N X m (dH K m (dat m D (cD K z N) H n) d) d) = true := by
        have := (slC_ok (c := (m : Int)) (G := dH K m (dat m D (cD K z N) H n) d) (kd := 1) (.inl rfl) hXb hd (by omega)).ok
        rw [Int.toNat_natCast] at this
        exact this
      have := RPut_any h u ro rc A L C F (hr.below hu) hL nu fr (slC 1 N X m (dH K m (dat m D (cD K z N) H n) d) d) vo vc bo cb ⟨h1, h2⟩ hok d hd rfl t ht (fun hh => by omega)
      rw [show (slC 1 N X m (dH K m (dat m D (cD K z N) H n) d) d).ce = tv by show X d = tv; rw [HXV.out d, if_pos hw], show (slC 1 N X m (dH K m (dat m D (cD K z N) H n) d) d).st = tv by show mx X N = tv; rw [<- hX]; exact hren.mx] at this
      refine this.mono ?_
      rintro e w' ⟨uo, uc, rfl, h3, h4⟩
      refine ⟨uo, uc, ?_, ?_, h4⟩
      · rw [hos, ol_eq htc hd, hS]
        unfold osl
        rw [show (slC 1 N X m (dH K m (dat m D (cD K z N) H n) d) d).kd = 1 from rfl]
        unfold zv
        rw [ht]
      · rw [hS, hG]
        refine h3.congr ?_
        rw [<- hS, hS0]
        exact enc_D fun j hj => by rw [hNK, hLc]; exact cell_eq hg ((HLW.out d).2 hw) hj
    have hS1 : S <= 1000 := by omega
    have hlen : Cod.cnt Lc N = n + R := by rw [hLc, hNK]; exact (dq_ris (R := R) hg).all
    have HDJ : Hid (∀ j, j < n -> ∃ d : Nat, D j = (d : Int) /\ d < K) := fun j hj => by
      have := gd_ge hg hj
      exact ⟨(D j).toNat, by omega, by omega⟩
    rw [hX, <- hLc, <- hS, <- hos, <- hG]
    rw [<- hLc] at HLW
    unfold AnsL
    rw [show lenE 0 (n + R) = n + R from if_pos rfl, <- hlen]
    unfold AnsB at HDA
    rw [show lenE 0 W = W from if_pos rfl] at HDA
    unfold AnsW at HTO
    rw [htn] at HTO
    obtain ⟨j0, hj, hj0, hj1, hj2⟩ := info_parts info48
    have HNN : Hid (N = K + R /\ W = K * m) := ⟨hNK, hWK⟩
    have hN16 : 1 <= N /\ N <= 16 := by omega
    clear hr hL hl hg ht hz hE htc htn hV hren hX hS hS0 hos hLc hG hlen hNK hWK
    go_enter Tryz.func96, Tryz.ntmps96
    go_wp2_with fail
    rw [<- hw0]
    clear hw0
    refine (HDA.out _ B0.out).mono ?_
    rintro e wa ⟨dob, dcap, rfl, hd, ha⟩
    obtain ⟨gd, rfl, hgd1, hgd2⟩ := hd.at_ h32
    have HA : Hid (Below w0.heap.size w0 wa) := ha
    have HDO : Hid (OwU w0.heap.size wa (some ⟨gd, 0, none⟩) W dcap (dat m D (cD K z N) H 0)) := HD0.out _ _ _ _ hd
    have HGD : Hid (gd < wa.heap.size /\ w0.heap.size <= gd) := ⟨hgd2, hgd1⟩
    clear hd ha HDA HD0 hgd1 hgd2
    obtain ⟨x0, x1, x2, x3⟩ := HPAR.out wa HA.out
    go_wp2_with fail
    refine (HTO.out _ (bth B0.out HA.out)).mono ?_
    rintro e wb ⟨vo, vc, rfl, hown, hb⟩
    have HB : Hid (Below wa.heap.size wa wb) := hb
    have HVE : Hid (Vec wb vo N vc t.V) := hown.vec
    clear hown hb HTO x0 x1 x2 x3
    have hmk1 := run_make_row' (P := Tryz.prog) 27 3 (.int .i64 0) 8 Tryz.underlying27 info3 rfl .i64 .i64 N (by omega) (by omega) wb
    obtain ⟨wz, hwz⟩ : ∃ wz, wz = wb.alloc (.cells (madeCells #[.int .i64 0] N) 3) := ⟨_, rfl⟩
    have BZ : Below wb.heap.size wb wz := by rw [hwz]; exact bal _ _
    have hrz : wz.rowIs wb.heap.size 3 N (fun _ => .int .i64 0) := by rw [hwz]; exact World.rowIs_made wb (.int .i64 0) N 3
    rw [<- hwz] at hmk1
    obtain ⟨wy, hcp, hry, hoy⟩ := run_copy_vec hrz (HVE.out.below BZ) hN16.1
    have hmk2 := run_make_row' (P := Tryz.prog) 202 4 (.bool false) 1 Tryz.underlying202 info4 rfl .i64 .i64 N (by omega) (by omega) wy
    obtain ⟨wx, hwx⟩ : ∃ wx, wx = wy.alloc (.cells (madeCells #[.bool false] N) 4) := ⟨_, rfl⟩
    have BX : Below wy.heap.size wy wx := by rw [hwx]; exact bal _ _
    have hrx : wx.rowIs wy.heap.size 4 N (fun _ => .bool false) := by rw [hwx]; exact World.rowIs_made wy (.bool false) N 4
    rw [<- hwx] at hmk2
    have HRX : Hid (wx.rowIs wy.heap.size 4 N (fun i => .bool (wB K n D 0 i))) := hrx.congr fun i _ => by rw [wB_zero]
    have HRY : Hid (wx.rowIs wb.heap.size 3 N (fun i => .int .i64 (t.V i))) := World.rowIs.of_block hry (BX.block _ (World.rowIs.lt hry))
    have BY : Below wb.heap.size wb wy := BZ.trans (hoy.below (fun b e => by rw [e]; exact Nat.le_refl _) BZ.size)
    have hbx : Below wb.heap.size wb wx := bth BY BX
    have HDX : Hid (OwU w0.heap.size wx (some ⟨gd, 0, none⟩) W dcap (dat m D (cD K z N) H 0)) := OwU.below (OwU.below HDO.out HB.out) hbx
    have HBX : Hid (Below w0.heap.size w0 wx) := bth HA.out (bth HB.out hbx)
    have HNE : Hid (gd < wb.heap.size /\ wb.heap.size < wy.heap.size /\ w0.heap.size <= gd) := ⟨Nat.lt_of_lt_of_le HGD.out.1 HB.out.size, World.rowIs.lt hry, HGD.out.2⟩
    obtain ⟨gn, hgn⟩ : ∃ gn, gn = wb.heap.size := ⟨_, rfl⟩
    obtain ⟨gw, hgw⟩ : ∃ gw, gw = wy.heap.size := ⟨_, rfl⟩
    rw [<- hgn, <- hgw] at HNE
    rw [<- hgw] at HRX hmk2
    rw [<- hgn] at HRY hmk1 hcp
    clear hwz hwx BZ BX BY hrz hry hoy hrx hbx HDO HGD HVE HB hgn hgw
    go_wp2_with fail
    clear hmk1 hcp hmk2
    go_loopw [19] (fun x wr => ∃ j : Nat, j <= n /\ x = .int .i64 (j : Int) /\ Hid (OwU w0.heap.size wr (some ⟨gd, 0, none⟩) W dcap (dat m D (cD K z N) H j)) /\ Hid (wr.rowIs gw 4 N (fun i => .bool (wB K n D j i))) /\ Hid (wr.rowIs gn 3 N (fun i => .int .i64 (t.V i))) /\ Hid (Below w0.heap.size w0 wr)) (fun x _ => n - (intOf x).toNat)
    case atStart => exact ⟨0, Nat.zero_le _, rfl, HDX.out, HRX.out, HRY.out, HBX.out⟩
    case round =>
      obtain ⟨j, hjn, rfl, hdo, hrw, hrn, hb⟩ := hrel
      by_cases hlt : j < n
      · have hll := HLL.out wr (bth B0.out hb.out)
        have hbl := hll.bec j hlt
        obtain ⟨lb, loff, rfl, hlc⟩ := hll.at_ hn0
        obtain ⟨c0, c1⟩ := hlc j hlt
        obtain ⟨d, hdj, hdK⟩ := HDJ.out j hlt
        rw [hdj] at c0
        obtain ⟨p, hp⟩ : ∃ p, p = d * m := ⟨_, rfl⟩
        have hp1 : p + m <= W := by rw [HNN.out.2, hp, <- Nat.succ_mul]; exact Nat.mul_le_mul_right m (by omega)
        obtain ⟨v1, v2⟩ := val_mul hp (by omega)
        obtain ⟨a0, a1, a2, a3⟩ := HPAR.out wr hb.out
        obtain ⟨w5, hrun5, hz5, ho5⟩ := run_copy_ow2 (w := wr.drew) (off := p) (dl := W - p) (dC := dcap - p) (OwU.below hdo.out (bdw _ _)) (hbl.below (bdw _ _)) (by omega) (by omega) (by omega)
        have hcap : W <= dcap := (OwU.bec hdo.out).room
        have HZ5 : Hid (OwU w0.heap.size w5 (some ⟨gd, 0, none⟩) W dcap (dat m D (cD K z N) H (j + 1))) := hz5.congr fun b _ => dat_step (by omega) (by rw [hdj, Int.toNat_natCast]; exact hp) b
        have HW5 : Hid (w5.rowIs gw 4 N (fun i => .bool (wB K n D j i))) := row_only (w := wr.drew) hrw.out ho5 (by have := HNE.out; omega)
        have HN5 : Hid (w5.rowIs gn 3 N (fun i => .int .i64 (t.V i))) := row_only (w := wr.drew) hrn.out ho5 (by have := HNE.out; omega)
        have HB5 : Hid (Below w0.heap.size w0 w5) := (bth hb.out (bdw _ _)).trans (ho5.below (fun _ e => by rw [e]; exact HNE.out.2.2) (bth hb.out (bdw _ _)).size)
        have hdN : d < N := by have := HNN.out; omega
        have HST : Hid ((w5.setCell ⟨gw, d, none⟩ (.bool true)).rowIs gw 4 N (fun i => .bool (wB K n D (j + 1) i)) /\ OwU w0.heap.size (w5.setCell ⟨gw, d, none⟩ (.bool true)) (some ⟨gd, 0, none⟩) W dcap (dat m D (cD K z N) H (j + 1)) /\ (w5.setCell ⟨gw, d, none⟩ (.bool true)).rowIs gn 3 N (fun i => .int .i64 (t.V i)) /\ Below w0.heap.size w0 (w5.setCell ⟨gw, d, none⟩ (.bool true))) := by
          refine ⟨(World.rowIs.set HW5.out d (.bool true)).congr fun y _ => ?_, owu_set_other HZ5.out (by have := HNE.out; omega), row_set_other HN5.out (by have := HNE.out; omega), HB5.out.setCell (by show w0.heap.size <= gw; have := HNE.out; omega) _⟩
          rw [wB_succ hlt hdj]
          by_cases e : y = d
          · rw [if_pos e, if_pos e]
          · rw [if_neg e, if_neg e]
        have k5 := World.rowIs.cell HW5.out hdN
        have f5 := World.rowIs.frozen HW5.out d
        obtain ⟨lb2, loff2, el, hlc2⟩ := (HLL.out w5 (bth B0.out HB5.out)).at_ hn0
        cases el
        have cc0 := (hlc2 j hlt).1
        rw [hdj] at cc0
        clear hlc2
        have i4 : (0 : Int) <= (j : Int) := by omega
        have i5 : (j : Int) < (n : Int) := by omega
        have i6 : (0 : Int) <= (p : Int) := by omega
        have i7 : (p : Int) <= (W : Int) := by omega
        have i8 : (W : Int) <= (dcap : Int) := by omega
        have i9 : ¬ dcap = p := by omega
        have i10 : (p : Int) <= (dcap : Int) := by omega
        have i11 : (0 : Int) <= (d : Int) := by omega
        have i12 : (d : Int) < (N : Int) := by omega
        clear hlc hdj hp hll hbl hz5 ho5 a0 a1 a3 hdo hrw hrn
        go_wp2_with fail
        go_region
        clear hrun5 c0 c1 a2
        go_wp2_with fail
        go_roundw
        case rel => exact ⟨j + 1, by omega, by go_num, HST.out.2.1, HST.out.1, HST.out.2.2.1, HST.out.2.2.2⟩
        case measure => simp [intOf]; omega
      · obtain rfl : j = n := by omega
        obtain ⟨wm, rfl⟩ : ∃ x, x = wr := ⟨wr, rfl⟩
        have HDM : Hid (OwU w0.heap.size wm (some ⟨gd, 0, none⟩) W dcap (dat m D (cD K z N) H j)) := hdo
        have HWM : Hid (wm.rowIs gw 4 N (fun i => .bool (if i < 0 then wB K j D (j + R) i else wB K j D j i))) := hrw.out.congr fun i _ => by rw [if_neg (Nat.not_lt_zero i)]
        have HNM : Hid (wm.rowIs gn 3 N (fun i => .int .i64 (if i < 0 then X i else t.V i))) := hrn.out.congr fun i _ => by rw [if_neg (Nat.not_lt_zero i)]
        have HBM : Hid (Below w0.heap.size w0 wm) := hb
        clear hdo hrw hrn hb
        go_wp2_with fail
        go_loopw [20] (fun x wr => ∃ p : Nat, p <= N /\ x = .int .i64 (p : Int) /\ Hid (OwU w0.heap.size wr (some ⟨gd, 0, none⟩) W dcap (dat m D (cD K z N) H j)) /\ Hid (wr.rowIs gw 4 N (fun i => .bool (if i < p then wB K j D (j + R) i else wB K j D j i))) /\ Hid (wr.rowIs gn 3 N (fun i => .int .i64 (if i < p then X i else t.V i))) /\ Hid (Below w0.heap.size w0 wr)) (fun x _ => N - (intOf x).toNat)
        case atStart => exact ⟨0, Nat.zero_le _, rfl, HDM.out, HWM.out, HNM.out, HBM.out⟩
        case round =>
          obtain ⟨p, hpN, rfl, hdo, hrw, hrn, hb⟩ := hrel
          by_cases hlt2 : p < N
          · have k1 := World.rowIs.cell hrw.out hlt2
            have f1 := World.rowIs.frozen hrw.out p
            simp only [Nat.lt_irrefl, if_false] at k1
            have hall := HWA.out p hlt2
            have hxv := HXV.out p
            obtain ⟨a0, a1, a2, a3⟩ := HPAR.out wr hb.out
            obtain ⟨bb, hbb⟩ : ∃ bb, bb = wB K j D j p := ⟨_, rfl⟩
            obtain ⟨cc, hcc⟩ : ∃ cc, cc = wB K j D (j + R) p := ⟨_, rfl⟩
            have HW2 : Hid ((wr.setCell ⟨gw, p, none⟩ (.bool cc)).rowIs gw 4 N (fun i => .bool (if i < p + 1 then wB K j D (j + R) i else wB K j D j i))) := (World.rowIs.set hrw.out p (.bool cc)).congr fun y _ => by
              by_cases e : y = p
              · rw [if_pos e, e, if_pos (by omega), hcc]
              · rw [if_neg e]
                by_cases g : y < p
                · rw [if_pos g, if_pos (by omega)]
                · rw [if_neg g, if_neg (by omega)]
            have HD2 : Hid (OwU w0.heap.size (wr.setCell ⟨gw, p, none⟩ (.bool cc)) (some ⟨gd, 0, none⟩) W dcap (dat m D (cD K z N) H j)) := owu_set_other hdo.out (by have := HNE.out; omega)
            have hn2 : (wr.setCell ⟨gw, p, none⟩ (.bool cc)).rowIs gn 3 N (fun i => .int .i64 (if i < p then X i else t.V i)) := row_set_other hrn.out (by have := HNE.out; omega)
            have HB2 : Hid (Below w0.heap.size w0 (wr.setCell ⟨gw, p, none⟩ (.bool cc))) := hb.out.setCell (by show w0.heap.size <= gw; have := HNE.out; omega) _
            have k2 := World.rowIs.cell HW2.out hlt2
            rw [if_pos (by omega), <- hcc] at k2
            have k3 := World.rowIs.cell hn2 hlt2
            have f3 := World.rowIs.frozen hn2 p
            have p1 : (0 : Int) <= (p : Int) := by omega
            have p2 : (p : Int) < (N : Int) := by omega
            rw [<- hbb] at k1 hall
            rw [<- hcc] at hall hxv
            have HCC : Hid (cc = (bb || decide (K <= p))) := hall
            have HXP : Hid (X p = if cc = true then tv else t.V p) := hxv
            have HN2 : Hid ((wr.setCell ⟨gw, p, none⟩ (.bool cc)).rowIs gn 3 N (fun i => .int .i64 (if i < p then X i else t.V i))) := hn2
            clear hall hxv hbb hcc hn2 hdo hrw hrn
            have HK0 : Hid (bb = false -> decide ((K : Int) <= (p : Int)) = cc) := fun e => by rw [HCC.out, e, Bool.false_or]; exact decide_eq_decide.2 (by omega)
            have HK1 : Hid (bb = true -> cc = true) := fun e => by rw [HCC.out, e, Bool.true_or]
            clear HCC
            cases cc
            · have hb0 : bb = false := by
                cases bb
                · rfl
                · exact (HK1.out rfl).symm
              subst hb0
              have hk : ¬ (K : Int) <= (p : Int) := of_decide_eq_false (HK0.out rfl)
              have HN3 : Hid ((wr.setCell ⟨gw, p, none⟩ (.bool false)).rowIs gn 3 N (fun i => .int .i64 (if i < p + 1 then X i else t.V i))) := HN2.out.congr fun y _ => by
                by_cases e : y = p
                · rw [e, if_neg (Nat.lt_irrefl _), if_pos (by omega), HXP.out, if_neg (by decide)]
                · by_cases g : y < p
                  · rw [if_pos g, if_pos (by omega)]
                  · rw [if_neg g, if_neg (by omega)]
              clear k3 f3 HN2 HXP
              go_wp2_with fail
              go_roundw
              case rel => exact ⟨p + 1, by omega, by go_num, HD2.out, HW2.out, HN3.out, HB2.out⟩
              case measure => simp [intOf]; omega
            · have HST : Hid (((wr.setCell ⟨gw, p, none⟩ (.bool true)).setCell ⟨gn, p, none⟩ (.int .i64 tv)).rowIs gn 3 N (fun i => .int .i64 (if i < p + 1 then X i else t.V i)) /\ ((wr.setCell ⟨gw, p, none⟩ (.bool true)).setCell ⟨gn, p, none⟩ (.int .i64 tv)).rowIs gw 4 N (fun i => .bool (if i < p + 1 then wB K j D (j + R) i else wB K j D j i)) /\ OwU w0.heap.size ((wr.setCell ⟨gw, p, none⟩ (.bool true)).setCell ⟨gn, p, none⟩ (.int .i64 tv)) (some ⟨gd, 0, none⟩) W dcap (dat m D (cD K z N) H j) /\ Below w0.heap.size w0 ((wr.setCell ⟨gw, p, none⟩ (.bool true)).setCell ⟨gn, p, none⟩ (.int .i64 tv))) := by
                refine ⟨(World.rowIs.set HN2.out p (.int .i64 tv)).congr fun y _ => ?_, row_set_other HW2.out (by have := HNE.out; omega), owu_set_other HD2.out (by have := HNE.out; omega), HB2.out.setCell (by show w0.heap.size <= gn; have := HNE.out; omega) _⟩
                by_cases e : y = p
                · rw [if_pos e, e, if_pos (by omega), HXP.out, if_pos rfl]
                · rw [if_neg e]
                  by_cases g : y < p
                  · rw [if_pos g, if_pos (by omega)]
                  · rw [if_neg g, if_neg (by omega)]
              clear HN2 HXP
              cases bb
              · have hk : (K : Int) <= (p : Int) := of_decide_eq_true (HK0.out rfl)
                go_wp2_with fail
                go_roundw
                case rel => exact ⟨p + 1, by omega, by go_num, HST.out.2.2.1, HST.out.2.1, HST.out.1, HST.out.2.2.2⟩
                case measure => simp [intOf]; omega
              · go_wp2_with fail
                go_roundw
                case rel => exact ⟨p + 1, by omega, by go_num, HST.out.2.2.1, HST.out.2.1, HST.out.1, HST.out.2.2.2⟩
                case measure => simp [intOf]; omega
          · obtain rfl : N = p := by omega
            obtain ⟨wn, rfl⟩ : ∃ x, x = wr := ⟨wr, rfl⟩
            have HWN : Hid (wn.rowIs gw 4 N (fun i => .bool (wB K j D (j + R) i))) := hrw.out.congr fun i hi => by rw [if_pos hi]
            have HNN2 : Hid (Vec wn (some ⟨gn, 0, none⟩) N N X) := row_vec3 (hrn.out.congr fun i hi => by rw [if_pos hi])
            have HBN : Hid (Below w0.heap.size w0 wn) := hb
            have HCC := HCO.out wn gd dcap (OwU.bec hdo.out)
            clear hdo hrw hrn hb HCO
            obtain ⟨x0, x1, x2, x3⟩ := HPAR.out wn HBN.out
            go_wp2_with fail
            refine HCC.mono ?_
            rintro e wc ⟨co, ccap, Tc, Uc, rfl, hrd, hbe, hbc⟩
            have HBC : Hid (Below w0.heap.size w0 wc) := bth HBN.out hbc
            have HWC : Hid (wc.rowIs gw 4 N (fun i => .bool (wB K j D (j + R) i))) := World.rowIs.of_block HWN.out (hbc.block _ (World.rowIs.lt HWN.out))
            have HVC : Hid (Vec wc (some ⟨gn, 0, none⟩) N N X) := HNN2.out.below hbc
            have HRD : Hid (RdC wc co N Tc (fun _ => m) Uc) := hrd
            have HBE : Hid (∀ i, i < N -> Bec wc (Tc i) m (Uc i) (dH K m (dat m D (cD K z N) H j) i)) := hbe
            clear hrd hbe hbc HCC HWN HNN2 x0 x1 x2 x3
            go_wp2_with fail
            go_loopw [22, 23] (fun y x wr => ∃ i : Nat, i <= N /\ x = .int .i64 (i : Int) /\ (∃ ao cp cn, y = .slice ao cn cp /\ cn <= i /\ Hid (cn = Cod.cnt Lc i) /\ Hid (∃ T U, wr.ownsRow wc.heap.size 56 4 (.slice ao cn cp) cn (ptl Lc os nu S T U i) /\ ∀ l, l < i -> Lc l ≠ 0 -> OwU wc.heap.size wr (T l) S (U l) (G l))) /\ Hid (Below wc.heap.size wc wr)) (fun _ x _ => N - (intOf x).toNat)
            case atStart => exact ⟨0, Nat.zero_le _, rfl, ⟨none, 0, 0, rfl, Nat.le_refl _, rfl, fun _ => none, fun _ => 0, World.ownsRow_nil _ _ _ _, fun l hl => absurd hl (Nat.not_lt_zero l)⟩, Below.refl _ _⟩
            case round =>
              obtain ⟨i, hi, rfl, ⟨ao, cp, cn, rfl, hcni, hcn, hcs⟩, hbel⟩ := hrel
              by_cases hlt3 : i < N
              · have i1 : (0 : Int) <= (i : Int) := by omega
                have i2 : (i : Int) < (N : Int) := by omega
                have ck := held (World.rowIs.cell HWC.out hlt3) hbel.out
                have hlw := HLW.out i
                cases hw : wB K j D (j + R) i
                · rw [hw] at ck hlw
                  have h0 : Lc i = 0 := by
                    by_cases e : Lc i = 0
                    · exact e
                    · have := hlw.1 e; cases this
                  have HCT : Hid (cn = Cod.cnt Lc (i + 1)) := by show _ = _; rw [Cod.cnt_skip h0, hcn.out]
                  have HCS : Hid (∃ T U, wr.ownsRow wc.heap.size 56 4 (.slice ao cn cp) cn (ptl Lc os nu S T U (i + 1)) /\ ∀ l, l < i + 1 -> Lc l ≠ 0 -> OwU wc.heap.size wr (T l) S (U l) (G l)) := by
                    obtain ⟨T, U, h1, h2⟩ := hcs.out
                    refine ⟨T, U, ?_, fun l hl hne => ?_⟩
                    · rw [ptl, if_pos h0]; exact h1
                    · have hli : l ≠ i := fun e => hne (by rw [e]; exact h0)
                      exact h2 l (by omega) hne
                  clear hw hlw h0
                  go_wp2_with fail
                  go_roundw
                  case rel => exact ⟨i + 1, by omega, by go_num, ⟨ao, cp, cn, rfl, by omega, HCT.out, HCS.out⟩, hbel⟩
                  case measure => simp [intOf]; omega
                · rw [hw] at ck hlw
                  have HLI : Hid (Lc i ≠ 0) := hlw.2 rfl
                  obtain ⟨lb, lf, rfl, hcc⟩ := HRD.out (by omega)
                  have cz := held (hcc i hlt3) hbel.out
                  have HPC : Hid (∀ o, ((wr.alloc o).cell? ⟨w.heap.size, 0, none⟩ = some (.int .i64 (K : Int)) /\ (wr.alloc o).cell? ⟨w.heap.size, 1, none⟩ = some (.int .i64 (R : Int)) /\ (wr.alloc o).cell? ⟨w.heap.size, 2, none⟩ = some (.int .i64 (m : Int)) /\ (wr.alloc o).cell? ⟨w.heap.size, 3, none⟩ = some (.int .i64 q))) := fun o => HPAR.out _ (bth HBC.out (bth hbel.out (bal _ _)))
                  have HP6 := HPU.out i hlt3 hw (wr.alloc (.cells #[.int .u8 1, .int .i64 (i : Int), .int .i64 tv, .int .i64 tv, .slice (some ⟨gn, 0, none⟩) N N, .slice (Tc i) m (Uc i)] 107)) (bth B0.out (bth HBC.out (bth hbel.out (bal _ _)))) (some ⟨gn, 0, none⟩) N (Tc i) (Uc i) ((HVC.out.below hbel.out).below (bal _ _)) (((HBE.out i hlt3).below hbel.out).below (bal _ _))
                  have e0 := fun o => (HPC.out o).1
                  have e1 := fun o => (HPC.out o).2.1
                  have e2 := fun o => (HPC.out o).2.2.1
                  have e3 := fun o => (HPC.out o).2.2.2
                  clear hw hlw hcc HPC
                  go_wp2_with fail
                  refine HP6.mono ?_
                  rintro e w6 ⟨uo, uc, rfl, hou, h6⟩
                  have HB6 : Hid (Below wr.heap.size wr w6) := bth (bal _ _) h6
                  have HC6 : Hid (Below wc.heap.size wc w6) := bth hbel.out HB6.out
                  have HOU : Hid (OwU wc.heap.size w6 uo S uc (G i)) := hou.mono (bth hbel.out (bal _ _)).size
                  obtain ⟨T, U, ho, hrow⟩ := hcs.out
                  have HTR : Hid (∀ l, l < i -> Lc l ≠ 0 -> OwU wc.heap.size w6 (T l) S (U l) (G l)) := fun l hl hm => (hrow l hl hm).below HB6.out
                  obtain ⟨xs, hxs⟩ : ∃ xs, xs = ptl Lc os nu S T U i := ⟨_, rfl⟩
                  have HOW : Hid (∀ o, (w6.alloc o).ownsRow wc.heap.size 56 4 (.slice ao cn cp) cn xs) := fun o => by rw [hxs]; exact owns_below (owns_below ho HB6.out) (bal _ _)
                  have HX : Hid (xs ++ [.int .i64 (i : Int), .int .i64 nu, .int .i64 ((os i : Nat) : Int), .slice uo S uc] = ptl Lc os nu S (Cod.put i uo T) (Cod.put i uc U) (i + 1)) := by
                    show _ = _
                    rw [ptl, if_neg HLI.out, Cod.put_at, Cod.put_at, hxs]
                    congr 1
                    exact ptl_congr fun l hl => by rw [Cod.put_ne _ _ (by omega), Cod.put_ne _ _ (by omega)]; exact ⟨rfl, rfl⟩
                  have HCT : Hid (cn + 1 = Cod.cnt Lc (i + 1)) := by show _ = _; rw [Cod.cnt_take HLI.out, hcn.out]
                  have hw6 := HC6.out.size
                  clear hou h6 ho hrow hxs HP6 e0 e1 e2 e3 cz ck
                  go_wp2_with (at_builtin; refine wpList_append_lies _ (by rfl) (.tmp 126) (.tmp 133) 43 (by rfl) wc.heap.size 56 j0 (.agg #[.int .i64 0, .int .i64 0, .int .i64 0, .slice none 0 0]) 4 48 Tryz.underlying43 hj hj0 hj1 hj2 (by rfl) (by decide) (.slice ao cn cp) cn xs (by rfl) (HOW.out _) ⟨w6.heap.size, 0, none⟩ 1 1 [.int .i64 (i : Int), .int .i64 nu, .int .i64 ((os i : Nat) : Int), .slice uo S uc] (by rfl) (by rfl) (World.news_of_block (heap_alloc_new w6 _)) (by simp [Value.oneCell']) (by decide) (by unfold maxLen; omega) (by omega) (by simp; omega) (w6.heap.size + 1) (by simp) ?_; intro g5 cap5 w5 hown5 hgrow5 _ _
                               have HO5 : Hid (w5.ownsRow wc.heap.size 56 4 (.slice (some ⟨g5, 0, none⟩) (cn + 1) cap5) (cn + 1) (ptl Lc os nu S (Cod.put i uo T) (Cod.put i uc U) (i + 1))) := by rw [<- HX.out]; exact hown5
                               have HB5 : Hid (Below wc.heap.size wc w5) := (bth HC6.out (bal _ _)).grown hgrow5 (by simp; omega) (fun r hr => ((HOW.out (.cells #[] 3)).lt r hr).1)
                               have HR5 : Hid (∀ l, l < i + 1 -> Lc l ≠ 0 -> OwU wc.heap.size w5 (Cod.put i uo T l) S (Cod.put i uc U l) (G l)) := fun l hl hml => by
                                 by_cases e : l = i
                                 · rw [e, Cod.put_at, Cod.put_at]
                                   exact owns_grown8 (OwU.below HOU.out (bal _ _)) (HOW.out _) (by decide) hgrow5
                                 · rw [Cod.put_ne _ _ e, Cod.put_ne _ _ e]
                                   exact owns_grown8 (OwU.below (HTR.out l (by omega) hml) (bal _ _)) (HOW.out _) (by decide) hgrow5
                               clear hown5 hgrow5)
                  go_roundw
                  case rel => exact ⟨i + 1, by omega, by go_num, ⟨_, cap5, cn + 1, rfl, by omega, HCT.out, Cod.put i uo T, Cod.put i uc U, HO5.out, HR5.out⟩, HB5.out⟩
                  case measure => simp [intOf]; omega
              · obtain rfl : N = i := by omega
                have HFX : Hid (∃ T U, PL w.heap.size wr ao cn cp N Lc os nu S T U G) := by
                  obtain ⟨T, U, h1, h2⟩ := hcs.out
                  have hz := (bth B0.out HBC.out).size
                  exact ⟨T, U, owns_mono h1 hz, fun l hl hne => (h2 l hl hne).mono hz⟩
                have HFB : Hid (Below w.heap.size w wr) := bth B0.out (bth HBC.out hbel.out)
                have HCN : Hid (cn = Cod.cnt Lc N) := hcn
                clear hcs hcn hbel
                go_wp2_with fail
                go_ret2
                obtain ⟨T, U, h1⟩ := HFX.out
                rw [<- HCN.out]
                exact ⟨ao, cp, T, U, rfl, fun _ => h1, HFB.out⟩
  · unfold AnsL
    rw [show lenE E (n + R) = 0 from if_neg he]
    unfold AnsB at HDA
    rw [show lenE E W = 0 from if_neg he] at HDA
    have HW0 : Hid (W = K * m) := hWK
    clear hWK HTO HLL hr hL hl hg ht hz hE hNK
    go_enter Tryz.func96, Tryz.ntmps96
    go_wp2_with fail
    rw [<- hw0]
    clear hw0
    refine (HDA.out _ B0.out).mono ?_
    rintro e wa ⟨dob, dcap, rfl, _, ha⟩
    have HA : Hid (Below w.heap.size w wa) := bth B0.out ha
    clear ha HDA HPAR
    go_wp2_with fail
    go_ret2
    exact ⟨none, 0, fun _ => none, fun _ => 0, rfl, fun e => absurd e he, HA.out⟩
end Go.Proofs.YtemlojjkokooeaaGreat
