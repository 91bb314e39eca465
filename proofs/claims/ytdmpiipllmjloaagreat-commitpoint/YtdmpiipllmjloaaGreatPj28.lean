import Derived.Test.YtdmpiipllmjloaaGreatPj27
namespace Go.Proofs.YtdmpiipllmjloaaGreat
open Go.RowKit
theorem step_append_row {w : World} {ops : Array Oper} {o : Oper} {a : Act} {K : Act -> World -> Prop} {Q : Exit -> Act -> World -> Prop} {E : Prop} (hgd : o.guard = none) (s x : Operand)
    (ho : o.op = .call { callee := .builtin .append, args := #[s, x], argTypes := #[75, 75] }) (base n r ca cx : Nat) (ao xo : Option Addr) (xs : List Value) (T : Nat -> Option Addr) (L U : Nat -> Nat)
    (hs : a.eval s = .slice ao n ca) (hx : a.eval x = .slice xo r cx) (hv : w.ownsRow base 55 1 (.slice ao n ca) n xs) (hl : ∃ B, w.ownsRow B 55 1 (.slice xo r cx) r (Cod.rowsOf r T L U)) (hn : n <= 1000) (hr : r <= 1000) (hB : base <= w.heap.size)
    (cont : ∀ ao' c' w', w'.ownsRow base 55 1 (.slice ao' (n + r) c') (n + r) (xs ++ Cod.rowsOf r T L U) -> w.grownBy w' (Value.slice ao n ca).ownBlock -> K (a.put o.dst (.slice ao' (n + r) c')) w') : if Region.wanted o (yielded ops a.tmps) = true then Oper.wp Tryz.prog o a w K Q else E := by
  have hw : Region.wanted o (yielded ops a.tmps) = true := by simp [Region.wanted, hgd]
  rw [if_pos hw]
  obtain ⟨j0, hj, hj0, hj1, hj2⟩ := info_parts Cod.info23c
  obtain ⟨B, hl⟩ := hl
  rcases hl.2 with ⟨h1, h2⟩ | ⟨g, cap, cur, h1, _⟩
  · cases h1
    have hrun := run_append_owned_none (P := Tryz.prog) (w := w) base 75 o.type 55 j0 1 Tryz.underlying75 hj (.slice ao n ca) n xs hv
    have hc := cont ao ca w (by rw [show Cod.rowsOf 0 T L U = [] from rfl, List.append_nil]; exact hv) ⟨rfl, rfl, rfl, Nat.le_refl _, fun _ _ _ => rfl⟩
    unfold Oper.wp
    simp [execOp, ho, resolve, invoke, builtin, hs, hx, hrun, Result.andThen]
    exact hc
  · cases h1
    refine wp_append_own w s x 75 ho base 55 j0 (.slice none 0 0) 1 24 Tryz.underlying75 hj hj0 hj1 hj2 rfl (by decide) (.slice ao n ca) n xs hs hv ⟨g, 0, none⟩ r cx (Cod.rowsOf r T L U) hx (by rw [Cod.rowsOf_length, Nat.mul_one]) (hl.cells (g := g) rfl) (Cod.rowsOf_one _ _ _ _) (by unfold maxLen; omega) (by omega) hB ?_
    intro v' w' h1 h2 _
    obtain ⟨ao', c', rfl⟩ := Cod.owns_form h1
    exact cont ao' c' w' h1 h2
theorem owns_grown {w w' : World} {B B' e s n cap k ca : Nat} {ao lo : Option Addr} {xs ys : List Value} (h : w.ownsRow B e s (.slice ao n cap) n xs) (hk : w.ownsRow B' 55 1 (.slice lo k ca) k ys) (he : e ≠ 55) (hg : w.grownBy w' (Value.slice lo k ca).ownBlock) : w'.ownsRow B e s (.slice ao n cap) n xs :=
  owns_blocks h fun a ha => by
    obtain ⟨_, hl, cur, hc⟩ := owns_at h ha
    refine hg.block _ hl fun e1 => ?_
    cases lo with
    | none => cases e1
    | some l =>
      obtain ⟨_, _, cur', hc'⟩ := owns_at hk rfl
      have e2 : a.block = l.block := by simpa [Value.ownBlock] using e1
      rw [e2, hc'] at hc
      cases hc
      exact he rfl
def dM (m : Nat) (D : Nat -> UInt8) : Cod.M := fun a b => toK (D (a * m + b))
def dH (K m : Nat) (D : Nat -> UInt8) (i j : Nat) : UInt8 := bK (Cod.enc K (dM m D) i j)
theorem dH_data {K m : Nat} {D : Nat -> UInt8} {i j : Nat} (hi : i < K) : dH K m D i j = D (i * m + j) := by
  unfold dH; rw [Cod.enc_data _ hi]; exact bK_toK _
def erD (E : Int) (n W : Nat) : Int := if E = 0 then (if n = W then 0 else 20) else E
def AnsL (w : World) (E : Int) (m N : Nat) (Lc os : Nat -> Nat) (nu : Int) (n : Nat) (G : Nat -> Nat -> UInt8) (e : Ending) (w' : World) : Prop :=
  ∃ ao cap T U, e = .returned (.tuple #[.slice ao (lenE E m) cap, .int .i64 E]) /\ (E = 0 -> PL w.heap.size w' ao m cap N Lc os nu n T U G) /\ Below w.heap.size w w'
theorem bec_cut {w : World} {b off n cap : Nat} {D : Nat -> UInt8} (h : Bec w (some ⟨b, off, none⟩) n cap D) {p m : Nat} (hp : p + m <= n) (hn : 0 < n) : Bec w (some ⟨b, off + p, none⟩) m m (fun j => D (p + j)) := by
  refine ⟨fun hm => ⟨b, off + p, rfl, fun j hj => ?_⟩, (fun e => by cases e), Nat.le_refl _⟩
  obtain ⟨b', off', e, hc⟩ := h.rd hn
  cases e
  have := hc (p + j) (by omega)
  rw [Nat.add_assoc]; exact this
set_option maxHeartbeats 1000000 in
set_option maxRecDepth 100000 in
theorem Full_any {k r c q : Int} {N W : Nat} {x : Int} (h : Par k r c q N W x) (w : World) (ro : Option Addr) (rn rc : Nat) (A : Nat -> Option Addr) (L C : Nat -> Nat) (F : Nat -> Nat -> UInt8) (hr : Rw w ro rn A L C F) (nu : Int) (kd : UInt8) (ke v : Int) (dob : Option Addr) (dn dc : Nat) (D : Nat -> UInt8) (hD : Bec w dob dn dc D) (E : Int) (hE : erD (erW (erK x N c rn L kd v) q nu ke) dn W = E) :
    Calls Tryz.prog 20 #[.agg #[.int .i64 k, .int .i64 r, .int .i64 c, .int .i64 q], .slice ro rn rc, .int .i64 nu, .int .u8 ((kd.toNat : Nat) : Int), .int .i64 ke, .int .i64 v, .slice dob dn dc] w (AnsL w E N N (fun _ => c.toNat) (osl N c L F kd ke) nu (sz N c) (fun i => enc (slC kd N (fun _ => v) c.toNat (dH k.toNat c.toNat D i) i))) := by
  obtain ⟨E1, hE1⟩ : ∃ E1, erW (erK x N c rn L kd v) q nu ke = E1 := ⟨_, rfl⟩
  rw [hE1] at hE
  have HA : Hid (∀ u, Below w.heap.size w u -> Calls Tryz.prog 35 #[.agg #[.int .i64 k, .int .i64 r, .int .i64 c, .int .i64 q], .slice ro rn rc, .int .i64 nu, .int .u8 ((kd.toNat : Nat) : Int), .int .i64 ke, .int .i64 v] u fun e w' => e = .returned (.tuple #[if E1 = 0 then stv k r c q ro rn rc kd else stz, .int .i64 E1]) /\ Below u.heap.size u w') := fun u hu => written_any h u ro rn rc A L C F (hr.below hu) nu kd ke v E1 hE1
  have HWI : Hid (∀ u, Calls Tryz.prog 36 #[.agg #[.int .i64 k, .int .i64 r, .int .i64 c, .int .i64 q]] u fun e w' => e = .returned (.tuple #[.int .i64 (W : Int), .int .i64 x]) /\ Below u.heap.size u w') := fun u => Width_any h u
  obtain ⟨w0, hw0⟩ : ∃ w0, w0 = w.alloc (.cells #[.int .i64 k, .int .i64 r, .int .i64 c, .int .i64 q] 23) := ⟨_, rfl⟩
  have B0 : Hid (Below w.heap.size w w0) := by show Below _ _ _; rw [hw0]; exact below_alloc _ _
  have L0 : Hid (∀ v, Below w0.heap.size w0 v -> At w v w.heap.size #[.int .i64 k, .int .i64 r, .int .i64 c, .int .i64 q] 23) := fun v hv => (at_made (Below.refl _ _) hw0).below hv
  unfold erD at hE
  unfold AnsL
  by_cases he : E1 = 0
  · subst he
    rw [if_pos rfl] at hE HA
    obtain ⟨hK, _, hke⟩ := erW_zero hE1
    obtain ⟨hR, hk, hvr⟩ := erK_zero hK
    obtain ⟨rfl, rfl, hL⟩ := erR_zero hR
    by_cases hdw : dn = W
    · subst hdw
      rw [if_pos rfl] at hE
      subst hE
      have hle := h.le
      obtain ⟨c1, c2⟩ := h.cell rfl
      obtain ⟨k1, k2, r1, r2, hKW, hN, h32⟩ : 1 <= k /\ k <= 12 /\ 0 <= r /\ r <= 4 /\ (dn : Int) = k * c /\ (rn : Int) = k + r /\ 32 <= dn := by
        rcases h with ⟨hm, hW, hN, _⟩ | ⟨_, _, _, h0⟩
        · obtain ⟨h1, h2, h3, h4, h5, h6, h7, h8, h9⟩ := may_true hm; exact ⟨h1, h2, h3, h4, hW, hN, by omega⟩
        · exact absurd h0 (by decide)
      have HPU : Hid (∀ u, Below w.heap.size w u -> ∀ vo vc lo cc Tc Uc, Vec u vo rn vc (fun _ => v) -> RdC u lo rn Tc (fun _ => c.toNat) Uc -> (∀ i, i < rn -> Bec u (Tc i) c.toNat (Uc i) (dH k.toNat c.toNat D i)) -> Calls Tryz.prog 40 #[stv k r c q ro rn rc kd, .int .i64 nu, .int .i64 ke, .slice vo rn vc, .slice lo rn cc] u fun e w' => ∃ ao cap T U, e = .returned (.slice ao rn cap) /\ PL u.heap.size w' ao rn cap rn (fun _ => c.toNat) (osl rn c L F kd ke) nu (sz rn c) T U (fun i => enc (slC kd rn (fun _ => v) c.toNat (dH k.toNat c.toNat D i) i)) /\ Below u.heap.size u w') := fun u hu vo vc lo cc Tc Uc hv hl hb => by
        have := puts_any h u ro rc A L C F (hr.below hu) hL kd hk nu ke vo vc (fun _ => v) hv (fun _ _ => hvr) lo cc Tc (fun _ => c.toNat) Uc (dH k.toNat c.toNat D) hl hb (fun _ _ => .inr rfl)
        rw [Cod.cnt_full (fun i _ => by omega)] at this
        exact this
      have HAL : Hid (∀ u, Calls Tryz.prog 39 #[.agg #[.int .i64 k, .int .i64 r, .int .i64 c, .int .i64 q], .int .i64 v] u (Ans u 0 rn (fun _ => v))) := fun u => All_any h v u 0 (by unfold erA; rw [if_pos rfl, if_pos (show verB v = true from decide_eq_true hvr)])
      obtain ⟨K, rfl⟩ := Int.eq_ofNat_of_zero_le (show 0 <= k by omega)
      obtain ⟨R, rfl⟩ := Int.eq_ofNat_of_zero_le r1
      obtain ⟨m, rfl⟩ := Int.eq_ofNat_of_zero_le (show 0 <= c by omega)
      simp only [Int.toNat_natCast] at HPU ⊢
      have hdn : dn = K * m := by rw [<- Int.natCast_mul] at hKW; omega
      have hNN : rn = K + R := by omega
      obtain ⟨b, off, rfl, hDc⟩ := hD.rd (show 0 < dn by omega)
      have HDD : Hid (Bec w (some ⟨b, off, none⟩) dn dc D) := hD
      have HCU : Hid (∀ u, Calls Tryz.prog 37 #[.agg #[.int .i64 (K : Int), .int .i64 (R : Int), .int .i64 (m : Int), .int .i64 q], .slice (some ⟨b, off, none⟩) dn dc] u fun e w' => ∃ ao cap, e = .returned (.slice ao K cap) /\ w'.ownsRow u.heap.size 55 1 (.slice ao K cap) K (Cod.rowsOf K (fun i => some ⟨b, off + i * m, none⟩) (fun _ => m) (fun _ => m)) /\ Below u.heap.size u w') := fun u => cut2_any (R : Int) q u b off dn dc (by omega) (by omega) (by omega) hdn hD.room
      have HBC : Hid (∀ u, Below w.heap.size w u -> ∀ i, i < K -> Bec u (some ⟨b, off + i * m, none⟩) m m (fun j => D (i * m + j))) := fun u hu i hi => bec_cut (hD.below hu) (by rw [hdn, <- Nat.succ_mul]; exact Nat.mul_le_mul_right m hi) (by omega)
      have HEN : Hid (∀ u lo cl, Below w.heap.size w u -> (∃ B, u.ownsRow B 55 1 (.slice lo K cl) K (Cod.rowsOf K (fun i => some ⟨b, off + i * m, none⟩) (fun _ => m) (fun _ => m))) -> Calls Tryz.prog 38 #[.int .i64 (K : Int), .int .i64 (R : Int), .slice lo K cl] u fun e w' => ∃ ao cap T U, e = .returned (.tuple #[.slice ao R cap, .int .i64 0]) /\ Cod.Copied w' u.heap.size R (.slice ao R cap) T (fun _ => m) U (Cod.par K (dM m D)) /\ Below u.heap.size u w') := fun u lo cl hu ⟨B, hl⟩ => by
        have hlst : Cod.Lst u lo K (fun i => some ⟨b, off + i * m, none⟩) (fun _ => m) (fun _ => m) (dM m D) := Cod.owns_lst hl (fun i hi => rd_toK (HBC.out u hu i hi).rd)
        have hEn := Cod.Encode_any u (K : Int) (R : Int) lo K cl _ _ _ _ hlst
        have e1 : Cod.mayB (K : Int) (R : Int) = true := decide_eq_true (by omega)
        have hc := Cod.cnt_full (L := fun _ => m) (n := K) (fun i _ => by omega)
        obtain ⟨g1, g2⟩ := Cod.okT_of (L := fun _ => m) (n := K) (show m ≠ 0 by omega) (by omega) (fun _ _ => .inr rfl)
        have e2 : Cod.okEnc K (fun _ => m) (K : Int) (R : Int) = true := by unfold Cod.okEnc Cod.okC; rw [e1, g1, hc]; simp
        have e3 : Cod.len0 (fun _ => m) K = m := by
          rcases Cod.len0_sel (fun _ => m) K with ⟨e, _⟩ | ⟨_, e, _⟩
          · omega
          · exact e
        rw [e1, e2, e3, Int.toNat_natCast, Int.toNat_natCast] at hEn
        exact hEn
      have HNN : Hid (rn = K + R) := hNN
      have hKb : K <= 12 := by omega
      have hRb : R <= 4 := by omega
      have hmb : 0 < m /\ m <= 64 := by omega
      clear h hr hE1 hK hke hR hL hvr hD hDc hk hKW hdn hNN hN k1 k2 r1 r2 c1 c2
      unfold stv at HA HPU
      unfold Ans at HAL
      rw [show lenE 0 rn = rn from if_pos rfl] at HAL ⊢
      have q1 : ((dn : Int) != (dn : Int)) = false := by simp
      go_enter Tryz.func20, Tryz.ntmps20
      go_wp2_with fail
      rw [<- hw0]
      clear hw0
      refine (HA.out _ B0.out).mono ?_
      rintro e wa ⟨rfl, ha⟩
      obtain ⟨w2, hw2⟩ : ∃ w2, w2 = wa.alloc (.cells #[.int .i64 (K : Int), .int .i64 (R : Int), .int .i64 (m : Int), .int .i64 q, .slice ro rn rc, .int .u8 ((kd.toNat : Nat) : Int)] 90) := ⟨_, rfl⟩
      have b2 : Below w.heap.size w w2 := by rw [hw2]; exact below_then (below_then B0.out ha) (below_alloc _ _)
      have HB2 : Hid (Below w.heap.size w w2) := b2
      have H02 : Hid (Below w0.heap.size w0 w2) := by show Below _ _ _; rw [hw2]; exact below_then ha (below_alloc _ _)
      have L2 : Hid (∀ v, Below w2.heap.size w2 v -> At w v wa.heap.size #[.int .i64 (K : Int), .int .i64 (R : Int), .int .i64 (m : Int), .int .i64 q, .slice ro rn rc, .int .u8 ((kd.toNat : Nat) : Int)] 90) := fun v hv => (at_made (below_then B0.out ha) hw2).below hv
      have qq := fun o => ((L0.out wa ha).alloc o)
      have s0 := fun o => (qq o).cell (i := 0) rfl
      have s1 := fun o => (qq o).cell (i := 1) rfl
      have s2 := fun o => (qq o).cell (i := 2) rfl
      have s3 := fun o => (qq o).cell (i := 3) rfl
      clear ha b2 qq
      go_wp2_with fail
      rw [<- hw2]
      clear hw2 s0 s1 s2 s3
      refine (HWI.out _).mono ?_
      rintro e w3 ⟨rfl, h3⟩
      have p := L0.out w3 (below_then H02.out h3)
      have s0 := p.cell (i := 0) rfl
      have s1 := p.cell (i := 1) rfl
      have s2 := p.cell (i := 2) rfl
      have s3 := p.cell (i := 3) rfl
      have H23 : Hid (Below w2.heap.size w2 w3) := h3
      clear h3 p
      go_wp2_with fail
      refine (HCU.out _).mono ?_
      rintro e w4 ⟨lo, lc, rfl, hlo, h4⟩
      clear s0 s1 s2 s3
      have p := L0.out w4 (below_then (below_then H02.out H23.out) h4)
      have s0 := p.cell (i := 0) rfl
      have s1 := p.cell (i := 1) rfl
      have H24 : Hid (Below w2.heap.size w2 w4) := below_then H23.out h4
      have HLO : Hid (w4.ownsRow w3.heap.size 55 1 (.slice lo K lc) K (Cod.rowsOf K (fun i => some ⟨b, off + i * m, none⟩) (fun _ => m) (fun _ => m))) := hlo
      have hEN := HEN.out w4 lo lc (below_then HB2.out H24.out) ⟨_, hlo⟩
      have HS4 : Hid (w3.heap.size <= w4.heap.size) := h4.size
      clear h4 p hlo
      go_wp2_with fail
      refine hEN.mono ?_
      clear hEN s0 s1
      rintro e w5 ⟨po, pc, T, U, rfl, hcop, h5⟩
      have p := L0.out w5 (below_then (below_then H02.out H24.out) h5)
      have s0 := p.cell (i := 0) rfl
      have s1 := p.cell (i := 1) rfl
      have s2 := p.cell (i := 2) rfl
      have s3 := p.cell (i := 3) rfl
      have H25 : Hid (Below w2.heap.size w2 w5) := below_then H24.out h5
      have HCO : Hid (Cod.Copied w5 w4.heap.size R (.slice po R pc) T (fun _ => m) U (Cod.par K (dM m D))) := hcop
      have HL5 : Hid (w5.ownsRow w3.heap.size 55 1 (.slice lo K lc) K (Cod.rowsOf K (fun i => some ⟨b, off + i * m, none⟩) (fun _ => m) (fun _ => m))) := owns_below HLO.out h5
      have HS34 : Hid (w3.heap.size <= w5.heap.size /\ w2.heap.size <= w3.heap.size) := ⟨Nat.le_trans HS4.out h5.size, H23.out.size⟩
      clear h5 p hcop
      go_wp2_with fail
      refine (HAL.out _).mono ?_
      rintro e w6 ⟨vo, vc, rfl, hvo, h6⟩
      clear s0 s1 s2 s3
      have H26 : Hid (Below w2.heap.size w2 w6) := below_then H25.out h6
      have HVO : Hid (Own w5.heap.size w6 vo rn vc (fun _ => v)) := hvo
      have HL6 : Hid (w6.ownsRow w3.heap.size 55 1 (.slice lo K lc) K (Cod.rowsOf K (fun i => some ⟨b, off + i * m, none⟩) (fun _ => m) (fun _ => m))) := owns_below HL5.out h6
      have HC6 : Hid (w6.ownsRow w4.heap.size 55 1 (.slice po R pc) R (Cod.rowsOf R T (fun _ => m) U)) := owns_below HCO.out.out h6
      have HR6 : Hid (∀ i, i < R -> OwU w4.heap.size w6 (T i) m (U i) (fun j => bK (Cod.par K (dM m D) i j))) := fun i hi => by
        have := HCO.out.row i hi; rw [cells_bK] at this; exact owns_below this h6
      have HS6 : Hid (w3.heap.size <= w6.heap.size) := Nat.le_trans HS34.out.1 h6.size
      have CH : Hid (∀ u, Below w2.heap.size w2 u -> (u.cell? ⟨wa.heap.size, 0, none⟩ = some (.int .i64 (K : Int)) /\ u.cell? ⟨wa.heap.size, 1, none⟩ = some (.int .i64 (R : Int)) /\ u.cell? ⟨wa.heap.size, 2, none⟩ = some (.int .i64 (m : Int)) /\ u.cell? ⟨wa.heap.size, 3, none⟩ = some (.int .i64 q) /\ u.cell? ⟨wa.heap.size, 4, none⟩ = some (.slice ro rn rc) /\ u.cell? ⟨wa.heap.size, 5, none⟩ = some (.int .u8 ((kd.toNat : Nat) : Int)))) := fun u hu => by
        have p := L2.out u hu
        exact ⟨p.cell (i := 0) rfl, p.cell (i := 1) rfl, p.cell (i := 2) rfl, p.cell (i := 3) rfl, p.cell (i := 4) rfl, p.cell (i := 5) rfl⟩
      obtain ⟨s0, s1, s2, s3, s4, s5⟩ := CH.out w6 H26.out
      have AP : Hid (∀ ao' c' w7, w7.ownsRow w3.heap.size 55 1 (.slice ao' (K + R) c') (K + R) (Cod.rowsOf K (fun i => some ⟨b, off + i * m, none⟩) (fun _ => m) (fun _ => m) ++ Cod.rowsOf R T (fun _ => m) U) -> w6.drew.grownBy w7 (Value.slice lo K lc).ownBlock -> Below w2.heap.size w2 w7 /\ Calls Tryz.prog 40 #[.agg #[.int .i64 (K : Int), .int .i64 (R : Int), .int .i64 (m : Int), .int .i64 q, .slice ro rn rc, .int .u8 ((kd.toNat : Nat) : Int)], .int .i64 nu, .int .i64 ke, .slice vo rn vc, .slice ao' rn c'] w7 fun e w' => ∃ ao cap T U, e = .returned (.slice ao rn cap) /\ PL w7.heap.size w' ao rn cap rn (fun _ => m) (osl rn (m : Int) L F kd ke) nu (sz rn (m : Int)) T U (fun i => enc (slC kd rn (fun _ => v) m (dH K m D i) i)) /\ Below w7.heap.size w7 w') := fun ao' c' w7 hown hgrow => by
        have hb7 : Below w2.heap.size w2 w7 := (H26.out.drew).grown hgrow H26.out.size (fun r hr => Nat.le_trans HS34.out.2 (HL6.out.lt r hr).1)
        refine ⟨hb7, ?_⟩
        have hbw := below_then HB2.out hb7
        rw [<- Cod.rowsOf_join, <- HNN.out] at hown
        refine HPU.out w7 hbw vo vc ao' c' (Cod.join K (fun i => some ⟨b, off + i * m, none⟩) T) (Cod.join K (fun _ => m) U) ?_ (fun hp => ?_) (fun i hi => ?_)
        · exact Own.vec (B := w5.heap.size) (owns_grown (w := w6.drew) HVO.out HL6.out (by decide) hgrow)
        · rcases hown.2 with ⟨_, h1⟩ | ⟨g, cap', cur, h1, _⟩
          · omega
          · cases h1
            refine ⟨g, 0, rfl, fun i hi => ?_⟩
            have := hown.cells (g := g) rfl i _ (Cod.rowsOf_get rn _ _ _ i hi)
            rw [Addr.add_lit, Cod.join_const] at this
            exact this
        · unfold Cod.join
          by_cases e : i < K
          · rw [if_pos e, if_pos e]
            exact (HBC.out w7 hbw i e).congr fun j _ => (dH_data e).symm
          · rw [if_neg e, if_neg e]
            have hi2 : i - K < R := by have := HNN.out; omega
            have := (OwU.bec (B := w4.heap.size) (owns_grown (w := w6.drew) (HR6.out (i - K) hi2) HL6.out (by decide) hgrow))
            refine this.congr fun j _ => ?_
            unfold dH Cod.par
            rw [show K + (i - K) = i by omega]
      clear hvo h6
      go_wp2_with fail
      go_region_held3 (fun u => u.cell? ⟨wa.heap.size, 0, none⟩ = some (.int .i64 (K : Int)) /\ u.cell? ⟨wa.heap.size, 1, none⟩ = some (.int .i64 (R : Int)) /\ u.cell? ⟨wa.heap.size, 2, none⟩ = some (.int .i64 (m : Int)) /\ u.cell? ⟨wa.heap.size, 3, none⟩ = some (.int .i64 q) /\ u.cell? ⟨wa.heap.size, 4, none⟩ = some (.slice ro rn rc) /\ u.cell? ⟨wa.heap.size, 5, none⟩ = some (.int .u8 ((kd.toNat : Nat) : Int))) (go_keep) ((first
        | (go_at_call 40; refine HP7.out.2.mono ?_; rintro e w8 ⟨qo, qc, QT, QU, rfl, hpl, h8⟩; have H28 : Hid (Below w2.heap.size w2 w8) := below_then HP7.out.1 h8; have HPL : Hid (PL w7.heap.size w8 qo rn qc rn (fun _ => m) (osl rn (m : Int) L F kd ke) nu (sz rn (m : Int)) QT QU (fun i => enc (slC kd rn (fun _ => v) m (dH K m D i) i))) := hpl; obtain ⟨f0, f1, f2, f3, f4, f5⟩ := CH.out w8 H28.out; clear hpl h8)
        | (refine step_append_row (by rfl) (.tmp 69) (.tmp 70) (by rfl) w3.heap.size K R lc pc lo po (Cod.rowsOf K (fun i => some ⟨b, off + i * m, none⟩) (fun _ => m) (fun _ => m)) T (fun _ => m) U (by rfl) (by rfl) HL6.out ⟨_, HC6.out⟩ (by omega) (by omega) HS6.out ?_; intro ao7 c7 w7 hown7 hgrow7; have hq := AP.out ao7 c7 w7 hown7 hgrow7; have HP7 : Hid _ := hq; obtain ⟨e0, e1, e2, e3, e4, e5⟩ := CH.out w7 hq.1; rw [<- HNN.out]; clear hq hown7 hgrow7)))
      go_wp2_with fail
      go_ret2
      exact ⟨qo, qc, QT, QU, rfl, fun _ => HPL.out.mono (Nat.le_trans HB2.out.size HP7.out.1.size), below_then HB2.out H28.out⟩
    · rw [if_neg hdw] at hE
      subst hE
      have q1 : ((dn : Int) != (W : Int)) = true := by simp; omega
      rw [show lenE 20 rn = 0 from rfl]
      clear h hr hE1 hK hke hR hL hvr hD hk hdw
      unfold stv at HA
      go_enter Tryz.func20, Tryz.ntmps20
      go_wp2_with fail
      rw [<- hw0]
      clear hw0
      refine (HA.out _ B0.out).mono ?_
      rintro e wa ⟨rfl, ha⟩
      have qq := fun o => ((L0.out wa ha).alloc o)
      have s0 := fun o => (qq o).cell (i := 0) rfl
      have s1 := fun o => (qq o).cell (i := 1) rfl
      have s2 := fun o => (qq o).cell (i := 2) rfl
      have s3 := fun o => (qq o).cell (i := 3) rfl
      have HBA : Hid (Below w.heap.size w wa) := below_then B0.out ha
      clear ha qq
      go_wp2_with fail
      refine (HWI.out _).mono ?_
      rintro e w3 ⟨rfl, h3⟩
      go_wp2_with fail
      go_ret2
      exact ⟨none, 0, fun _ => none, fun _ => 0, rfl, (fun e => absurd e (by decide)), below_then HBA.out (below_then (below_alloc _ _) h3)⟩
  · rw [if_neg he] at hE HA
    subst hE
    have e1 : (E1 != 0) = true := by simp [he]
    rw [show lenE E1 N = 0 from if_neg he]
    have HNE : Hid (¬ E1 = 0) := he
    clear h hr hE1 hD he
    unfold stz at HA
    go_enter Tryz.func20, Tryz.ntmps20
    go_wp2_with fail
    rw [<- hw0]
    clear hw0
    refine (HA.out _ B0.out).mono ?_
    rintro e wa ⟨rfl, ha⟩
    go_wp2_with fail
    go_ret2
    exact ⟨none, 0, fun _ => none, fun _ => 0, rfl, (fun e => absurd e HNE.out), below_then (below_then B0.out ha) (below_alloc _ _)⟩
end Go.Proofs.YtdmpiipllmjloaaGreat
