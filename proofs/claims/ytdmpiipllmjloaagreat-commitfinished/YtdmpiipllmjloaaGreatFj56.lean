/- CoF FnB RoO: what is needed of them. -/
import Derived.Test.YtdmpiipllmjloaaGreatFj54
import Derived.Lib.SmallJoins
import Derived.Deep.Matrix
import Derived.Deep.FieldsWide
import Derived.OpenShut
import Derived.Deep.Grids
import Derived.Test.YtdmpiipllmjloaaGreatFj20
import Derived.Test.YtdmpiipllmjloaaGreatFj41
import Derived.Test.YtdmpiipllmjloaaGreatFj53
namespace Go.Proofs.YtdmpiipllmjloaaGreat
/-- What is known of a row that is finished. -/
structure Fin (K N : Nat) (c v : Int) (L : Nat → Nat) (F : Nat → Nat → UInt8) : Prop where
  K1 : 1 ≤ K
  K12 : K ≤ 12
  KN : K ≤ N
  N16 : N ≤ 16
  c8 : 8 ≤ c
  vv : 1 ≤ v ∧ v ≤ 1073741824
  pu : Pu N (yy N c L F)
  on : Once N 2 (yy N c L F)
  w1 : (Cn.wins (K : Int) (Cn.hP N c L F) (Cn.hQ N c L F) N).getD 0 0 = v
  w2 : 0 < (Cn.wins (K : Int) (Cn.hP N c L F) (Cn.hQ N c L F) N).length
theorem mis_hd {K N : Nat} {c v : Int} {L : Nat → Nat} {F : Nat → Nat → UInt8} (h : Fin K N c v L F) {i : Nat} (hi : i < N) : mis (zv N c L F 2 v) c.toNat i ≠ 0 ↔ hd (yy N c L F) v i = false := by
  have hz := (hd_zz (v := v) (yy_ok N c L F) hi).1
  rw [← zv_pure h.pu hi] at hz
  have h8 := h.c8
  unfold mis
  by_cases e : (zv N c L F 2 v i).ce = 0
  · rw [if_pos e]
    refine ⟨fun _ => ?_, fun _ => by omega⟩
    cases g : hd (yy N c L F) v i
    · rfl
    · exact absurd e (hz.1 g)
  · rw [if_neg e]
    exact ⟨fun a => absurd rfl a, fun a => by rw [hz.2 e] at a; cases a⟩
/-- The vector that is told. -/
theorem told_V {K N : Nat} {c v : Int} {L : Nat → Nat} {F : Nat → Nat → UInt8} (h : Fin K N c v L F) : ∀ l, l < N → (tS (yy N c L F) 2 v (2 * N)).V l = v := by
  have hv0 : v ≠ 0 := by have := h.vv; omega
  have hk1 := h.K1
  obtain ⟨_, hct, _⟩ := wins_top (by omega) h.w2 h.w1
  rw [ct_ch h.pu hv0] at hct
  intro l hl
  rcases tS_is (v := v) (.inr rfl) (yy_ok N c L F) (2 * N) (Nat.le_refl _) with ⟨h1, h2⟩ | ⟨j, h1, h2, h3, h4, h5⟩
  · exfalso
    have : ch (yy N c L F) N v = 0 := ch_z fun i hi => by
      cases e : hd (yy N c L F) v i
      · rfl
      · have key : ∀ j, j < 2 * N → hB (yy N c L F j) 2 v = true → False := fun j hj hb => by
          obtain ⟨_, a, b⟩ := hB_true hb
          have := h2 j hj
          rw [show tB (yy N c L F j) 2 v = true from decide_eq_true ⟨a, by rw [st_ce (yy_ok N c L F) h.pu hj a]; exact b⟩] at this
          cases this
        rcases hd_true.1 e with g | g
        · exact (key _ (by omega) g).elim
        · exact (key _ (by omega) g).elim
    omega
  · obtain ⟨a, b⟩ := of_decide_eq_true h3
    rw [h2, h.pu j h1 a l hl, ← st_ce (yy_ok N c L F) h.pu h1 a]
    exact b
/-- The row behind n raw writes of what is missing. -/
theorem fin_cg {K N n : Nat} {c v : Int} {L : Nat → Nat} {F : Nat → Nat → UInt8} (h : Fin K N c v L F) {os : Nat → Nat} (ho : ∀ i, os i < 2) (P : Nat → Bool) (hn : n ≤ Cod.cnt (mis (zv N c L F 2 v) c.toNat) N) :
    Cg N c v (cH K (zv N c L F 2 v) N) (yy N c L F) (yy N c (wp P 0 (bP (mis (zv N c L F 2 v) c.toNat) os N L (fun _ => sz N c) n) N) (bP (mis (zv N c L F 2 v) c.toNat) os N F (fun i => enc (slC 2 N (tS (yy N c L F) 2 v (2 * N)).V c.toNat (cH K (zv N c L F 2 v) N i) i)) n)) (fun i => decide (∃ s, s < n ∧ Cod.sel (mis (zv N c L F 2 v) c.toNat) N s = i)) P 0 :=
  cg_of h.N16 h.c8 h.vv (told_V h) ho hn (fun _ _ _ e => absurd rfl e) (fun _ hi e => (mis_hd h hi).1 e)
theorem fin_win {K N : Nat} {c v : Int} {L L' : Nat → Nat} {F F' : Nat → Nat → UInt8} (h : Fin K N c v L F) {wr P : Nat → Bool} {G : Nat → Nat → UInt8} (hg : Cg N c v G (yy N c L F) (yy N c L' F') wr P 0) (hk : K ≤ ch (yy N c L' F') N v) : (Cn.wins (K : Int) (Cn.hP N c L' F') (Cn.hQ N c L' F') N).getD 0 0 = v ∧ 0 < (Cn.wins (K : Int) (Cn.hP N c L' F') (Cn.hQ N c L' F') N).length := by
  have hv0 : v ≠ 0 := by have := h.vv; omega
  have hk1 := h.K1
  obtain ⟨_, _, htop⟩ := wins_top (by omega) h.w2 h.w1
  have hp' := hg.pu h.pu
  refine wins_first hv0 (by omega) (by rw [ct_ch hp' hv0]; omega) fun u hu => ?_
  have hu0 : u ≠ 0 := by have := h.vv; omega
  rw [ct_ch hp' hu0]
  have h1 := hg.fewer (u := u) (by omega)
  have h2 := htop u hu hu0
  rw [ct_ch h.pu hu0] at h2
  omega
/-- What is read while missing cells are mended. -/
theorem mend_part {N K m : Nat} {c : Int} {kd : UInt8} {v : Int} {X : Nat → Int} {z z' : Nat → Sl} (hK : K ≤ 12) (hN : N ≤ 16) (hm : m = c.toNat) (hm0 : 0 < m) (hz : Zok N c z) (hE : erL K z N = 0) (hE' : erL K z' N = 0) (h : ∀ i, i < N → ((z i).ce ≠ 0 → z' i = z i) ∧ ((z i).ce = 0 → z' i = zSl ∨ New N c kd v X (cH K z N) i (z' i))) :
    ∀ b, b < K * m → cat2 m (cH K z' N) b = cat2 m (cH K z N) b := by
  have hk : K ≤ Cod.cnt (Lz z) N := by
    unfold erL at hE
    by_cases g : K ≤ Cod.cnt (Lz z) N
    · exact g
    · rw [if_neg g] at hE; exact absurd hE (by decide)
  have hk' : K ≤ Cod.cnt (Lz z') N := by
    unfold erL at hE'
    by_cases g : K ≤ Cod.cnt (Lz z') N
    · exact g
    · rw [if_neg g] at hE'; exact absurd hE' (by decide)
  have hS := Cod.sel_is (Lz z) N
  have hS' := Cod.sel_is (Lz z') N
  have hle : ∀ n, n ≤ N → Cod.cnt (Lz z) n ≤ Cod.cnt (Lz z') n := fun n => by
    induction n with
    | zero => intro _; exact Nat.le_refl _
    | succ n ih =>
      intro hn
      have := ih (by omega)
      by_cases e : Lz z n = 0
      · rw [Cod.cnt_skip e]
        exact Nat.le_trans this (Cod.cnt_mono _ (Nat.le_succ n))
      · have e' : Lz z' n ≠ 0 := by
          have hce : (z n).ce ≠ 0 := by
            rcases hz.dn n (by omega) with ⟨_, a⟩ | ⟨a, _⟩
            · exact absurd a e
            · exact a
          unfold Lz at e ⊢
          rw [(h n (by omega)).1 hce]; exact e
        rw [Cod.cnt_take e, Cod.cnt_take e']; omega
  intro b hb
  have hi : b / m < K := Nat.div_lt_of_lt_mul (by rw [Nat.mul_comm]; exact hb)
  have hbm : b % m < m := Nat.mod_lt _ hm0
  unfold cat2 cH
  rw [Cod.enc_data _ hi, Cod.enc_data _ hi]
  congr 1
  unfold cD
  refine Cod.dec_enc (n := N) (Hz z') (cD K z N) hK hN (fun t ht => hS'.lt t (by omega)) (fun t t' h1 h2 => hS'.rise t t' h1 (by omega)) (b % m) (fun t ht => ?_) (b / m) hi
  have hl := hS'.lt t (by omega)
  have hne := hS'.there t (by omega)
  by_cases e : (z (Cod.sel (Lz z') N t)).ce = 0
  · rcases (h _ hl).2 e with g | g
    · exact absurd (show Lz z' (Cod.sel (Lz z') N t) = 0 from congrArg Sl.dn g) hne
    · unfold Hz
      rw [g.D (b % m) (by rw [← hm]; exact hbm)]
      unfold cH
      rw [toK_bK]
  · have hzz := (h _ hl).1 e
    have hLz : Lz z (Cod.sel (Lz z') N t) ≠ 0 := by
      show (z (Cod.sel (Lz z') N t)).dn ≠ 0
      rw [← hzz]; exact hne
    obtain ⟨s, hs, hsi⟩ := hS.all _ hl hLz
    have hsK : s < K := by
      have h1 : Cod.cnt (Lz z') (Cod.sel (Lz z') N t) ≤ t := by
        rcases Nat.lt_or_ge t (Cod.cnt (Lz z') (Cod.sel (Lz z') N t)) with g | g
        · have := Cod.sel_prefix (Lz z') (Nat.le_of_lt hl) g
          have h2 := (Cod.sel_is (Lz z') (Cod.sel (Lz z') N t)).lt t g
          omega
        · exact g
      have h3 := hle (Cod.sel (Lz z') N t) (Nat.le_of_lt hl)
      have h4 : s ≤ Cod.cnt (Lz z) (Cod.sel (Lz z') N t) := by
        rcases Nat.lt_or_ge (Cod.cnt (Lz z) (Cod.sel (Lz z') N t)) s with g | g
        · have hx := (Cod.sel_is (Lz z) N).rise (Cod.cnt (Lz z) (Cod.sel (Lz z') N t)) s g hs
          have hy := hS.there (Cod.cnt (Lz z) (Cod.sel (Lz z') N t)) (by omega)
          rw [hsi] at hx
          have hq : Cod.cnt (Lz z) (Cod.sel (Lz z) N (Cod.cnt (Lz z) (Cod.sel (Lz z') N t)) + 1) ≤ Cod.cnt (Lz z) (Cod.sel (Lz z') N t) := Cod.cnt_mono _ hx
          obtain ⟨s2, hs2, hsi2⟩ := (Cod.sel_is (Lz z) (Cod.sel (Lz z') N t)).all _ hx hy
          have hp := Cod.sel_prefix (Lz z) (Nat.le_of_lt hl) hs2
          rw [hsi2] at hp
          have hinj : s2 = Cod.cnt (Lz z) (Cod.sel (Lz z') N t) := by
            rcases Nat.lt_trichotomy s2 (Cod.cnt (Lz z) (Cod.sel (Lz z') N t)) with g1 | g1 | g1
            · have := hS.rise s2 _ g1 (by omega); omega
            · exact g1
            · omega
          omega
        · exact g
      omega
    have hback := Cod.dec_back (n := N) (R := Cod.sel (Lz z) N) (Hz z) hK hN (fun t ht => hS.lt t (by omega)) (fun t t' h1 h2 => hS.rise t t' h1 (by omega)) s (b % m) hsK
    rw [hsi] at hback
    rw [show cD K z N = Cod.dec K (Cod.sel (Lz z) N) (Hz z) from rfl, hback]
    unfold Hz
    rw [hzz]
/-- While it is finished the same is read. -/
theorem fin_n {K N n : Nat} {c v : Int} {L : Nat → Nat} {F : Nat → Nat → UInt8} (h : Fin K N c v L F) {os : Nat → Nat} (ho : ∀ i, os i < 2) (hn : n ≤ Cod.cnt (mis (zv N c L F 2 v) c.toNat) N) (hE : erL K (zv N c L F 2 v) N = 0) :
    Cts K N c (wp (fun _ => true) 0 (bP (mis (zv N c L F 2 v) c.toNat) os N L (fun _ => sz N c) n) N) (bP (mis (zv N c L F 2 v) c.toNat) os N F (fun i => enc (slC 2 N (tS (yy N c L F) 2 v (2 * N)).V c.toNat (cH K (zv N c L F 2 v) N i) i)) n) v (cat2 c.toNat (cH K (zv N c L F 2 v) N)) := by
  have hg := fin_cg h ho (fun _ => true) hn
  have hv0 : v ≠ 0 := by have := h.vv; omega
  have hk1 := h.K1
  have h8 := h.c8
  obtain ⟨_, hct, _⟩ := wins_top (by omega) h.w2 h.w1
  rw [ct_ch h.pu hv0] at hct
  generalize wp (fun _ => true) 0 (bP (mis (zv N c L F 2 v) c.toNat) os N L (fun _ => sz N c) n) N = L' at *
  generalize bP (mis (zv N c L F 2 v) c.toNat) os N F (fun i => enc (slC 2 N (tS (yy N c L F) 2 v (2 * N)).V c.toNat (cH K (zv N c L F 2 v) N i) i)) n = F' at *
  have hp' := hg.pu h.pu
  have hcn : K ≤ ch (yy N c L' F') N v := by
    have : ch (yy N c L F) N v ≤ ch (yy N c L' F') N v := Cn.dl_sub fun i hi e => by
      rw [hg.hdv (yy_ok N c L F) (yy_ok N c L' F') hv0 hi, e, Bool.or_true]; rfl
    omega
  have hth : erL K (zv N c L' F' 2 v) N = 0 := rd_there (P := hd (yy N c L' F') v) zok_of h.c8 (fun i hi => by rw [zv_pure hp' hi, ← (hd_zz (v := v) (yy_ok N c L' F') hi).1]) hcn
  refine ⟨fin_win h hg hcn, hth, mend_part (kd := 2) (v := v) (X := fun _ => v) h.K12 h.N16 rfl (by omega) zok_of hE hth fun i hi => ?_⟩
  obtain ⟨_, b, d⟩ := hg.here hv0 hi
  rw [zv_pure hp' hi]
  refine ⟨fun e => ?_, fun e => ?_⟩
  · have hh : hd (yy N c L F) v i = true := ((hd_zz (v := v) (yy_ok N c L F) hi).1).2 (by rw [← zv_pure h.pu hi]; exact e)
    have hw : decide (∃ s, s < n ∧ Cod.sel (mis (zv N c L F 2 v) c.toNat) N s = i) = false := by
      cases g : decide (∃ s, s < n ∧ Cod.sel (mis (zv N c L F 2 v) c.toNat) N s = i)
      · rfl
      · have := hg.not i hi g; rw [hh] at this; cases this
    rw [b rfl hw, zv_pure h.pu hi]
  · have hh : hd (yy N c L F) v i = false := by
      cases g : hd (yy N c L F) v i
      · rfl
      · have := ((hd_zz (v := v) (yy_ok N c L F) hi).1).1 g
        rw [← zv_pure h.pu hi] at this
        exact absurd e this
    cases g : decide (∃ s, s < n ∧ Cod.sel (mis (zv N c L F 2 v) c.toNat) N s = i)
    · left
      rw [b rfl g]
      exact (hd_zz (v := v) (yy_ok N c L F) hi).2 hh
    · exact .inr (d rfl g)
/-- Behind all of it: all drives hold the version, and no pair one twice. -/
theorem fin_all {K N : Nat} {c v : Int} {L : Nat → Nat} {F : Nat → Nat → UInt8} (h : Fin K N c v L F) {os : Nat → Nat} (ho : ∀ i, os i < 2) (P : Nat → Bool) {L' : Nat → Nat} {F' : Nat → Nat → UInt8} (hL' : L' = wp P 0 (bP (mis (zv N c L F 2 v) c.toNat) os N L (fun _ => sz N c) (Cod.cnt (mis (zv N c L F 2 v) c.toNat) N)) N) (hF' : F' = bP (mis (zv N c L F 2 v) c.toNat) os N F (fun i => enc (slC 2 N (tS (yy N c L F) 2 v (2 * N)).V c.toNat (cH K (zv N c L F 2 v) N i) i)) (Cod.cnt (mis (zv N c L F 2 v) c.toNat) N)) :
    Pu N (yy N c L' F') ∧ Once N 2 (yy N c L' F') ∧ (∀ i, i < N → hd (yy N c L' F') v i = P i) ∧ (K ≤ (Cn.dl P N).length → (Cn.wins (K : Int) (Cn.hP N c L' F') (Cn.hQ N c L' F') N).getD 0 0 = v ∧ 0 < (Cn.wins (K : Int) (Cn.hP N c L' F') (Cn.hQ N c L' F') N).length) := by
  have hg := fin_cg h ho P (Nat.le_refl _)
  rw [← hL', ← hF'] at hg
  have hv0 : v ≠ 0 := by have := h.vv; omega
  have hhd : ∀ i, i < N → hd (yy N c L' F') v i = P i := fun i hi => by
    rw [hg.hdv (yy_ok N c L F) (yy_ok N c L' F') hv0 hi]
    cases e : hd (yy N c L F) v i
    · obtain ⟨s, hs, hsi⟩ := (Cod.sel_is (mis (zv N c L F 2 v) c.toNat) N).all i hi ((mis_hd h hi).2 e)
      show (P i && (decide (∃ s, s < Cod.cnt (mis (zv N c L F 2 v) c.toNat) N ∧ Cod.sel (mis (zv N c L F 2 v) c.toNat) N s = i) || false)) = P i
      rw [decide_eq_true ⟨s, hs, hsi⟩, Bool.true_or, Bool.and_true]
    · rw [Bool.or_true, Bool.and_true]
  refine ⟨hg.pu h.pu, fun i hi e0 e1 e2 => ?_, hhd, fun hk => fin_win h hg ?_⟩
  · cases hl : P i
    · rw [(hg.gone i hi hl).1] at e0; exact absurd e0 (by decide)
    · cases hw : decide (∃ s, s < Cod.cnt (mis (zv N c L F 2 v) c.toNat) N ∧ Cod.sel (mis (zv N c L F 2 v) c.toNat) N s = i)
      · obtain ⟨a, b⟩ := hg.same i hi hl hw
        rw [a] at e0 e2
        rw [b] at e1 e2
        exact h.on i hi e0 e1 e2
      · obtain ⟨s, hs, a, b, _⟩ := hg.new i hi hl hw
        obtain ⟨n0, n1⟩ := hd_false (hg.not i hi hw)
        rcases hs with rfl | rfl
        · rw [show 1 - 0 = 1 from rfl] at b
          rw [Nat.add_zero] at a
          rw [b] at e1 e2
          rw [a.ce] at e2
          rw [hB_of hv0 e1 e2.symm] at n1; cases n1
        · rw [show 1 - 1 = 0 from rfl, Nat.add_zero] at b
          rw [b] at e0 e2
          rw [a.ce] at e2
          rw [hB_of hv0 e0 e2] at n0; cases n0
  · unfold ch
    rw [Cn.dl_congr hhd]; exact hk
/-- With drives wiped it is still read. -/
theorem fin_w {K R N : Nat} {c v : Int} {L : Nat → Nat} {F : Nat → Nat → UInt8} (h : Fin K N c v L F) (hKR : K + R = N) {os : Nat → Nat} (ho : ∀ i, os i < 2) (P : Nat → Bool) (hP : K ≤ (Cn.dl P N).length) (hE : erL K (zv N c L F 2 v) N = 0) {L1 L' : Nat → Nat} {F' : Nat → Nat → UInt8} (hL1 : L1 = wp (fun _ => true) 0 (bP (mis (zv N c L F 2 v) c.toNat) os N L (fun _ => sz N c) (Cod.cnt (mis (zv N c L F 2 v) c.toNat) N)) N) (hL' : L' = wp P 0 (bP (mis (zv N c L F 2 v) c.toNat) os N L (fun _ => sz N c) (Cod.cnt (mis (zv N c L F 2 v) c.toNat) N)) N) (hF' : F' = bP (mis (zv N c L F 2 v) c.toNat) os N F (fun i => enc (slC 2 N (tS (yy N c L F) 2 v (2 * N)).V c.toNat (cH K (zv N c L F 2 v) N i) i)) (Cod.cnt (mis (zv N c L F 2 v) c.toNat) N))
    (hv : Cod.verB K R c.toNat (fun i b => toK ((cdT (yy N c L1 F') v 2 i).D b)) = true) : Cts K N c L' F' v (cat2 c.toNat (cH K (zv N c L F 2 v) N)) := by
  have h8 := h.c8
  obtain ⟨p1, o1, d1, _⟩ := fin_all h ho (fun _ => true) hL1 hF'
  obtain ⟨p2, _, d2, w2⟩ := fin_all h ho P hL' hF'
  have hnew := coded_new h.K12 hKR h.N16 h.c8 p1 o1 d1 hv
  have hc1 := fin_n h ho (Nat.le_refl _) hE
  rw [← hL1, ← hF'] at hc1
  have hyy : ∀ j, P (j / 2) = true → yy N c L' F' j = yy N c L1 F' j := fun j hj => yy_congr (by rw [hL', hL1, wp_left hj, wp_left rfl]) rfl
  have hth : erL K (zv N c L' F' 2 v) N = 0 := rd_there (P := P) zok_of h.c8 (fun i hi => by rw [zv_pure p2 hi, ← (hd_zz (v := v) (yy_ok N c L' F') hi).1, d2 i hi]) hP
  refine ⟨w2 hP, hth, fun b hb => ?_⟩
  rw [← hc1.data b hb]
  refine rd_new (kd := 2) (v := v) (X := fun _ => v) h.K12 h.N16 rfl (by omega) (fun i hi => ?_) hth b hb
  cases e : P i
  · left
    rw [zv_pure p2 hi]
    exact (hd_zz (v := v) (yy_ok N c L' F') hi).2 (by rw [d2 i hi]; exact e)
  · right
    have hz : zv N c L' F' 2 v i = zv N c L1 F' 2 v i := by
      rw [zv_pure p2 hi, zv_pure p1 hi, hyy _ (by rw [show 2 * i / 2 = i by omega]; exact e), hyy _ (by rw [show (2 * i + 1) / 2 = i by omega]; exact e)]
    rw [hz]; exact hnew i hi
end Go.Proofs.YtdmpiipllmjloaaGreat
namespace Go.Proofs.YtdmpiipllmjloaaGreat
open Go.RowKit
theorem wp_lenF {N n : Nat} {c : Int} {P : Nat → Bool} {L os Lc : Nat → Nat} (hL : ∀ j, j < 2 * N → L j = 0 ∨ L j = sz N c) : ∀ j, j < 2 * N → wp P 0 (bP Lc os N L (fun _ => sz N c) n) N j = 0 ∨ wp P 0 (bP Lc os N L (fun _ => sz N c) n) N j = sz N c := fun j hj => by
  unfold wp
  split
  · exact .inl rfl
  · exact row_n Lc hL n j hj
theorem pu_ofF {N : Nat} {c : Int} {L : Nat → Nat} {F : Nat → Nat → UInt8} (h : ∀ j, j < 2 * N → puJ N c L F j) : Pu N (yy N c L F) := fun j hj hk l hl => by
  have hi := kd_is (yy_ok N c L F) hj hk
  rcases yq (N := N) (c := c) (L := L) (F := F) j with e | ⟨e1, e2⟩
  · rw [e] at hk; exact absurd hk (by decide)
  · have := h j hj e1 (by rw [← e2]; exact hk) l (by rw [← e2, (ok_of hi.1).vn]; exact hl)
    rw [e2]; exact this.1
set_option maxHeartbeats 2000000 in
set_option maxRecDepth 100000 in
theorem finish_law (k r c q : Int) (w : World) (ro : Option Addr) (rn rc : Nat) (A : Nat → Option Addr) (L C : Nat → Nat) (F : Nat → Nat → UInt8) (hr : Rw w ro rn A L C F) (tob : Option Addr) (tn tc : Nat) (TV : Nat → Bool) (hT : RdT w tob tn TV) :
    Calls Tryz.prog 4 #[.agg #[.int .i64 k, .int .i64 r, .int .i64 c, .int .i64 q], .slice ro rn rc, .slice tob tn tc] w fun e w' => e = .returned (.bool true) ∧ Below w.heap.size w w' := by
  obtain ⟨N, W, x, h⟩ := par_any k r c q
  obtain ⟨E, hE⟩ : ∃ E, erCF x k c q 0 N rn L F = E := ⟨_, rfl⟩
  obtain ⟨f, hf⟩ : ∃ f, erCR x W k c q N rn L F = f := ⟨_, rfl⟩
  have hk1 : 1 ≤ k ∨ x ≠ 0 := by
    rcases h with ⟨hm, _⟩ | ⟨_, _, _, h0⟩
    · exact .inl (may_true hm).1
    · exact .inr (by rw [h0]; decide)
  have HPU := fun u (hu : Below w.heap.size w u) => cFin_any h u ro rn rc A L C F (hr.below hu) 0 hk1 E hE
  have HRO := fun u (hu : Below w.heap.size w u) => cRead_any h u ro rn rc A L C F (hr.below hu) f hf
  by_cases hE0 : E = 0
  · subst hE0
    unfold erCF at hE
    have hR0 : erR x N c rn L = 0 := by
      by_cases e : erR x N c rn L = 0
      · exact e
      · rw [if_neg e] at hE; exact absurd hE e
    rw [if_pos hR0] at hE
    obtain ⟨hx, hrn, hL⟩ := erR_zero hR0
    subst hx hrn
    have hq0 : 0 ≤ (0 : Int) ∧ 0 < q := Classical.byContradiction fun a => by rw [if_neg a] at hE; exact absurd hE (by decide)
    rw [if_pos hq0] at hE
    have hwb : wnB k rn c L F = true := by
      cases e : wnB k rn c L F
      · rw [e, if_neg (by decide)] at hE; exact absurd hE (by decide)
      · rfl
    rw [if_pos hwb] at hE
    have hbd := wnV_bd k rn c L F
    obtain ⟨K, m, hk, hcm, hK1, hK12, hKN, hN16, hm8, hm64, hWm⟩ := h.nums
    obtain ⟨hmy, hW, hW2, hq⟩ := h.fine
    have hNr : (rn : Int) = k + r := by
      rcases h with ⟨_, _, h2, _⟩ | ⟨_, _, _, h0⟩
      · exact h2
      · exact absurd h0 (by decide)
    have hdl := dir_le hW2
    have hc8 : 8 ≤ c := by omega
    have hcn : c.toNat = m := by omega
    have hkn : k.toNat = K := by omega
    have hPU2 : Hid (∀ u, Below w.heap.size w u → Calls Tryz.prog 15 #[.agg #[.int .i64 (K : Int), .int .i64 r, .int .i64 c, .int .i64 q], .slice ro rn rc, .int .i64 0] u fun e w' => ∃ lo lc T U, e = .returned (.tuple #[.slice lo (Cod.cnt (mis (zv rn c L F 2 (wnV k rn c L F)) c.toNat) rn) lc, .int .i64 0]) ∧ PL u.heap.size w' lo (Cod.cnt (mis (zv rn c L F 2 (wnV k rn c L F)) c.toNat) rn) lc rn (mis (zv rn c L F 2 (wnV k rn c L F)) c.toNat) (osl rn c L F 2 (rnV k rn c L F)) 0 (sz rn c) T U (fun i => enc (slC 2 rn (tS (yy rn c L F) 2 (wnV k rn c L F) (2 * rn)).V c.toNat (cH K (zv rn c L F 2 (wnV k rn c L F)) rn i) i)) ∧ Below u.heap.size u w') := fun u hu => by
      rw [← hk, ← hkn]
      refine (HPU u hu).mono ?_
      rintro e w' ⟨ao, cap, T, U, rfl, h1, h2⟩
      exact ⟨ao, cap, T, U, by rw [lenE_zero], h1 rfl, h2⟩
    rw [hk] at HRO ⊢
    by_cases hf0 : f = 0
    · subst hf0
      unfold erCR at hf
      have hO : erOL (erR 0 rn c rn L) (wnB k rn c L F) = 0 := by unfold erOL; rw [hR0, if_pos rfl, hwb, if_pos rfl]
      rw [if_pos hO] at hf
      obtain ⟨hV1, hV2⟩ : erV2 (erK 0 rn c rn L 2 (wnV k rn c L F)) (erL k.toNat (zv rn c L F 2 (wnV k rn c L F)) rn) = 0 ∧ De.erB 0 W q W (wnD k rn c L F) = 0 := by
        unfold erV2 at hf ⊢
        by_cases e : (if erK 0 rn c rn L 2 (wnV k rn c L F) = 0 then erL k.toNat (zv rn c L F 2 (wnV k rn c L F)) rn else erK 0 rn c rn L 2 (wnV k rn c L F)) = 0
        · rw [if_pos e] at hf; exact ⟨e, hf⟩
        · rw [if_neg e] at hf; exact absurd hf e
      have hisD := (De.erB_of hV2).2.2
      have hfewO := (De.okD_few hW (De.isD_true hisD).1).1
      obtain ⟨v0, hv0⟩ : ∃ v0, v0 = wnV k rn c L F := ⟨_, rfl⟩
      obtain ⟨B, hB⟩ : ∃ B, B = wnD k rn c L F := ⟨_, rfl⟩
      have hBB : B = cat2 c.toNat (cH K (zv rn c L F 2 v0) rn) := by rw [hB, hv0, ← hkn]; rfl
      have hw1 : (Cn.wins (K : Int) (Cn.hP rn c L F) (Cn.hQ rn c L F) rn).getD 0 0 = v0 := by rw [hv0, ← hk]; rfl
      have hw2 : 0 < (Cn.wins (K : Int) (Cn.hP rn c L F) (Cn.hQ rn c L F) rn).length := by rw [← hk]; exact of_decide_eq_true hwb
      obtain ⟨os, hos⟩ : ∃ os, os = osl rn c L F 2 (rnV k rn c L F) := ⟨_, rfl⟩
      have hos2 : ∀ i, os i < 2 := fun i => by rw [hos]; exact oN_lt _ _ _ _
      rw [← hos] at hPU2
      rw [← hv0] at hbd hPU2 hE
      rw [hkn] at hE
      rw [hk] at hv0 hB
      rw [← hv0, ← hB] at HRO
      rw [← hk] at hB
      rw [← hB] at hisD hfewO
      have hv01 : v0 ≠ 0 := (wins_top (by omega) hw2 hw1).1
      have hv12 : 1 ≤ v0 ∧ v0 ≤ 1073741824 := ⟨by omega, hbd.2⟩
      obtain ⟨P, hP⟩ : ∃ P : Nat → Bool, ∀ i, P i = !(decide (i < tn) && TV i) := ⟨_, fun _ => rfl⟩
      have hfin : (∀ j, j < 2 * rn → isS rn c (L j) (F j) = true → (zq rn c L F j).st < 1073741825) ∧ (∀ i, i < rn → ¬ twB rn c L F 2 i) → (∀ j, j < 2 * rn → puJ rn c L F j) → Fin K rn c v0 L F := fun hFi hPu => ⟨hK1, hK12, hKN, hN16, hc8, hv12, pu_ofF hPu, once_of (.inr rfl) hFi.2, hw1, hw2⟩
      have hmi : erF 0 v0 = 0 := by unfold erF; rw [if_pos rfl, if_pos hv12]
      refine finish_good (K := K) (cm := Cod.cnt (mis (zv rn c L F 2 v0) c.toNat) rn) (Z := sz rn c) w ro rn rc tob tn tc TV hT P hP (by omega) hN16 (mis (zv rn c L F 2 v0) c.toNat) os (fun i => enc (slC 2 rn (tS (yy rn c L F) 2 v0 (2 * rn)).V c.toNat (cH K (zv rn c L F 2 v0) rn i) i)) rfl hos2 A L C F hr v0 ((nm B 0 4 : Nat) : Int) ((nm B 4 1 : Nat) : Int) (nm B 5 2) (De.rdR B 7) (De.rdV B 7) (by omega) ((∀ j, j < 2 * rn → isS rn c (L j) (F j) = true → (zq rn c L F j).st < 1073741825) ∧ (∀ i, i < rn → ¬ twB rn c L F 2 i)) (∀ j, j < 2 * rn → puJ rn c L F j) (Cod.verB K r.toNat c.toNat (fun i b => toK ((cdT (yy rn c (wp (fun _ => true) 0 (bP (mis (zv rn c L F 2 v0) c.toNat) os rn L (fun _ => sz rn c) (Cod.cnt (mis (zv rn c L F 2 v0) c.toNat) rn)) rn) (bP (mis (zv rn c L F 2 v0) c.toNat) os rn F (fun i => enc (slC 2 rn (tS (yy rn c L F) 2 v0 (2 * rn)).V c.toNat (cH K (zv rn c L F 2 v0) rn i) i)) (Cod.cnt (mis (zv rn c L F 2 v0) c.toNat) rn))) v0 2 i).D b)) = true) hPU2 HRO ?_ ?_ ?_ ?_ ?_ ?_ ?_
      · exact fun u hu => by rw [← hk]; exact fit_any h u ro rc A L C F (hr.below hu) hL 1073741825
      · exact fun u hu => by rw [← hk]; exact pure_any h u ro rc A L C F (hr.below hu) hL
      · intro hFi hPu n hn u g cp A' C' hrw
        have hct := fin_n (hfin hFi hPu) hos2 hn hE
        rw [← hBB] at hct
        have := cts_read h hk u (some ⟨g, 0, none⟩) cp A' _ C' _ hrw (wp_lenF hL) v0 hv12 _ hct hisD
        rw [hk] at this
        exact this
      · intro hFi hPu u g cp A' C' hrw
        obtain ⟨p1, _, d1, _⟩ := fin_all (hfin hFi hPu) hos2 (fun _ => true) rfl rfl
        have hR1 : erR 0 rn c rn (wp (fun _ => true) 0 (bP (mis (zv rn c L F 2 v0) c.toNat) os rn L (fun _ => sz rn c) (Cod.cnt (mis (zv rn c L F 2 v0) c.toNat) rn)) rn) = 0 := by unfold erR; rw [if_pos rfl, if_pos ⟨rfl, wp_lenF hL⟩]
        have hnil := Cn.dl_empty (p := fun d => !Cn.hbv (Cn.hP rn c (wp (fun _ => true) 0 (bP (mis (zv rn c L F 2 v0) c.toNat) os rn L (fun _ => sz rn c) (Cod.cnt (mis (zv rn c L F 2 v0) c.toNat) rn)) rn) (bP (mis (zv rn c L F 2 v0) c.toNat) os rn F (fun i => enc (slC 2 rn (tS (yy rn c L F) 2 v0 (2 * rn)).V c.toNat (cH K (zv rn c L F 2 v0) rn i) i)) (Cod.cnt (mis (zv rn c L F 2 v0) c.toNat) rn))) (Cn.hQ rn c (wp (fun _ => true) 0 (bP (mis (zv rn c L F 2 v0) c.toNat) os rn L (fun _ => sz rn c) (Cod.cnt (mis (zv rn c L F 2 v0) c.toNat) rn)) rn) (bP (mis (zv rn c L F 2 v0) c.toNat) os rn F (fun i => enc (slC 2 rn (tS (yy rn c L F) 2 v0 (2 * rn)).V c.toNat (cH K (zv rn c L F 2 v0) rn i) i)) (Cod.cnt (mis (zv rn c L F 2 v0) c.toNat) rn))) v0 d) (n := rn) (fun i hi => by rw [hbv_hd p1 hv01 hi, d1 i hi]; rfl)
        rw [← hk]
        refine (Cn.Missing_any h u (some ⟨g, 0, none⟩) rn cp A' _ C' _ hrw 0 hR1 v0 0 hmi [] (by rw [if_pos rfl]; exact hnil)).mono ?_
        rintro e w' ⟨a, cap, rfl, _, hb⟩
        exact ⟨a, cap, rfl, hb⟩
      · intro u g cp A' C' hrw
        rw [← hk]
        refine (coded_any h u (some ⟨g, 0, none⟩) cp A' _ C' _ hrw (wp_lenF hL) v0 hv01).mono ?_
        rintro e w' ⟨y, rfl, hy, hb⟩
        exact ⟨y, rfl, fun e => by have := (hy e).2; rw [hkn] at this; exact this, hb⟩
      · intro hFi hPu hCo hmany u g cp A' C' hrw
        have hboth := Cn.dl_both P rn
        have hct := fin_w (R := r.toNat) (hfin hFi hPu) (by omega) hos2 P (by omega) hE rfl rfl rfl hCo
        rw [← hBB] at hct
        have := cts_read h hk u (some ⟨g, 0, none⟩) cp A' _ C' _ hrw (wp_lenF hL) v0 hv12 _ hct hisD
        rw [hk] at this
        exact this
      · exact ⟨_, _, _, _, _, _, _, fun u g cp A' C' hrw => by rw [← hk]; exact cRead_any h u (some ⟨g, 0, none⟩) rn cp A' _ C' _ hrw _ rfl⟩
    · exact finish_rbad (K := K) w ro rn rc tob tn tc _ _ _ f _ _ _ _ _ _ hf0 hPU2 HRO
  · refine finish_bad w ro rn rc tob tn tc E f _ _ _ _ _ _ hE0 (fun u hu => (HPU u hu).mono ?_) HRO
    rintro e w' ⟨ao, cap, T, U, rfl, _, hb⟩
    exact ⟨ao, cap, by rw [lenE_ne _ hE0], hb⟩
end Go.Proofs.YtdmpiipllmjloaaGreat
namespace Go.Proofs.YtdmpiipllmjloaaGreat
open Go.RowKit Go.ChangeShapes Go.WideShapes Go.Deep Go.Joins

section
variable {H : Type} {enc : TypeId × Value → H} {w : World} {held : Bool}
theorem u8_of {z : Int} (h : (Lit.int .u8 z).wf = true) : (((UInt8.ofNat z.toNat).toNat : Nat) : Int) = z := by
  have b := bounds_u8 h
  rw [UInt8.toNat_ofNat']
  omega
/-- Bytes that came in. -/
theorem open_bytes {fuel : Nat} {v : Value} {x : DataW H × List MemPlace} (h : DataW.trod enc Tryz.prog w 0 (fun _ => true) held fuel 55 [v] = some x) :
    ∃ ao n cp F, v = .slice ao n cp ∧ Bec w ao n cp F ∧ cp ≤ 9223372036854775807 := by
  rcases open_ints Tryz.underlying55 Tryz.underlying5 (by kernel_rfl) h with ⟨hcs, _⟩ | ⟨a, l, cp, zs, hcs, _, hl, hm, hz, _, hcell, hwz⟩
  · simp at hcs
    exact ⟨none, 0, 0, fun _ => 0, hcs, bec_nil _ _, by decide⟩
  · simp at hcs
    simp only [if_true] at hz
    refine ⟨some a, l, cp, fun j => UInt8.ofNat (zs.getD j 0).toNat, hcs, ⟨fun hn => ?_, (fun e => by cases e), hl⟩, by unfold maxLen at hm; omega⟩
    have h0 := hcell 0 (by omega)
    obtain ⟨b, off, spot⟩ := a
    have hspot : spot = none := by simpa [Addr.add] using World.cell?_spot h0
    subst hspot
    refine ⟨b, off, rfl, fun j hj => ?_⟩
    have hj2 : j < zs.length := by omega
    have hc := hcell j hj2
    rw [add_plain] at hc
    rw [hc, u8_of (by rw [show zs.getD j 0 = zs[j] by simp [List.getD, hj2]]; exact hwz _ (List.getElem_mem hj2))]
theorem array4 {α : Type} {cs : Array α} (h : cs.size = 4) : ∃ c0 c1 c2 c3, cs = #[c0, c1, c2, c3] := by
  obtain ⟨l⟩ := cs
  match l, h with
  | [c0, c1, c2, c3], _ => exact ⟨c0, c1, c2, c3, rfl⟩
theorem cells3 : Tryz.prog.cellsOf 3 = 1 := by kernel_rfl
theorem cells23 : Tryz.prog.cellsOf 23 = 4 := by kernel_rfl
theorem cells25 : Tryz.prog.cellsOf 55 = 1 := by kernel_rfl
set_option maxRecDepth 100000 in
theorem open_par {r : Reach} {b0 : Nat} {v : Value} {d : DataW H} {p : List MemPlace} (hv : Value.okWide Tryz.prog w r b0 23 v) (h : DataW.Trod enc Tryz.prog w 0 (fun _ => true) held 23 v d p) :
    ∃ k ro c q, v = .agg #[.int .i64 k, .int .i64 ro, .int .i64 c, .int .i64 q] := by
  obtain ⟨cs, rfl, hsz⟩ := okWide_struct Tryz.underlying23 hv
  obtain ⟨c0, c1, c2, c3, rfl⟩ := array4 (hsz.trans cells23)
  obtain ⟨fuel, hf⟩ := h
  obtain ⟨z0, z1, z2, z3, m, _, _, t0, t1, t2, t3⟩ := trod_struct4 Tryz.underlying23 hf
  simp [Value.cells, cells3] at t0 t1 t2 t3
  obtain ⟨a0, e0, _, _⟩ := DataW.trod_int Tryz.underlying3 t0
  obtain ⟨a1, e1, _, _⟩ := DataW.trod_int Tryz.underlying3 t1
  obtain ⟨a2, e2, _, _⟩ := DataW.trod_int Tryz.underlying3 t2
  obtain ⟨a3, e3, _, _⟩ := DataW.trod_int Tryz.underlying3 t3
  simp at e0 e1 e2 e3
  subst e0 e1 e2 e3
  exact ⟨a0, a1, a2, a3, rfl⟩
end
end Go.Proofs.YtdmpiipllmjloaaGreat
namespace Go.Proofs.YtdmpiipllmjloaaGreat
open Go.RowKit Go.ChangeShapes Go.WideShapes Go.Deep Go.Joins

section
variable {H : Type} {enc : TypeId × Value → H} {w : World} {held : Bool}
theorem cells26 : Tryz.prog.cellsOf 67 = 2 := by kernel_rfl
end
end Go.Proofs.YtdmpiipllmjloaaGreat
namespace Go.Proofs.YtdmpiipllmjloaaGreat
open Go.RowKit Go.ChangeShapes Go.WideShapes Go.Deep Go.Joins
section
variable {H : Type} {enc : TypeId × Value → H} {w : World} {held : Bool}
theorem open_bools' {fuel : Nat} {v : Value} {x : DataW H × List MemPlace} (h : DataW.trod enc Tryz.prog w 0 (fun _ => true) held fuel 28 [v] = some x) :
    ∃ ao n cp V, v = .slice ao n cp ∧ RdT w ao n V := by
  rcases Go.Deep.open_bools Tryz.underlying28 Tryz.underlying4 (by kernel_rfl) h with ⟨hcs, _⟩ | ⟨ad, l, c, B, hcs, _, hl, hm, _, hcell⟩
  · simp at hcs
    exact ⟨none, 0, 0, fun _ => false, hcs, fun hp => absurd hp (Nat.lt_irrefl 0)⟩
  · simp at hcs
    refine ⟨some ad, l, c, B, hcs, fun hp => ?_⟩
    obtain ⟨b, off, sp⟩ := ad
    have h0 := hcell 0 (by omega)
    have hs : sp = none := by simpa [Addr.add] using World.cell?_spot h0
    subst hs
    refine ⟨b, off, rfl, fun i hi => ?_⟩
    have := hcell i (by omega)
    rw [add_plain] at this
    exact this
set_option maxRecDepth 100000 in
theorem open_row {fuel : Nat} {v : Value} {x : DataW H × List MemPlace} (h : DataW.trod enc Tryz.prog w 0 (fun _ => true) held fuel 24 [v] = some x) :
    ∃ ro n rc A L C F, v = .slice ro n rc ∧ Rw w ro n A L C F := by
  rcases open_slice Tryz.underlying24 h with ⟨hcs, hx⟩ | ⟨a, len, cap, m, n, D, Pl, hcs, _, hl, hm, hmm, hx, hc⟩
  · simp at hcs
    exact ⟨none, 0, 0, fun _ => none, fun _ => 0, fun _ => 0, fun _ _ => 0, hcs, ⟨fun h => absurd h (Nat.lt_irrefl 0), fun i hi => absurd hi (by omega)⟩⟩
  · simp at hcs
    simp only [if_true] at hmm
    subst hmm
    rw [cells26] at hc
    have each : ∀ i, i < m → ∃ y : (Option Addr × Nat × Nat × (Nat → UInt8)) × Option Addr × Nat × Nat × (Nat → UInt8), w.cell? ((a.add (i * 2)).add 0) = some (.slice y.1.1 y.1.2.1 y.1.2.2.1) ∧ w.cell? ((a.add (i * 2)).add 1) = some (.slice y.2.1 y.2.2.1 y.2.2.2.1) ∧ Bec w y.1.1 y.1.2.1 y.1.2.2.1 y.1.2.2.2 ∧ Bec w y.2.1 y.2.2.1 y.2.2.2.1 y.2.2.2.2 := by
      intro i hi
      obtain ⟨cs', h1, h2⟩ := hc i hi
      obtain ⟨_, hlen, hcell⟩ := World.cells?_some h1
      match cs', hlen with
      | [c0, c1], _ =>
        obtain ⟨xs, m', _, _, _, hl', ha⟩ := DataW.trod_array Tryz.underlying67 h2
        match xs, hl' with
        | [z0, z1], _ =>
          have t0 := ha 0 (by decide)
          have t1 := ha 1 (by decide)
          simp [cells25] at t0 t1
          obtain ⟨a0, n0, k0, F0, rfl, r0, _⟩ := open_bytes t0
          obtain ⟨a1, n1, k1, F1, rfl, r1, _⟩ := open_bytes t1
          exact ⟨((a0, n0, k0, F0), a1, n1, k1, F1), hcell 0 (by decide), hcell 1 (by decide), r0, r1⟩
    haveI : Inhabited ((Option Addr × Nat × Nat × (Nat → UInt8)) × Option Addr × Nat × Nat × (Nat → UInt8)) := ⟨((none, 0, 0, fun _ => 0), none, 0, 0, fun _ => 0)⟩
    obtain ⟨y, hy⟩ := choose_lt each
    refine ⟨some a, len, m, fun j => if j % 2 = 0 then (y (j / 2)).1.1 else (y (j / 2)).2.1, fun j => if j % 2 = 0 then (y (j / 2)).1.2.1 else (y (j / 2)).2.2.1, fun j => if j % 2 = 0 then (y (j / 2)).1.2.2.1 else (y (j / 2)).2.2.2.1, fun j => if j % 2 = 0 then (y (j / 2)).1.2.2.2 else (y (j / 2)).2.2.2.2, hcs, ⟨fun h0 => ?_, fun j hj => ?_⟩⟩
    · have k0 := (hy 0 (by omega)).1
      obtain ⟨b, off, spot⟩ := a
      have hspot : spot = none := by simpa [Addr.add] using World.cell?_spot k0
      subst hspot
      refine ⟨b, off, rfl, fun i hi => ?_⟩
      obtain ⟨q0, q1, _⟩ := hy i (by omega)
      simp only [add_plain, Nat.add_zero] at q0 q1
      simp only [show 2 * i % 2 = 0 by omega, show (2 * i + 1) % 2 = 1 by omega, show 2 * i / 2 = i by omega, show (2 * i + 1) / 2 = i by omega, if_true, show ¬ (1 : Nat) = 0 by decide, if_false]
      exact ⟨q0, q1⟩
    · obtain ⟨_, _, q2, q3⟩ := hy (j / 2) (by omega)
      by_cases e : j % 2 = 0
      · simp only [if_pos e]; exact q2
      · simp only [if_neg e]; exact q3
end
end Go.Proofs.YtdmpiipllmjloaaGreat
namespace Go.Proofs.YtdmpiipllmjloaaGreat.De
open Go.RowKit Go.ChangeShapes Go.WideShapes Go.Deep Go.Joins

section
variable {H : Type} {enc : TypeId × Value → H} {w : World} {held : Bool}
end
end Go.Proofs.YtdmpiipllmjloaaGreat.De
