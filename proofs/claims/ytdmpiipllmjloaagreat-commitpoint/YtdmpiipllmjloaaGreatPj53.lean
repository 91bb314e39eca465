import Derived.Test.YtdmpiipllmjloaaGreatPj29
import Derived.Test.YtdmpiipllmjloaaGreatPj36
namespace Go.Proofs.YtdmpiipllmjloaaGreat
theorem New.const {N : Nat} {c : Int} {kd : UInt8} {v : Int} {X : Nat -> Int} {G : Nat -> Nat -> UInt8} {i : Nat} {y : Sl} (h : New N c kd v X G i y) (hX : ∀ l, l < N -> X l = v) : New N c kd v (fun _ => v) G i y := ⟨h.is, h.kd, h.st, fun l hl => (h.V l hl).trans (hX l hl), h.D⟩
theorem cg_of {N n : Nat} {c v ke : Int} {L : Nat -> Nat} {F : Nat -> Nat -> UInt8} {Lc os : Nat -> Nat} {X : Nat -> Int} {G : Nat -> Nat -> UInt8} {P : Nat -> Bool} (hN : N <= 16) (hc : 8 <= c) (hv : 1 <= v /\ v <= 1073741824) (hX : ∀ l, l < N -> X l = v) (ho : ∀ i, os i < 2) (hn : n <= Cod.cnt Lc N)
    (hke : ∀ i, i < N -> Lc i ≠ 0 -> ke ≠ 0 -> hB (yy N c L F (2 * i + os i)) 2 ke = false) (hno : ∀ i, i < N -> Lc i ≠ 0 -> hd (yy N c L F) v i = false) :
    Cg N c v G (yy N c L F) (yy N c (wp P 0 (bP Lc os N L (fun _ => sz N c) n) N) (bP Lc os N F (fun i => enc (slC 2 N X c.toNat (G i) i)) n)) (fun i => decide (∃ s, s < n /\ Cod.sel Lc N s = i)) P ke := by
  have hS := Cod.sel_is Lc N
  have hout : ∀ j, P (j / 2) = true -> (∀ s, s < n -> 2 * Cod.sel Lc N s + os (Cod.sel Lc N s) ≠ j) -> yy N c (wp P 0 (bP Lc os N L (fun _ => sz N c) n) N) (bP Lc os N F (fun i => enc (slC 2 N X c.toNat (G i) i)) n) j = yy N c L F j := fun j hp h => yy_congr (by rw [wp_left hp]; exact bP_out h) (bP_out h)
  refine ⟨fun i hi e => ⟨yy_none (wp_gone (by rw [show 2 * i / 2 = i by omega]; exact e) (by omega)), yy_none (wp_gone (by rw [show (2 * i + 1) / 2 = i by omega]; exact e) (by omega))⟩, fun i hi e g => ?_, fun i hi e g => ?_, fun i hi g => ?_⟩
  · have g := of_decide_eq_false g
    have key : ∀ j, j / 2 = i -> ∀ s, s < n -> 2 * Cod.sel Lc N s + os (Cod.sel Lc N s) ≠ j := fun j hj s hs q => g ⟨s, hs, by have := ho (Cod.sel Lc N s); omega⟩
    exact ⟨hout _ (by rw [show 2 * i / 2 = i by omega]; exact e) (key _ (by omega)), hout _ (by rw [show (2 * i + 1) / 2 = i by omega]; exact e) (key _ (by omega))⟩
  · obtain ⟨s, hs, hsi⟩ := of_decide_eq_true g
    have h1 := ho i
    have hl : Lc i ≠ 0 := by rw [<- hsi]; exact hS.there s (by omega)
    refine ⟨os i, by omega, ?_, hout _ (by rw [show (2 * i + (1 - os i)) / 2 = i by omega]; exact e) fun s' hs' q => ?_, hke i hi hl⟩
    · have i1 := bP_in (Lc := Lc) (N := N) (f := L) (g := fun _ => sz N c) ho hn hs
      have i2 := bP_in (Lc := Lc) (N := N) (f := F) (g := fun i => enc (slC 2 N X c.toNat (G i) i)) ho hn hs
      rw [hsi] at i1 i2
      unfold yy
      rw [wp_left (by rw [show (2 * i + os i) / 2 = i by omega]; exact e), i1, i2, show (2 * i + os i) / 2 = i by omega]
      have := new_of (G := G) hN (by omega) (.inr rfl) (fun j hj => by rw [hX j hj]; exact hv) hi (F := enc (slC 2 N X c.toNat (G i) i)) (fun _ _ => rfl)
      rw [mx_all hv.1 (by omega) hX] at this
      exact this.const hX
    · have := ho (Cod.sel Lc N s')
      have h2 : Cod.sel Lc N s' = i := by omega
      rw [h2] at q; omega
  · obtain ⟨s, hs, hsi⟩ := of_decide_eq_true g
    exact hno i hi (by rw [<- hsi]; exact hS.there s (by omega))
theorem osl_not {N : Nat} {c ke : Int} {L : Nat -> Nat} {F : Nat -> Nat -> UInt8} (hp : Pu N (yy N c L F)) (ho : Once N 2 (yy N c L F)) {i : Nat} (hi : i < N) : hB (yy N c L F (2 * i + osl N c L F 2 ke i)) 2 ke = false := by
  have hz := zz_pure (v := ke) (yy_ok N c L F) hp hi
  obtain ⟨p0, p1⟩ := pair_of (yy_ok N c L F) hi
  cases e : hB (yy N c L F (2 * i + osl N c L F 2 ke i)) 2 ke
  · rfl
  · exfalso
    have hos : osl N c L F 2 ke i = oN (yy N c L F (2 * i)) (yy N c L F (2 * i + 1)) 2 (fZ (yy N c L F (2 * i)) (yy N c L F (2 * i + 1)) 2 ke).ce := by
      show oN _ _ _ (zz _ _ _ _).ce = _
      rw [hz]
    obtain ⟨_, a, b⟩ := hB_true e
    cases e0 : hB (yy N c L F (2 * i)) 2 ke
    · cases e1 : hB (yy N c L F (2 * i + 1)) 2 ke
      · have : osl N c L F 2 ke i = 0 \/ osl N c L F 2 ke i = 1 := by have := oN_lt (yy N c L F (2 * i)) (yy N c L F (2 * i + 1)) 2 (zv N c L F 2 ke i).ce; unfold osl; omega
        rcases this with q | q
        · rw [q, Nat.add_zero, e0] at e; cases e
        · rw [q, e1] at e; cases e
      · have hf : (fZ (yy N c L F (2 * i)) (yy N c L F (2 * i + 1)) 2 ke).ce = ke := by
          unfold fZ; rw [e0, if_neg Bool.false_ne_true, e1, if_pos rfl]; exact (hB_true e1).2.2
        rw [hf] at hos
        unfold oN at hos
        rw [e0, if_neg Bool.false_ne_true, e1, if_pos rfl] at hos
        rw [hos, Nat.add_zero, e0] at e; cases e
    · have hf : (fZ (yy N c L F (2 * i)) (yy N c L F (2 * i + 1)) 2 ke).ce = ke := by
        unfold fZ; rw [e0, if_pos rfl]; exact (hB_true e0).2.2
      rw [hf] at hos
      unfold oN at hos
      rw [e0, if_pos rfl] at hos
      rw [hos] at e
      obtain ⟨_, a1, b1⟩ := hB_true e
      obtain ⟨_, a0, b0⟩ := hB_true e0
      exact ho i hi a0 a1 (b0.trans b1.symm)
theorem zv_pure {N : Nat} {c : Int} {L : Nat -> Nat} {F : Nat -> Nat -> UInt8} (hp : Pu N (yy N c L F)) {v : Int} {i : Nat} (hi : i < N) : zv N c L F 2 v i = fZ (yy N c L F (2 * i)) (yy N c L F (2 * i + 1)) 2 v := zz_pure (yy_ok N c L F) hp hi
theorem rd_there {N K : Nat} {c : Int} {z : Nat -> Sl} {P : Nat -> Bool} (hz : Zok N c z) (hc : 8 <= c) (h : ∀ i, i < N -> ((z i).ce ≠ 0 ↔ P i = true)) (hk : K <= (Cn.dl P N).length) : erL K z N = 0 := by
  have hp : ∀ i, i < N -> ((z i).ce = 0 ↔ P i = false) := fun i hi => by
    have hh := h i hi
    constructor
    · intro e
      cases q : P i
      · rfl
      · exact absurd e (hh.2 q)
    · intro e
      rw [e] at hh
      exact Classical.byContradiction fun q => absurd (hh.1 q) (by decide)
  rw [erL_ct hz hc, ct_of (P := P) hp, cnt_dl, Cn.dl_congr (q := P) (fun i _ => by cases P i <;> rfl), if_pos hk]
theorem dl_pre {P : Nat -> Bool} {n N : Nat} (h : n <= N) : (Cn.dl (fun i => P i && decide (i < n)) N).length = (Cn.dl P n).length := by
  rw [dl_upto h (fun i h1 _ => by rw [decide_eq_false (by omega), Bool.and_false]), Cn.dl_congr (q := P) (fun i hi => by rw [decide_eq_true hi, Bool.and_true])]
theorem ch_z {N : Nat} {Y : Nat -> Sl} {u : Int} (h : ∀ i, i < N -> hd Y u i = false) : ch Y N u = 0 := by unfold ch; rw [Cn.dl_empty h]; rfl
theorem st_no {N : Nat} {c : Int} {Y : Nat -> Sl} {v u : Int} (hY : OkY N c Y) (hst : ∀ j, j < 2 * N -> (Y j).st < v) (hu : v <= u) {i : Nat} (hi : i < N) : hd Y u i = false := by
  have key : ∀ j, j < 2 * N -> hB (Y j) 2 u = false := fun j hj => by
    cases e : hB (Y j) 2 u
    · rfl
    · obtain ⟨_, a, b⟩ := hB_true e
      have h1 := (ok_of (kd_is hY hj a).1).le
      have h2 := hst j hj
      omega
  unfold hd; rw [key _ (by omega), key _ (by omega)]; rfl
structure Cts (K N : Nat) (c : Int) (L : Nat -> Nat) (F : Nat -> Nat -> UInt8) (v : Int) (D : Nat -> UInt8) : Prop where
  win : (Cn.wins (K : Int) (Cn.hP N c L F) (Cn.hQ N c L F) N).getD 0 0 = v /\ 0 < (Cn.wins (K : Int) (Cn.hP N c L F) (Cn.hQ N c L F) N).length
  there : erL K (zv N c L F 2 v) N = 0
  data : ∀ b, b < K * c.toNat -> cat2 c.toNat (cH K (zv N c L F 2 v) N) b = D b
theorem point_new {K N n : Nat} {c v ke : Int} {L : Nat -> Nat} {F : Nat -> Nat -> UInt8} {D : Nat -> UInt8} {P : Nat -> Bool} (hK1 : 1 <= K) (hK : K <= 12) (hN : N <= 16) (hc : 8 <= c) (hv : 1 <= v /\ v <= 1073741824) (hp : Pu N (yy N c L F)) (ho : Once N 2 (yy N c L F)) (hst : ∀ j, j < 2 * N -> (yy N c L F j).st < v) (hn : n <= N) (hl : K <= (Cn.dl P n).length) :
    Cts K N c (wp P 0 (bP (fun _ => c.toNat) (osl N c L F 2 ke) N L (fun _ => sz N c) n) N) (bP (fun _ => c.toNat) (osl N c L F 2 ke) N F (fun i => enc (slC 2 N (fun _ => v) c.toNat (dH K c.toNat D i) i)) n) v D := by
  have hv0 : v ≠ 0 := by omega
  have hcf : Cod.cnt (fun _ => c.toNat) N = N := Cod.cnt_full (fun _ _ => by omega)
  have hg := cg_of (n := n) (ke := ke) (L := L) (F := F) (Lc := fun _ => c.toNat) (os := osl N c L F 2 ke) (X := fun _ => v) (G := dH K c.toNat D) (P := P) hN hc hv (fun _ _ => rfl) (fun i => oN_lt _ _ _ _) (by rw [hcf]; exact hn) (fun i hi _ _ => osl_not hp ho hi) (fun i hi _ => st_no (yy_ok N c L F) hst (Int.le_refl _) hi)
  have hwr : ∀ i, i < N -> decide (∃ s, s < n /\ Cod.sel (fun _ => c.toNat) N s = i) = decide (i < n) := fun i hi => by
    have hs := sel_full (L := fun _ => c.toNat) (n := N) (fun _ _ => by omega)
    rw [Bool.eq_iff_iff, decide_eq_true_iff, decide_eq_true_iff]
    constructor
    · rintro ⟨s, a, b⟩; rw [hs s (by omega)] at b; omega
    · intro a; exact ⟨i, a, hs i hi⟩
  generalize wp P 0 (bP (fun _ => c.toNat) (osl N c L F 2 ke) N L (fun _ => sz N c) n) N = L' at *
  generalize bP (fun _ => c.toNat) (osl N c L F 2 ke) N F (fun i => enc (slC 2 N (fun _ => v) c.toNat (dH K c.toNat D i) i)) n = F' at *
  have hp' := hg.pu hp
  have hhd : ∀ i, i < N -> hd (yy N c L' F') v i = (P i && decide (i < n)) := fun i hi => by
    rw [hg.hdv (yy_ok N c L F) (yy_ok N c L' F') hv0 hi, st_no (yy_ok N c L F) hst (Int.le_refl _) hi, Bool.or_false]
    show (P i && decide (∃ s, s < n /\ Cod.sel (fun _ => c.toNat) N s = i)) = _
    rw [hwr i hi]
  have hz : ∀ i, i < N -> zv N c L' F' 2 v i = zSl \/ New N c 2 v (fun _ => v) (dH K c.toNat D) i (zv N c L' F' 2 v i) := fun i hi => by
    rw [zv_pure hp' hi]
    obtain ⟨a, b, d⟩ := hg.here hv0 hi
    cases e : P i
    · exact .inl (a e)
    · cases g : decide (∃ s, s < n /\ Cod.sel (fun _ => c.toNat) N s = i)
      · refine .inl ?_
        rw [b e g]
        exact (hd_zz (v := v) (yy_ok N c L F) hi).2 (st_no (yy_ok N c L F) hst (Int.le_refl _) hi)
      · exact .inr (d e g)
  have hth : erL K (zv N c L' F' 2 v) N = 0 := rd_there (P := fun i => P i && decide (i < n)) zok_of hc (fun i hi => by rw [zv_pure hp' hi, <- (hd_zz (v := v) (yy_ok N c L' F') hi).1, hhd i hi]) (by rw [dl_pre hn]; exact hl)
  refine ⟨wins_first hv0 (by omega) ?_ ?_, hth, fun b hb => rd_new hK hN rfl (by omega) hz hth b hb⟩
  · rw [ct_ch hp' hv0]
    unfold ch
    rw [Cn.dl_congr hhd, dl_pre hn]
    omega
  · intro u hu
    rw [ct_ch hp' (by omega)]
    have h1 := hg.fewer (u := u) (by omega)
    rw [ch_z (fun i hi => st_no (yy_ok N c L F) hst (by omega) hi)] at h1
    omega
theorem point_old {K N n : Nat} {c v ke : Int} {L : Nat -> Nat} {F : Nat -> Nat -> UInt8} {D B : Nat -> UInt8} {P : Nat -> Bool} (hK1 : 1 <= K) (hK : K <= 12) (hN : N <= 16) (hc : 8 <= c) (hv : 1 <= v /\ v <= 1073741824) (hp : Pu N (yy N c L F)) (ho : Once N 2 (yy N c L F)) (hst : ∀ j, j < 2 * N -> (yy N c L F j).st < v) (hn : n <= N) (hl : (Cn.dl P n).length < K) (hP : K <= (Cn.dl P N).length)
    (hw : (Cn.wins (K : Int) (Cn.hP N c L F) (Cn.hQ N c L F) N).getD 0 0 = ke) (hw2 : 0 < (Cn.wins (K : Int) (Cn.hP N c L F) (Cn.hQ N c L F) N).length) (hkv : ke < v) (hall : ∀ i, i < N -> hd (yy N c L F) ke i = true)
    (hB : (∀ i, i < N -> P i = true) /\ (∀ b, b < K * c.toNat -> cat2 c.toNat (cH K (zv N c L F 2 ke) N) b = B b) \/ ∀ i, i < N -> New N c 2 ke (fun _ => ke) (dH K c.toNat B) i (zv N c L F 2 ke i)) :
    Cts K N c (wp P 0 (bP (fun _ => c.toNat) (osl N c L F 2 ke) N L (fun _ => sz N c) n) N) (bP (fun _ => c.toNat) (osl N c L F 2 ke) N F (fun i => enc (slC 2 N (fun _ => v) c.toNat (dH K c.toNat D i) i)) n) ke B := by
  have hv0 : v ≠ 0 := by omega
  obtain ⟨hk0, _, htop⟩ := wins_top (by omega) hw2 hw
  have hcf : Cod.cnt (fun _ => c.toNat) N = N := Cod.cnt_full (fun _ _ => by omega)
  have hg := cg_of (n := n) (ke := ke) (L := L) (F := F) (Lc := fun _ => c.toNat) (os := osl N c L F 2 ke) (X := fun _ => v) (G := dH K c.toNat D) (P := P) hN hc hv (fun _ _ => rfl) (fun i => oN_lt _ _ _ _) (by rw [hcf]; exact hn) (fun i hi _ _ => osl_not hp ho hi) (fun i hi _ => st_no (yy_ok N c L F) hst (Int.le_refl _) hi)
  have hwr : ∀ i, i < N -> decide (∃ s, s < n /\ Cod.sel (fun _ => c.toNat) N s = i) = decide (i < n) := fun i hi => by
    have hs := sel_full (L := fun _ => c.toNat) (n := N) (fun _ _ => by omega)
    rw [Bool.eq_iff_iff, decide_eq_true_iff, decide_eq_true_iff]
    constructor
    · rintro ⟨s, a, b⟩; rw [hs s (by omega)] at b; omega
    · intro a; exact ⟨i, a, hs i hi⟩
  generalize wp P 0 (bP (fun _ => c.toNat) (osl N c L F 2 ke) N L (fun _ => sz N c) n) N = L' at *
  generalize bP (fun _ => c.toNat) (osl N c L F 2 ke) N F (fun i => enc (slC 2 N (fun _ => v) c.toNat (dH K c.toNat D i) i)) n = F' at *
  have hp' := hg.pu hp
  have hhd : ∀ i, i < N -> hd (yy N c L' F') v i = (P i && decide (i < n)) := fun i hi => by
    rw [hg.hdv (yy_ok N c L F) (yy_ok N c L' F') hv0 hi, st_no (yy_ok N c L F) hst (Int.le_refl _) hi, Bool.or_false]
    show (P i && decide (∃ s, s < n /\ Cod.sel (fun _ => c.toNat) N s = i)) = _
    rw [hwr i hi]
  have hhk : ∀ i, i < N -> hd (yy N c L' F') ke i = P i := fun i hi => hg.hdk (yy_ok N c L F) (yy_ok N c L' F') hk0 (by omega) hi (hall i hi)
  have hz : ∀ i, i < N -> (P i = false -> zv N c L' F' 2 ke i = zSl) /\ (P i = true -> zv N c L' F' 2 ke i = zv N c L F 2 ke i) := fun i hi => by
    rw [zv_pure hp' hi, zv_pure hp hi]
    exact hg.kept hk0 (by omega) hi
  have hth : erL K (zv N c L' F' 2 ke) N = 0 := rd_there (P := P) zok_of hc (fun i hi => by rw [zv_pure hp' hi, <- (hd_zz (v := ke) (yy_ok N c L' F') hi).1, hhk i hi]) hP
  refine ⟨wins_first hk0 (by omega) ?_ ?_, hth, fun b hb => ?_⟩
  · rw [ct_ch hp' hk0]
    unfold ch
    rw [Cn.dl_congr hhk]
    omega
  · intro u hu
    by_cases hu0 : u = 0
    · intro hk
      rw [hu0] at hk hu
      have : Cn.ct (Cn.hP N c L F) (Cn.hQ N c L F) N ke = Cn.ct (Cn.hP N c L F) (Cn.hQ N c L F) N ke := rfl
      obtain ⟨i0, hi0⟩ : ∃ i, i < N := ⟨0, by have := Cn.dl_few P N; omega⟩
      have := hd_true.1 (hall i0 hi0)
      have hpos : ∀ j, j < 2 * N -> Go.Proofs.YtdmpiipllmjloaaGreat.hB (yy N c L F j) 2 ke = true -> 0 < ke := fun j hj e => by
        obtain ⟨_, a, b⟩ := hB_true e
        have hi := kd_is (yy_ok N c L F) hj a
        have := (ok_of hi.1).V (j / 2) (by omega)
        rw [hi.ce] at b; omega
      rcases this with e | e
      · have := hpos _ (by omega) e; omega
      · have := hpos _ (by omega) e; omega
    · rw [ct_ch hp' hu0]
      by_cases huv : u = v
      · rw [huv]
        unfold ch
        rw [Cn.dl_congr hhd, dl_pre hn]
        omega
      · have h1 := hg.fewer (u := u) huv
        have h2 := htop u hu hu0
        rw [ct_ch hp hu0] at h2
        omega
  · rcases hB with ⟨h1, h2⟩ | h1
    · have hr := rd_congr (K := K) (z' := zv N c L' F' 2 ke) (z := zv N c L F 2 ke) (N := N) (fun i hi => (hz i hi).2 (h1 i hi))
      rw [<- h2 b hb]
      unfold cat2
      exact hr.2.1 (by rw [<- hr.1]; exact hth) _ _
    · refine rd_new (kd := 2) (v := ke) (X := fun _ => ke) hK hN rfl (by omega) (fun i hi => ?_) hth b hb
      cases e : P i
      · exact .inl ((hz i hi).1 e)
      · rw [(hz i hi).2 e]; exact .inr (h1 i hi)
end Go.Proofs.YtdmpiipllmjloaaGreat
