/- CoB PtC StMa: what is needed of them. -/
import Derived.Test.YtdmpiipllmjloaaGreatFj30
import Derived.Test.YtdmpiipllmjloaaGreatFj38
import Derived.Test.YtdmpiipllmjloaaGreatFj45
import Derived.Test.YtdmpiipllmjloaaGreatFj50
import Derived.Test.YtdmpiipllmjloaaGreatFj51
namespace Go.Proofs.YtdmpiipllmjloaaGreat
theorem New.const {N : Nat} {c : Int} {kd : UInt8} {v : Int} {X : Nat → Int} {G : Nat → Nat → UInt8} {i : Nat} {y : Sl} (h : New N c kd v X G i y) (hX : ∀ l, l < N → X l = v) : New N c kd v (fun _ => v) G i y := ⟨h.is, h.kd, h.st, fun l hl => (h.V l hl).trans (hX l hl), h.D⟩
/-- A row behind the first n of some raw writes, with drives wiped. -/
theorem cg_of {N n : Nat} {c v ke : Int} {L : Nat → Nat} {F : Nat → Nat → UInt8} {Lc os : Nat → Nat} {X : Nat → Int} {G : Nat → Nat → UInt8} {P : Nat → Bool} (hN : N ≤ 16) (hc : 8 ≤ c) (hv : 1 ≤ v ∧ v ≤ 1073741824) (hX : ∀ l, l < N → X l = v) (ho : ∀ i, os i < 2) (hn : n ≤ Cod.cnt Lc N)
    (hke : ∀ i, i < N → Lc i ≠ 0 → ke ≠ 0 → hB (yy N c L F (2 * i + os i)) 2 ke = false) (hno : ∀ i, i < N → Lc i ≠ 0 → hd (yy N c L F) v i = false) :
    Cg N c v G (yy N c L F) (yy N c (wp P 0 (bP Lc os N L (fun _ => sz N c) n) N) (bP Lc os N F (fun i => enc (slC 2 N X c.toNat (G i) i)) n)) (fun i => decide (∃ s, s < n ∧ Cod.sel Lc N s = i)) P ke := by
  have hS := Cod.sel_is Lc N
  have hout : ∀ j, P (j / 2) = true → (∀ s, s < n → 2 * Cod.sel Lc N s + os (Cod.sel Lc N s) ≠ j) → yy N c (wp P 0 (bP Lc os N L (fun _ => sz N c) n) N) (bP Lc os N F (fun i => enc (slC 2 N X c.toNat (G i) i)) n) j = yy N c L F j := fun j hp h => yy_congr (by rw [wp_left hp]; exact bP_out h) (bP_out h)
  refine ⟨fun i hi e => ⟨yy_none (wp_gone (by rw [show 2 * i / 2 = i by omega]; exact e) (by omega)), yy_none (wp_gone (by rw [show (2 * i + 1) / 2 = i by omega]; exact e) (by omega))⟩, fun i hi e g => ?_, fun i hi e g => ?_, fun i hi g => ?_⟩
  · have g := of_decide_eq_false g
    have key : ∀ j, j / 2 = i → ∀ s, s < n → 2 * Cod.sel Lc N s + os (Cod.sel Lc N s) ≠ j := fun j hj s hs q => g ⟨s, hs, by have := ho (Cod.sel Lc N s); omega⟩
    exact ⟨hout _ (by rw [show 2 * i / 2 = i by omega]; exact e) (key _ (by omega)), hout _ (by rw [show (2 * i + 1) / 2 = i by omega]; exact e) (key _ (by omega))⟩
  · obtain ⟨s, hs, hsi⟩ := of_decide_eq_true g
    have h1 := ho i
    have hl : Lc i ≠ 0 := by rw [← hsi]; exact hS.there s (by omega)
    refine ⟨os i, by omega, ?_, hout _ (by rw [show (2 * i + (1 - os i)) / 2 = i by omega]; exact e) fun s' hs' q => ?_, hke i hi hl⟩
    · have i1 := bP_in (Lc := Lc) (N := N) (f := L) (g := fun _ => sz N c) ho hn hs
      have i2 := bP_in (Lc := Lc) (N := N) (f := F) (g := fun i => enc (slC 2 N X c.toNat (G i) i)) ho hn hs
      rw [hsi] at i1 i2
      unfold yy
      rw [wp_left (by rw [show (2 * i + os i) / 2 = i by omega]; exact e), i1, i2, show (2 * i + os i) / 2 = i by omega]
      have := new_of (G := G) hN (by omega) (.inr rfl) (fun j hj => by rw [hX j hj]; exact hv) hi (F := enc (slC 2 N X c.toNat (G i) i)) (fun _ _ => rfl)
      rw [mx_all hv.1 (by omega) hX] at this
      exact this.const hX
    · have := ho (Cod.sel Lc N s')
      have h2 : Cod.sel Lc N s' = i := by omega
      rw [h2] at q; omega
  · obtain ⟨s, hs, hsi⟩ := of_decide_eq_true g
    exact hno i hi (by rw [← hsi]; exact hS.there s (by omega))
theorem zv_pure {N : Nat} {c : Int} {L : Nat → Nat} {F : Nat → Nat → UInt8} (hp : Pu N (yy N c L F)) {v : Int} {i : Nat} (hi : i < N) : zv N c L F 2 v i = fZ (yy N c L F (2 * i)) (yy N c L F (2 * i + 1)) 2 v := zz_pure (yy_ok N c L F) hp hi
/-- Enough cells are there. -/
theorem rd_there {N K : Nat} {c : Int} {z : Nat → Sl} {P : Nat → Bool} (hz : Zok N c z) (hc : 8 ≤ c) (h : ∀ i, i < N → ((z i).ce ≠ 0 ↔ P i = true)) (hk : K ≤ (Cn.dl P N).length) : erL K z N = 0 := by
  have hp : ∀ i, i < N → ((z i).ce = 0 ↔ P i = false) := fun i hi => by
    have hh := h i hi
    constructor
    · intro e
      cases q : P i
      · rfl
      · exact absurd e (hh.2 q)
    · intro e
      rw [e] at hh
      exact Classical.byContradiction fun q => absurd (hh.1 q) (by decide)
  rw [erL_ct hz hc, ct_of (P := P) hp, cnt_dl, Cn.dl_congr (q := P) (fun i _ => by cases P i <;> rfl), if_pos hk]
theorem ch_z {N : Nat} {Y : Nat → Sl} {u : Int} (h : ∀ i, i < N → hd Y u i = false) : ch Y N u = 0 := by unfold ch; rw [Cn.dl_empty h]; rfl
/-- What Read tells of a row: the version that counts, and its data. -/
structure Cts (K N : Nat) (c : Int) (L : Nat → Nat) (F : Nat → Nat → UInt8) (v : Int) (D : Nat → UInt8) : Prop where
  win : (Cn.wins (K : Int) (Cn.hP N c L F) (Cn.hQ N c L F) N).getD 0 0 = v ∧ 0 < (Cn.wins (K : Int) (Cn.hP N c L F) (Cn.hQ N c L F) N).length
  there : erL K (zv N c L F 2 v) N = 0
  data : ∀ b, b < K * c.toNat → cat2 c.toNat (cH K (zv N c L F 2 v) N) b = D b
end Go.Proofs.YtdmpiipllmjloaaGreat
namespace Go.Proofs.YtdmpiipllmjloaaGreat
open Go.RowKit
theorem AnsRd.congr {w : World} {E y A D : Int} {n : Nat} {R V R' V' : Nat → Int} {e : Ending} {w' : World} (h : AnsRd w E y A D n R V e w') (hc : ∀ i, i < n → R i = R' i ∧ V i = V' i) : AnsRd w E y A D n R' V' e w' := by
  obtain ⟨ao, cp, rfl, h1, h2⟩ := h
  refine ⟨ao, cp, rfl, h1.congr fun i hi => hc i ?_, h2⟩
  unfold lenE at hi
  split at hi
  · exact hi
  · omega
/-- What is read of a row of which it is known which version counts. -/
theorem cts_read {k r c q : Int} {K N W : Nat} (h : Par k r c q N W 0) (hk : k = (K : Int)) (u : World) (ro : Option Addr) (rc : Nat) (A : Nat → Option Addr) (L C : Nat → Nat) (F : Nat → Nat → UInt8) (hr : Rw u ro N A L C F) (hL : ∀ j, j < 2 * N → L j = 0 ∨ L j = sz N c) (v : Int) (hv : 1 ≤ v ∧ v ≤ 1073741824) (D : Nat → UInt8) (hc : Cts K N c L F v D) (hD : De.isD W q D = true) :
    Calls Tryz.prog 7 #[.agg #[.int .i64 k, .int .i64 r, .int .i64 c, .int .i64 q], .slice ro N rc] u (AnsRd u 0 v ((nm D 0 4 : Nat) : Int) ((nm D 4 1 : Nat) : Int) (nm D 5 2) (De.rdR D 7) (De.rdV D 7)) := by
  obtain ⟨hmy, hW, hW2, hq⟩ := h.fine
  obtain ⟨K', m, hk', hcm, hK1, hK12, hKN, hN16, hm8, hm64, hWm⟩ := h.nums
  have hKK : K' = K := by omega
  subst hKK
  have e1 : wnV k N c L F = v := by unfold wnV; rw [hk]; exact hc.win.1
  have e2 : wnB k N c L F = true := by unfold wnB; rw [hk]; exact decide_eq_true hc.win.2
  have ek : k.toNat = K' := by omega
  have ec : c.toNat = m := by omega
  have hd : ∀ b, b < W → wnD k N c L F b = D b := fun b hb => by
    unfold wnD; rw [e1, ek]; exact hc.data b (by rw [ec, ← hWm]; exact hb)
  have hfew := (De.okD_few hW (De.isD_true hD).1).1
  have hroom := De.dir_room hW
  have n1 : nm (wnD k N c L F) 0 4 = nm D 0 4 := nm_congr fun i hi => hd _ (by omega)
  have n2 : nm (wnD k N c L F) 4 1 = nm D 4 1 := nm_congr fun i hi => hd _ (by omega)
  have n3 : nm (wnD k N c L F) 5 2 = nm D 5 2 := nm_congr fun i hi => hd _ (by omega)
  have hR : ∀ i, i < nm D 5 2 → De.rdR (wnD k N c L F) 7 i = De.rdR D 7 i ∧ De.rdV (wnD k N c L F) 7 i = De.rdV D 7 i := fun i hi => by
    unfold De.rdR De.rdV
    rw [nm_congr (F := wnD k N c L F) (G := D) (o := 7 + 6 * i) (p := 7 + 6 * i) (k := 2) (fun t ht => hd _ (by omega)), nm_congr (F := wnD k N c L F) (G := D) (o := 7 + 6 * i + 2) (p := 7 + 6 * i + 2) (k := 4) (fun t ht => hd _ (by omega))]
    exact ⟨rfl, rfl⟩
  have hisD : De.isD W q (wnD k N c L F) = true := by
    obtain ⟨h1, h2⟩ := De.isD_true hD
    refine decide_eq_true ⟨?_, fun j hj hn => ?_⟩
    · rw [n1, n2, n3, De.okD_congr hR]; exact h1
    · rw [hd j hj]; exact h2 j hj (by rw [n3] at hn; exact hn)
  have hE : erCR 0 W k c q N N L F = 0 := by
    unfold erCR
    have hR0 : erR 0 N c N L = 0 := by unfold erR; rw [if_pos rfl, if_pos ⟨rfl, hL⟩]
    have hO : erOL (erR 0 N c N L) (wnB k N c L F) = 0 := by unfold erOL; rw [hR0, if_pos rfl, e2, if_pos rfl]
    have hK0 : erK 0 N c N L 2 v = 0 := erK_ok hL (.inr rfl) hv
    rw [if_pos hO, e1, hK0, ek, hc.there]
    unfold erV2
    rw [if_pos rfl, if_pos rfl]
    unfold De.erB
    rw [if_pos rfl, if_pos rfl, if_pos hisD]
  have := cRead_any h u ro N rc A L C F hr 0 hE
  rw [e1, n1, n2, n3] at this
  exact this.mono fun e w' ha => ha.congr hR
/-- Cells that are one stripe. -/
theorem coded_new {K R N : Nat} {c ke : Int} {L : Nat → Nat} {F : Nat → Nat → UInt8} (hK : K ≤ 12) (hKR : K + R = N) (hN : N ≤ 16) (hc : 8 ≤ c) (hp : Pu N (yy N c L F)) (ho : Once N 2 (yy N c L F)) (hall : ∀ i, i < N → hd (yy N c L F) ke i = true)
    (hv : Cod.verB K R c.toNat (fun i b => toK ((cdT (yy N c L F) ke 2 i).D b)) = true) : ∀ i, i < N → New N c 2 ke (fun _ => ke) (dH K c.toNat (cat2 c.toNat (cH K (zv N c L F 2 ke) N))) i (zv N c L F 2 ke i) := by
  have hcd : ∀ i, i < N → cdT (yy N c L F) ke 2 i = zv N c L F 2 ke i := fun i hi => by
    rw [zv_pure hp hi]
    unfold cdT fZ
    cases e1 : hB (yy N c L F (2 * i + 1)) 2 ke
    · rw [if_neg (fun a => by cases a.2)]
      cases e0 : hB (yy N c L F (2 * i)) 2 ke
      · rw [if_neg (fun a => by cases a.2), if_neg Bool.false_ne_true, if_neg Bool.false_ne_true]
      · rw [if_pos ⟨by omega, rfl⟩, if_pos rfl]
    · rw [if_pos ⟨by omega, rfl⟩]
      cases e0 : hB (yy N c L F (2 * i)) 2 ke
      · rw [if_neg Bool.false_ne_true, if_pos rfl]
      · obtain ⟨_, a0, b0⟩ := hB_true e0
        obtain ⟨_, a1, b1⟩ := hB_true e1
        exact absurd (b0.trans b1.symm) (ho i hi a0 a1)
  obtain ⟨m, hm⟩ : ∃ m, m = c.toNat := ⟨_, rfl⟩
  rw [← hm] at hv ⊢
  obtain ⟨z, hz⟩ : ∃ z, z = zv N c L F 2 ke := ⟨_, rfl⟩
  have hzi : ∀ i, i < N → Is N c (z i) i ∧ (z i).kd = 2 ∧ (z i).ce = ke := fun i hi => by
    rw [hz, zv_pure hp hi]
    obtain ⟨p0, p1⟩ := pair_of (yy_ok N c L F) hi
    rcases fZ_is (kd := 2) (v := ke) p0 p1 with ⟨h, _⟩ | ⟨h, a, b, _⟩
    · have := ((hd_zz (v := ke) (yy_ok N c L F) hi).1).1 (hall i hi)
      rw [h] at this; exact absurd rfl this
    · exact ⟨h, a, b⟩
  have hzV : ∀ i, i < N → (∀ l, l < N → (z i).V l = ke) ∧ (z i).st = ke := fun i hi => by
    obtain ⟨h1, h2, h3⟩ := hzi i hi
    have hin : z i = yy N c L F (2 * i) ∨ z i = yy N c L F (2 * i + 1) := by
      have hne : (z i).kd ≠ 0 := by rw [h2]; decide
      rw [hz, zv_pure hp hi] at hne ⊢
      unfold fZ at hne ⊢
      split
      · exact .inl rfl
      · split
        · exact .inr rfl
        · rename_i a b; rw [if_neg a, if_neg b] at hne; exact absurd rfl hne
    rcases hin with e | e
    · rw [e] at h2 h3 ⊢
      exact ⟨fun l hl => by rw [hp _ (by omega) h2 l hl]; exact h3, by rw [st_ce (yy_ok N c L F) hp (by omega) h2]; exact h3⟩
    · rw [e] at h2 h3 ⊢
      exact ⟨fun l hl => by rw [hp _ (by omega) h2 l hl]; exact h3, by rw [st_ce (yy_ok N c L F) hp (by omega) h2]; exact h3⟩
  have hLz : ∀ i, i < N → Lz z i ≠ 0 := fun i hi => by
    unfold Lz
    have := (ok_of (hzi i hi).1.1).dn
    omega
  have hsel : ∀ t, t < N → Cod.sel (Lz z) N t = t := sel_full hLz
  have hcat : ∀ a b, a < K → b < m → cat2 m (cH K z N) (a * m + b) = (z a).D b := fun a b ha hb => by
    unfold cat2
    rw [show (a * m + b) / m = a by rw [Nat.mul_comm, Nat.mul_add_div (by omega), Nat.div_eq_of_lt hb, Nat.add_zero], show (a * m + b) % m = b by rw [Nat.mul_comm, Nat.mul_add_mod, Nat.mod_eq_of_lt hb]]
    unfold cH cD
    rw [Cod.enc_data _ ha]
    have := Cod.dec_there (n := N) (R := Cod.sel (Lz z) N) (Hz z) hK hN (fun t ht => by rw [hsel t (by omega)]; omega) (fun t t' h1 h2 => by rw [hsel t (by omega), hsel t' (by omega)]; exact h1) a b ha (by rw [hsel _ (by omega)]; exact ha)
    rw [hsel _ (by omega)] at this
    rw [this]
    unfold Hz
    rw [bK_toK]
  intro i hi
  rw [← hz]
  obtain ⟨h1, h2, h3⟩ := hzi i hi
  refine ⟨h1, h2, (hzV i hi).2, (hzV i hi).1, fun b hb => ?_⟩
  rw [← hm] at hb
  have hdm : ∀ j, j < K → dM m (cat2 m (cH K z N)) j b = toK ((z j).D b) := fun j hj => by unfold dM; rw [hcat j b hj hb]
  have henc : Cod.enc K (dM m (cat2 m (cH K z N))) i b = toK ((z i).D b) := by
    by_cases hik : i < K
    · rw [Cod.enc_data _ hik, hdm i hik]
    · obtain ⟨t, rfl⟩ : ∃ t, i = K + t := ⟨i - K, by omega⟩
      unfold Cod.verB Cod.eqAll at hv
      have h4 := Cod.eqB_true.1 (of_decide_eq_true hv t (by omega)) b hb
      simp only [hcd (K + t) hi, ← hz] at h4
      rw [← h4]
      unfold Cod.par
      exact Cod.enc_congr (fun j hj => by rw [hdm j hj, hcd j (by omega), hz]) _
  unfold dH
  rw [henc, bK_toK]
end Go.Proofs.YtdmpiipllmjloaaGreat
