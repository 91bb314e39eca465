import Derived.Test.YtdmpiipllmjloaaGreatPj43
import Derived.Test.YtdmpiipllmjloaaGreatPj50
import Derived.Test.YtdmpiipllmjloaaGreatPj52
import Derived.Test.YtdmpiipllmjloaaGreatPj53
namespace Go.Proofs.YtdmpiipllmjloaaGreat
open Go.RowKit
theorem dl_true (n : Nat) : (Cn.dl (fun _ => true) n).length = n := by
  have := Cn.dl_both (fun _ => true) n
  have h2 : Cn.dl (fun i => !(fun _ => true) i) n = [] := Cn.dl_empty fun i _ => rfl
  rw [h2] at this
  simpa using this
theorem AnsRd.congr {w : World} {E y A D : Int} {n : Nat} {R V R' V' : Nat -> Int} {e : Ending} {w' : World} (h : AnsRd w E y A D n R V e w') (hc : ∀ i, i < n -> R i = R' i /\ V i = V' i) : AnsRd w E y A D n R' V' e w' := by
  obtain ⟨ao, cp, rfl, h1, h2⟩ := h
  refine ⟨ao, cp, rfl, h1.congr fun i hi => hc i ?_, h2⟩
  unfold lenE at hi
  split at hi
  · exact hi
  · omega
theorem cts_read {k r c q : Int} {K N W : Nat} (h : Par k r c q N W 0) (hk : k = (K : Int)) (u : World) (ro : Option Addr) (rc : Nat) (A : Nat -> Option Addr) (L C : Nat -> Nat) (F : Nat -> Nat -> UInt8) (hr : Rw u ro N A L C F) (hL : ∀ j, j < 2 * N -> L j = 0 \/ L j = sz N c) (v : Int) (hv : 1 <= v /\ v <= 1073741824) (D : Nat -> UInt8) (hc : Cts K N c L F v D) (hD : De.isD W q D = true) :
    Calls Tryz.prog 7 #[.agg #[.int .i64 k, .int .i64 r, .int .i64 c, .int .i64 q], .slice ro N rc] u (AnsRd u 0 v ((nm D 0 4 : Nat) : Int) ((nm D 4 1 : Nat) : Int) (nm D 5 2) (De.rdR D 7) (De.rdV D 7)) := by
  obtain ⟨hmy, hW, hW2, hq⟩ := h.fine
  obtain ⟨K', m, hk', hcm, hK1, hK12, hKN, hN16, hm8, hm64, hWm⟩ := h.nums
  have hKK : K' = K := by omega
  subst hKK
  have e1 : wnV k N c L F = v := by unfold wnV; rw [hk]; exact hc.win.1
  have e2 : wnB k N c L F = true := by unfold wnB; rw [hk]; exact decide_eq_true hc.win.2
  have ek : k.toNat = K' := by omega
  have ec : c.toNat = m := by omega
  have hd : ∀ b, b < W -> wnD k N c L F b = D b := fun b hb => by
    unfold wnD; rw [e1, ek]; exact hc.data b (by rw [ec, <- hWm]; exact hb)
  have hfew := (De.okD_few hW (De.isD_true hD).1).1
  have hroom := De.dir_room hW
  have n1 : nm (wnD k N c L F) 0 4 = nm D 0 4 := nm_congr fun i hi => hd _ (by omega)
  have n2 : nm (wnD k N c L F) 4 1 = nm D 4 1 := nm_congr fun i hi => hd _ (by omega)
  have n3 : nm (wnD k N c L F) 5 2 = nm D 5 2 := nm_congr fun i hi => hd _ (by omega)
  have hR : ∀ i, i < nm D 5 2 -> De.rdR (wnD k N c L F) 7 i = De.rdR D 7 i /\ De.rdV (wnD k N c L F) 7 i = De.rdV D 7 i := fun i hi => by
    unfold De.rdR De.rdV
    rw [nm_congr (F := wnD k N c L F) (G := D) (o := 7 + 6 * i) (p := 7 + 6 * i) (k := 2) (fun t ht => hd _ (by omega)), nm_congr (F := wnD k N c L F) (G := D) (o := 7 + 6 * i + 2) (p := 7 + 6 * i + 2) (k := 4) (fun t ht => hd _ (by omega))]
    exact ⟨rfl, rfl⟩
  have hisD : De.isD W q (wnD k N c L F) = true := by
    obtain ⟨h1, h2⟩ := De.isD_true hD
    refine decide_eq_true ⟨?_, fun j hj hn => ?_⟩
    · rw [n1, n2, n3, De.okD_congr hR]; exact h1
    · rw [hd j hj]; exact h2 j hj (by rw [n3] at hn; exact hn)
  have hE : erCR 0 W k c q N N L F = 0 := by
    unfold erCR
    have hR0 : erR 0 N c N L = 0 := by unfold erR; rw [if_pos rfl, if_pos ⟨rfl, hL⟩]
    have hO : erOL (erR 0 N c N L) (wnB k N c L F) = 0 := by unfold erOL; rw [hR0, if_pos rfl, e2, if_pos rfl]
    have hK0 : erK 0 N c N L 2 v = 0 := erK_ok hL (.inr rfl) hv
    rw [if_pos hO, e1, hK0, ek, hc.there]
    unfold erV2
    rw [if_pos rfl, if_pos rfl]
    unfold De.erB
    rw [if_pos rfl, if_pos rfl, if_pos hisD]
  have := cRead_any h u ro N rc A L C F hr 0 hE
  rw [e1, n1, n2, n3] at this
  exact this.mono fun e w' ha => ha.congr hR
theorem coded_new {K R N : Nat} {c ke : Int} {L : Nat -> Nat} {F : Nat -> Nat -> UInt8} (hK : K <= 12) (hKR : K + R = N) (hN : N <= 16) (hc : 8 <= c) (hp : Pu N (yy N c L F)) (ho : Once N 2 (yy N c L F)) (hall : ∀ i, i < N -> hd (yy N c L F) ke i = true)
    (hv : Cod.verB K R c.toNat (fun i b => toK ((cdT (yy N c L F) ke 2 i).D b)) = true) : ∀ i, i < N -> New N c 2 ke (fun _ => ke) (dH K c.toNat (cat2 c.toNat (cH K (zv N c L F 2 ke) N))) i (zv N c L F 2 ke i) := by
  have hcd : ∀ i, i < N -> cdT (yy N c L F) ke 2 i = zv N c L F 2 ke i := fun i hi => by
    rw [zv_pure hp hi]
    unfold cdT fZ
    cases e1 : hB (yy N c L F (2 * i + 1)) 2 ke
    · rw [if_neg (fun a => by cases a.2)]
      cases e0 : hB (yy N c L F (2 * i)) 2 ke
      · rw [if_neg (fun a => by cases a.2), if_neg Bool.false_ne_true, if_neg Bool.false_ne_true]
      · rw [if_pos ⟨by omega, rfl⟩, if_pos rfl]
    · rw [if_pos ⟨by omega, rfl⟩]
      cases e0 : hB (yy N c L F (2 * i)) 2 ke
      · rw [if_neg Bool.false_ne_true, if_pos rfl]
      · obtain ⟨_, a0, b0⟩ := hB_true e0
        obtain ⟨_, a1, b1⟩ := hB_true e1
        exact absurd (b0.trans b1.symm) (ho i hi a0 a1)
  obtain ⟨m, hm⟩ : ∃ m, m = c.toNat := ⟨_, rfl⟩
  rw [<- hm] at hv ⊢
  obtain ⟨z, hz⟩ : ∃ z, z = zv N c L F 2 ke := ⟨_, rfl⟩
  have hzi : ∀ i, i < N -> Is N c (z i) i /\ (z i).kd = 2 /\ (z i).ce = ke := fun i hi => by
    rw [hz, zv_pure hp hi]
    obtain ⟨p0, p1⟩ := pair_of (yy_ok N c L F) hi
    rcases fZ_is (kd := 2) (v := ke) p0 p1 with ⟨h, _⟩ | ⟨h, a, b, _⟩
    · have := ((hd_zz (v := ke) (yy_ok N c L F) hi).1).1 (hall i hi)
      rw [h] at this; exact absurd rfl this
    · exact ⟨h, a, b⟩
  have hzV : ∀ i, i < N -> (∀ l, l < N -> (z i).V l = ke) /\ (z i).st = ke := fun i hi => by
    obtain ⟨h1, h2, h3⟩ := hzi i hi
    have hin : z i = yy N c L F (2 * i) \/ z i = yy N c L F (2 * i + 1) := by
      have hne : (z i).kd ≠ 0 := by rw [h2]; decide
      rw [hz, zv_pure hp hi] at hne ⊢
      unfold fZ at hne ⊢
      split
      · exact .inl rfl
      · split
        · exact .inr rfl
        · rename_i a b; rw [if_neg a, if_neg b] at hne; exact absurd rfl hne
    rcases hin with e | e
    · rw [e] at h2 h3 ⊢
      exact ⟨fun l hl => by rw [hp _ (by omega) h2 l hl]; exact h3, by rw [st_ce (yy_ok N c L F) hp (by omega) h2]; exact h3⟩
    · rw [e] at h2 h3 ⊢
      exact ⟨fun l hl => by rw [hp _ (by omega) h2 l hl]; exact h3, by rw [st_ce (yy_ok N c L F) hp (by omega) h2]; exact h3⟩
  have hLz : ∀ i, i < N -> Lz z i ≠ 0 := fun i hi => by
    unfold Lz
    have := (ok_of (hzi i hi).1.1).dn
    omega
  have hsel : ∀ t, t < N -> Cod.sel (Lz z) N t = t := sel_full hLz
  have hcat : ∀ a b, a < K -> b < m -> cat2 m (cH K z N) (a * m + b) = (z a).D b := fun a b ha hb => by
    unfold cat2
    rw [show (a * m + b) / m = a by rw [Nat.mul_comm, Nat.mul_add_div (by omega), Nat.div_eq_of_lt hb, Nat.add_zero], show (a * m + b) % m = b by rw [Nat.mul_comm, Nat.mul_add_mod, Nat.mod_eq_of_lt hb]]
    unfold cH cD
    rw [Cod.enc_data _ ha]
    have := Cod.dec_there (n := N) (R := Cod.sel (Lz z) N) (Hz z) hK hN (fun t ht => by rw [hsel t (by omega)]; omega) (fun t t' h1 h2 => by rw [hsel t (by omega), hsel t' (by omega)]; exact h1) a b ha (by rw [hsel _ (by omega)]; exact ha)
    rw [hsel _ (by omega)] at this
    rw [this]
    unfold Hz
    rw [bK_toK]
  intro i hi
  rw [<- hz]
  obtain ⟨h1, h2, h3⟩ := hzi i hi
  refine ⟨h1, h2, (hzV i hi).2, (hzV i hi).1, fun b hb => ?_⟩
  rw [<- hm] at hb
  have hdm : ∀ j, j < K -> dM m (cat2 m (cH K z N)) j b = toK ((z j).D b) := fun j hj => by unfold dM; rw [hcat j b hj hb]
  have henc : Cod.enc K (dM m (cat2 m (cH K z N))) i b = toK ((z i).D b) := by
    by_cases hik : i < K
    · rw [Cod.enc_data _ hik, hdm i hik]
    · obtain ⟨t, rfl⟩ : ∃ t, i = K + t := ⟨i - K, by omega⟩
      unfold Cod.verB Cod.eqAll at hv
      have h4 := Cod.eqB_true.1 (of_decide_eq_true hv t (by omega)) b hb
      simp only [hcd (K + t) hi, <- hz] at h4
      rw [<- h4]
      unfold Cod.par
      exact Cod.enc_congr (fun j hj => by rw [hdm j hj, hcd j (by omega), hz]) _
  unfold dH
  rw [henc, bK_toK]
end Go.Proofs.YtdmpiipllmjloaaGreat
namespace Go.Proofs.YtdmpiipllmjloaaGreat
open Go.RowKit
theorem wp_len {N n : Nat} {c : Int} {P : Nat -> Bool} {L os Lc : Nat -> Nat} (hL : ∀ j, j < 2 * N -> L j = 0 \/ L j = sz N c) : ∀ j, j < 2 * N -> wp P 0 (bP Lc os N L (fun _ => sz N c) n) N j = 0 \/ wp P 0 (bP Lc os N L (fun _ => sz N c) n) N j = sz N c := fun j hj => by
  unfold wp
  split
  · exact .inl rfl
  · exact row_n Lc hL n j hj
theorem pu_of {N : Nat} {c : Int} {L : Nat -> Nat} {F : Nat -> Nat -> UInt8} (h : ∀ j, j < 2 * N -> puJ N c L F j) : Pu N (yy N c L F) := fun j hj hk l hl => by
  have hi := kd_is (yy_ok N c L F) hj hk
  rcases yq (N := N) (c := c) (L := L) (F := F) j with e | ⟨e1, e2⟩
  · rw [e] at hk; exact absurd hk (by decide)
  · have := h j hj e1 (by rw [<- e2]; exact hk) l (by rw [<- e2, (ok_of hi.1).vn]; exact hl)
    rw [e2]; exact this.1
set_option maxHeartbeats 2000000 in
set_option maxRecDepth 100000 in
theorem point_law (k r c q : Int) (w : World) (ro : Option Addr) (rn rc : Nat) (A : Nat -> Option Addr) (L C : Nat -> Nat) (F : Nat -> Nat -> UInt8) (hr : Rw w ro rn A L C F) (v len dep : Int) (so : Option Addr) (sn sc : Nat) (R V : Nat -> Int) (hD : De.Rec w so sn sc R V) (tob : Option Addr) (tn tc : Nat) (TV : Nat -> Bool) (hT : RdT w tob tn TV) :
    Calls Tryz.prog 3 #[.agg #[.int .i64 k, .int .i64 r, .int .i64 c, .int .i64 q], .slice ro rn rc, .int .i64 v, .agg #[.int .i64 len, .int .i64 dep, .slice so sn sc], .slice tob tn tc] w fun e w' => e = .returned (.bool true) /\ Below w.heap.size w w' := by
  obtain ⟨N, W, x, h⟩ := par_any k r c q
  obtain ⟨E, hE⟩ : ∃ E, erCP x W k c q 0 v len dep N rn L F sn R V = E := ⟨_, rfl⟩
  obtain ⟨f, hf⟩ : ∃ f, erCR x W k c q N rn L F = f := ⟨_, rfl⟩
  have HPU := fun u (hu : Below w.heap.size w u) => cPuts_any h u ro rn rc A L C F (hr.below hu) 0 v len dep so sn sc R V (hD.below hu) E hE
  have HRO := fun u (hu : Below w.heap.size w u) => cRead_any h u ro rn rc A L C F (hr.below hu) f hf
  by_cases hE0 : E = 0
  · subst hE0
    unfold erCP at hE
    have hR0 : erR x N c rn L = 0 := by
      by_cases e : erR x N c rn L = 0
      · exact e
      · rw [if_neg e] at hE; exact absurd hE e
    rw [if_pos hR0] at hE
    obtain ⟨hx, hrn, hL⟩ := erR_zero hR0
    subst hx hrn
    have hcond : (0 <= (0 : Int) /\ 0 < q) /\ wnV k rn c L F < v /\ v <= 1073741824 := Classical.byContradiction fun a => by rw [if_neg a] at hE; exact absurd hE (by decide)
    rw [if_pos hcond] at hE
    have hokD := (De.erD_of hE).2
    obtain ⟨_, hvl, hvm⟩ := hcond
    have hbd := wnV_bd k rn c L F
    obtain ⟨K, m, hk, hcm, hK1, hK12, hKN, hN16, hm8, hm64, hWm⟩ := h.nums
    obtain ⟨hmy, hW, hW2, hq⟩ := h.fine
    have hNr : (rn : Int) = k + r := by
      rcases h with ⟨_, _, h2, _⟩ | ⟨_, _, _, h0⟩
      · exact h2
      · exact absurd h0 (by decide)
    have hfewD := (De.okD_few hW hokD).1
    have hdl := dir_le hW2
    have hc8 : 8 <= c := by omega
    have hcn : c.toNat = m := by omega
    have hkn : k.toNat = K := by omega
    have hPU2 : Hid (∀ u, Below w.heap.size w u -> Calls Tryz.prog 6 #[.agg #[.int .i64 (K : Int), .int .i64 r, .int .i64 c, .int .i64 q], .slice ro rn rc, .int .i64 0, .int .i64 v, .agg #[.int .i64 len, .int .i64 dep, .slice so sn sc]] u fun e w' => ∃ lo lc T U, e = .returned (.tuple #[.slice lo rn lc, .int .i64 0]) /\ PL u.heap.size w' lo rn lc rn (fun _ => c.toNat) (osl rn c L F 2 (wnV k rn c L F)) 0 (sz rn c) T U (fun i => enc (slC 2 rn (fun _ => v) c.toNat (dH K c.toNat (De.deB len dep sn R V) i) i)) /\ Below u.heap.size u w') := fun u hu => by
      rw [<- hk, <- hkn]
      refine (HPU u hu).mono ?_
      rintro e w' ⟨ao, cap, T, U, rfl, h1, h2⟩
      exact ⟨ao, cap, T, U, by rw [lenE_zero], h1 rfl, h2⟩
    rw [hk] at HRO ⊢
    by_cases hf0 : f = 0
    · subst hf0
      unfold erCR at hf
      have hO : erOL (erR 0 rn c rn L) (wnB k rn c L F) = 0 := by
        by_cases e : erOL (erR 0 rn c rn L) (wnB k rn c L F) = 0
        · exact e
        · rw [if_neg e] at hf; exact absurd hf e
      rw [if_pos hO] at hf
      have hwb : wnB k rn c L F = true := by
        unfold erOL at hO
        rw [hR0, if_pos rfl] at hO
        cases e : wnB k rn c L F
        · rw [e, if_neg (by decide)] at hO; exact absurd hO (by decide)
        · rfl
      obtain ⟨hV1, hV2⟩ : erV2 (erK 0 rn c rn L 2 (wnV k rn c L F)) (erL k.toNat (zv rn c L F 2 (wnV k rn c L F)) rn) = 0 /\ De.erB 0 W q W (wnD k rn c L F) = 0 := by
        unfold erV2 at hf ⊢
        by_cases e : (if erK 0 rn c rn L 2 (wnV k rn c L F) = 0 then erL k.toNat (zv rn c L F 2 (wnV k rn c L F)) rn else erK 0 rn c rn L 2 (wnV k rn c L F)) = 0
        · rw [if_pos e] at hf; exact ⟨e, hf⟩
        · rw [if_neg e] at hf; exact absurd hf e
      have hisD := (De.erB_of hV2).2.2
      have hfewO := (De.okD_few hW (De.isD_true hisD).1).1
      obtain ⟨v0, hv0⟩ : ∃ v0, v0 = wnV k rn c L F := ⟨_, rfl⟩
      obtain ⟨B, hB⟩ : ∃ B, B = wnD k rn c L F := ⟨_, rfl⟩
      have hBB : B = cat2 c.toNat (cH K (zv rn c L F 2 v0) rn) := by rw [hB, hv0, <- hkn]; rfl
      have hw1 : (Cn.wins (K : Int) (Cn.hP rn c L F) (Cn.hQ rn c L F) rn).getD 0 0 = v0 := by rw [hv0, <- hk]; rfl
      have hw2 : 0 < (Cn.wins (K : Int) (Cn.hP rn c L F) (Cn.hQ rn c L F) rn).length := by rw [<- hk]; exact of_decide_eq_true hwb
      rw [<- hv0] at hvl hbd hPU2
      rw [hk] at hv0 hB
      rw [<- hv0, <- hB] at HRO
      rw [<- hk] at hB
      rw [<- hB] at hisD hfewO
      have hv01 : v0 ≠ 0 := (wins_top (by omega) hw2 hw1).1
      obtain ⟨P, hP⟩ : ∃ P : Nat -> Bool, ∀ i, P i = !(decide (i < tn) && TV i) := ⟨_, fun _ => rfl⟩
      have hback := De.desc_back hW hW2 hq hokD (F := De.deB len dep sn R V) (fun _ _ => rfl)
      have hrows : ∀ (Q : Nat -> Bool) (n : Nat), ∀ j, j < 2 * rn -> wp Q 0 (bP (fun _ => c.toNat) (osl rn c L F 2 v0) rn L (fun _ => sz rn c) n) rn j = 0 \/ wp Q 0 (bP (fun _ => c.toNat) (osl rn c L F 2 v0) rn L (fun _ => sz rn c) n) rn j = sz rn c := fun Q n => wp_len hL
      have hnew : ∀ (Q : Nat -> Bool) (n : Nat), n <= rn -> (∀ j, j < 2 * rn -> isS rn c (L j) (F j) = true -> (zq rn c L F j).st < v) /\ (∀ i, i < rn -> ¬ twB rn c L F 2 i) -> (∀ j, j < 2 * rn -> puJ rn c L F j) -> K <= (Cn.dl Q n).length -> ∀ u g cp A' C', Rw u (some ⟨g, 0, none⟩) rn A' (wp Q 0 (bP (fun _ => c.toNat) (osl rn c L F 2 v0) rn L (fun _ => sz rn c) n) rn) C' (bP (fun _ => c.toNat) (osl rn c L F 2 v0) rn F (fun i => enc (slC 2 rn (fun _ => v) c.toNat (dH K c.toNat (De.deB len dep sn R V) i) i)) n) -> Calls Tryz.prog 7 #[.agg #[.int .i64 (K : Int), .int .i64 r, .int .i64 c, .int .i64 q], .slice (some ⟨g, 0, none⟩) rn cp] u (AnsRd u 0 v len dep sn R V) := fun Q n hn hFi hPu hl u g cp A' C' hrw => by
        have hst : ∀ j, j < 2 * rn -> (yy rn c L F j).st < v := fun j hj => above_st (decide_eq_true hFi.1) (by omega) hj
        have hct := point_new (ke := v0) (D := De.deB len dep sn R V) hK1 hK12 hN16 hc8 ⟨by omega, hvm⟩ (pu_of hPu) (once_of (.inr rfl) hFi.2) hst hn hl
        have := cts_read h hk u (some ⟨g, 0, none⟩) cp A' _ C' _ hrw (hrows Q n) v ⟨by omega, hvm⟩ _ hct hback.1
        rw [hback.2.1, hback.2.2.1, hback.2.2.2.1, hk] at this
        exact this.mono fun e w' ha => ha.congr hback.2.2.2.2
      have hold : ∀ (Q : Nat -> Bool) (n : Nat), n <= rn -> (∀ j, j < 2 * rn -> isS rn c (L j) (F j) = true -> (zq rn c L F j).st < v) /\ (∀ i, i < rn -> ¬ twB rn c L F 2 i) -> (∀ j, j < 2 * rn -> puJ rn c L F j) -> (Cn.dl (fun d => !Cn.hbv (Cn.hP rn c L F) (Cn.hQ rn c L F) v0 d) rn).length = 0 -> ¬ K <= (Cn.dl Q n).length -> K <= (Cn.dl Q rn).length -> ((∀ i, i < rn -> Q i = true) \/ ((∀ i, i < rn -> (cdT (yy rn c L F) v0 2 i).dn ≠ 0) /\ Cod.verB k.toNat r.toNat c.toNat (fun i b => toK ((cdT (yy rn c L F) v0 2 i).D b)) = true)) -> ∀ u g cp A' C', Rw u (some ⟨g, 0, none⟩) rn A' (wp Q 0 (bP (fun _ => c.toNat) (osl rn c L F 2 v0) rn L (fun _ => sz rn c) n) rn) C' (bP (fun _ => c.toNat) (osl rn c L F 2 v0) rn F (fun i => enc (slC 2 rn (fun _ => v) c.toNat (dH K c.toNat (De.deB len dep sn R V) i) i)) n) -> Calls Tryz.prog 7 #[.agg #[.int .i64 (K : Int), .int .i64 r, .int .i64 c, .int .i64 q], .slice (some ⟨g, 0, none⟩) rn cp] u (AnsRd u 0 v0 ((nm B 0 4 : Nat) : Int) ((nm B 4 1 : Nat) : Int) (nm B 5 2) (De.rdR B 7) (De.rdV B 7)) := fun Q n hn hFi hPu hgl hl hQ hco u g cp A' C' hrw => by
        have hst : ∀ j, j < 2 * rn -> (yy rn c L F j).st < v := fun j hj => above_st (decide_eq_true hFi.1) (by omega) hj
        have hp := pu_of hPu
        have ho : Once rn 2 (yy rn c L F) := once_of (.inr rfl) hFi.2
        have hall : ∀ i, i < rn -> hd (yy rn c L F) v0 i = true := fun i hi => by
          have := Cn.dl_nil hgl hi
          rw [<- hbv_hd hp hv01 hi]
          simpa using this
        have hct := point_old (D := De.deB len dep sn R V) (B := B) (P := Q) hK1 hK12 hN16 hc8 ⟨by omega, hvm⟩ hp ho hst hn (by omega) hQ hw1 hw2 hvl hall (by
          rcases hco with e | ⟨_, e⟩
          · exact .inl ⟨e, fun b _ => by rw [hBB]⟩
          · right
            rw [hBB]
            rw [hkn] at e
            exact coded_new (R := r.toNat) hK12 (by omega) hN16 hc8 hp ho hall e)
        have := cts_read h hk u (some ⟨g, 0, none⟩) cp A' _ C' _ hrw (hrows Q n) v0 ⟨by omega, hbd.2⟩ _ hct hisD
        rw [hk] at this
        exact this
      have hMI : erF 0 v0 = 0 := by unfold erF; rw [if_pos rfl, if_pos ⟨by omega, hbd.2⟩]
      refine point_good (K := K) (m := c.toNat) (Z := sz rn c) w ro rn rc v len dep so sn sc tob tn tc R V hD (by omega) TV hT P hP (by omega) hN16 (osl rn c L F 2 v0) (fun i => enc (slC 2 rn (fun _ => v) c.toNat (dH K c.toNat (De.deB len dep sn R V) i) i)) (by omega) (fun i => oN_lt _ _ _ _) A L C F hr v0 ((nm B 0 4 : Nat) : Int) ((nm B 4 1 : Nat) : Int) (nm B 5 2) (De.rdR B 7) (De.rdV B 7) (by omega) (by omega) ((∀ j, j < 2 * rn -> isS rn c (L j) (F j) = true -> (zq rn c L F j).st < v) /\ (∀ i, i < rn -> ¬ twB rn c L F 2 i)) (∀ j, j < 2 * rn -> puJ rn c L F j) ((∀ i, i < rn -> (cdT (yy rn c L F) v0 2 i).dn ≠ 0) /\ Cod.verB k.toNat r.toNat c.toNat (fun i b => toK ((cdT (yy rn c L F) v0 2 i).D b)) = true) (Cn.dl (fun d => !Cn.hbv (Cn.hP rn c L F) (Cn.hQ rn c L F) v0 d) rn).length hPU2 HRO ?_ ?_ ?_ ?_ ?_ ?_ ?_ ?_
      · exact fun u hu => by rw [<- hk]; exact fit_any h u ro rc A L C F (hr.below hu) hL v
      · exact fun u hu => by rw [<- hk]; exact pure_any h u ro rc A L C F (hr.below hu) hL
      · intro _ _ u hu
        rw [<- hk]
        refine (Cn.Missing_any h u ro rn rc A L C F (hr.below hu) 0 hR0 v0 0 hMI _ (if_pos rfl)).mono ?_
        rintro e w' ⟨a, cap, rfl, _, hb⟩
        exact ⟨a, cap, rfl, hb⟩
      · exact fun u => by have := Point_any h u; rw [if_pos rfl, hk] at this; exact this
      · exact fun u hu => by rw [<- hk]; exact coded_any h u ro rc A L C F (hr.below hu) hL v0 hv01
      · intro hFi hPu hgl n hn u g cp A' C' hrw
        by_cases hkn2 : K <= n
        · rw [if_pos hkn2, if_pos hkn2, if_pos hkn2, if_pos hkn2, if_pos hkn2, if_pos hkn2]
          exact hnew _ n hn hFi hPu (by rw [dl_true]; exact hkn2) u g cp A' C' hrw
        · rw [if_neg hkn2, if_neg hkn2, if_neg hkn2, if_neg hkn2, if_neg hkn2, if_neg hkn2]
          exact hold _ n hn hFi hPu hgl (by rw [dl_true]; exact hkn2) (by rw [dl_true]; exact hKN) (.inl fun _ _ => rfl) u g cp A' C' hrw
      · intro hFi hPu hgl hCo hmany n hn u g cp A' C' hrw
        have hboth := Cn.dl_both P rn
        by_cases hkn2 : K <= (Cn.dl P n).length
        · rw [if_pos hkn2, if_pos hkn2, if_pos hkn2, if_pos hkn2, if_pos hkn2, if_pos hkn2]
          exact hnew P n hn hFi hPu hkn2 u g cp A' C' hrw
        · rw [if_neg hkn2, if_neg hkn2, if_neg hkn2, if_neg hkn2, if_neg hkn2, if_neg hkn2]
          exact hold P n hn hFi hPu hgl hkn2 (by omega) (.inr hCo) u g cp A' C' hrw
      · intro n hn
        exact ⟨_, _, _, _, _, _, _, fun u g cp A' C' hrw => by rw [<- hk]; exact cRead_any h u (some ⟨g, 0, none⟩) rn cp A' _ C' _ hrw _ rfl⟩
    · exact point_rbad (K := K) (m := c.toNat) (Z := sz rn c) w ro rn rc v len dep so sn sc tob tn tc _ _ f _ _ _ _ _ _ hf0 hPU2 HRO
  · refine point_bad w ro rn rc v len dep so sn sc tob tn tc E f _ _ _ _ _ _ hE0 (fun u hu => (HPU u hu).mono ?_) HRO
    rintro e w' ⟨ao, cap, T, U, rfl, _, hb⟩
    exact ⟨ao, cap, by rw [lenE_ne _ hE0], hb⟩
end Go.Proofs.YtdmpiipllmjloaaGreat
