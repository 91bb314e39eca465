/- While a part of a stripe is written. -/
import Derived.Test.YtfhefbbhlmdjkaaGreatPlJ
import Derived.Test.YtfhefbbhlmdjkaaGreatUpE
import Derived.BigQuiet
namespace Go.Proofs.YtfhefbbhlmdjkaaGreat
open Go.RowKit

theorem long_any (w : World) (lo : Option Addr) (n lc : Nat) (b : Bool) (hb : decide (40 < n) = b) :
    Calls Tryz.prog 6 #[.slice lo n lc] w fun e w' => e = .returned (.bool b) ∧ w' = w := by
  subst hb
  by_cases h : 40 < n
  · have h2 : (40 : Int) < (n : Int) := by omega
    rw [decide_eq_true h]
    go_enter Tryz.func6, Tryz.ntmps6
    go_wp2_with fail
    go_ret
    exact ⟨rfl, rfl⟩
  · have h2 : ¬ (40 : Int) < (n : Int) := by omega
    rw [decide_eq_false h]
    go_enter Tryz.func6, Tryz.ntmps6
    go_wp2_with fail
    go_ret
    exact ⟨rfl, rfl⟩
end Go.Proofs.YtfhefbbhlmdjkaaGreat
/- What is read behind an update, and while it is written. -/
namespace Go.Proofs.YtfhefbbhlmdjkaaGreat
open Go.RowKit

/-- The old data with the first j changes. -/
def nd (D : Nat → Int) (O : Cod.M) (F : Nat → Nat → UInt8) : Nat → Cod.M
  | 0 => O
  | j + 1 => Cod.put (D j).toNat (fun b => toK (F j b)) (nd D O F j)
theorem nd_miss {D : Nat → Int} {O : Cod.M} {F : Nat → Nat → UInt8} {i : Nat} : ∀ {n : Nat}, (∀ j, j < n → (D j).toNat ≠ i) → nd D O F n i = O i
  | 0, _ => rfl
  | n + 1, h => by rw [nd, Cod.put_ne _ _ (fun e => h n (by omega) e.symm)]; exact nd_miss fun j hj => h j (by omega)
theorem nd_hit {D : Nat → Int} {O : Cod.M} {F : Nat → Nat → UInt8} {K : Int} {N : Nat} (hg : gdB D K N) {j : Nat} : ∀ {n : Nat}, n ≤ N → j < n → nd D O F n (D j).toNat = fun b => toK (F j b)
  | 0, _, h => absurd h (Nat.not_lt_zero j)
  | n + 1, hN, h => by
    rw [nd]
    by_cases e : j = n
    · subst e; rw [Cod.put_at]
    · have h1 := gd_lt hg n j (by omega) (by omega)
      have h2 := gd_ge hg (show j < N by omega)
      rw [Cod.put_ne _ _ (by omega)]
      exact nd_hit hg (by omega) (by omega)
/-- The parity of the new data is what delta makes of the old parity. -/
theorem nd_par {K N : Nat} {z : Nat → Sl} {D : Nat → Int} {F : Nat → Nat → UInt8} {n : Nat} (hg : gdB D (K : Int) n) : ∀ j, j ≤ n → ∀ i b, Cod.par K (nd D (cD K z N) F j) i b = Cod.upd K j D (dlt D (cH K z N) F) (fun i b => toK (cH K z N (K + i) b)) i b
  | 0, _, i, b => by
    show Cod.enc K (cD K z N) (K + i) b = Cod.K.add (Cod.lin 0 _ _ b) (toK (bK (Cod.enc K (cD K z N) (K + i) b)))
    rw [toK_bK, Cod.lin_zero, Cod.K.zero_add]
  | j + 1, hj, i, b => by
    have h1 := gd_ge hg (show j < n by omega)
    have hm : nd D (cD K z N) F j (D j).toNat = cD K z N (D j).toNat := nd_miss fun l hl => by
      have := gd_lt hg j l hl (by omega)
      have := gd_ge hg (show l < n by omega)
      omega
    have := Cod.par_step (k := K) (t := j) (c := (D j).toNat) (R := D) (D := dlt D (cH K z N) F) (X := nd D (cD K z N) F j) (P := fun i b => toK (cH K z N (K + i) b)) (x := fun b => toK (cH K z N (D j).toNat b)) (y := fun b => toK (F j b)) (by omega) (fun b => by
      rw [hm]
      unfold cH
      rw [toK_bK, Cod.enc_data _ (by omega)]) (fun i b => nd_par hg j (by omega) i b) i b
    rw [nd, this]
    refine Cod.upd_congr (fun l hl => ?_) (fun l hl => ?_) rfl
    · by_cases e : l = j
      · subst e; rw [Cod.put_at]; omega
      · rw [Cod.put_ne _ _ e]
    · by_cases e : l = j
      · subst e; rw [Cod.put_at]; rfl
      · rw [Cod.put_ne _ _ e]
theorem sel_ge {L : Nat → Nat} {N c : Nat} {R : Nat → Nat} (h : Cod.Sel L N c R) : ∀ t, t < c → t ≤ R t
  | 0, _ => Nat.zero_le _
  | t + 1, ht => by
    have h1 := sel_ge h t (by omega)
    have h2 := h.rise t (t + 1) (by omega) ht
    omega
theorem erL_le {K N : Nat} {z : Nat → Sl} (h : erL K z N = 0) : K ≤ Cod.cnt (Lz z) N := by
  unfold erL at h
  by_cases g : K ≤ Cod.cnt (Lz z) N
  · exact g
  · rw [if_neg g] at h; exact absurd h (by decide)
/-- A data cell that is there is among the data. -/
theorem cD_there {K N : Nat} {z : Nat → Sl} (hK : K ≤ 12) (hN : N ≤ 16) (hKN : K ≤ N) (hE : erL K z N = 0) {i : Nat} (hi : i < K) (hne : Lz z i ≠ 0) (b : Nat) : cD K z N i b = toK ((z i).D b) := by
  have hk := erL_le hE
  have hS := Cod.sel_is (Lz z) N
  obtain ⟨t, ht, e⟩ := hS.all i (by omega) hne
  have h1 := sel_ge hS t ht
  have := Cod.dec_there (n := N) (R := Cod.sel (Lz z) N) (Hz z) hK hN (fun t ht => hS.lt t (by omega)) (fun t t' h1 h2 => hS.rise t t' h1 (by omega)) t b (by omega) (by omega)
  rw [e] at this
  exact this
/-- Behind an update the new data are read. -/
theorem read_new {K R N n m : Nat} {tv : Int} {D : Nat → Int} {z z' : Nat → Sl} {F : Nat → Nat → UInt8} {X : Nat → Int} (hK0 : 1 ≤ K) (hK : K ≤ 12) (hR : R ≤ 4) (hNN : N = K + R) (hm : 0 < m) (hg : gdB D (K : Int) n) (hE : erL K z N = 0) (hE' : erL K z' N = 0)
    (hu : ∀ i, i < N → (Lw (dq K n D) (n + R) i ≠ 0 → New N (m : Int) 1 tv X (fun i => pH K N n z D F (Cod.cnt (Lw (dq K n D) (n + R)) i)) i (z' i)) ∧ (Lw (dq K n D) (n + R) i = 0 → z' i = z i)) (b : Nat) (hb : b < K * m) : cat2 m (cH K z' N) b = bK (nd D (cD K z N) F n (b / m) (b % m)) := by
  subst hNN
  have hk := erL_le hE'
  have hi : b / m < K := Nat.div_lt_of_lt_mul (by rw [Nat.mul_comm]; exact hb)
  have hbm : b % m < m := Nat.mod_lt _ hm
  have hS := Cod.sel_is (Lz z') (K + R)
  have hri := dq_ris (R := R) hg
  unfold cat2 cH
  rw [Cod.enc_data _ hi]
  congr 1
  unfold cD
  refine Cod.dec_enc (n := K + R) (Hz z') (nd D (cD K z (K + R)) F n) hK (by omega) (fun t ht => hS.lt t (by omega)) (fun t t' h1 h2 => hS.rise t t' h1 (by omega)) (b % m) (fun t ht => ?_) (b / m) hi
  have hl := hS.lt t (by omega)
  have hne := hS.there t (by omega)
  obtain ⟨i, he⟩ : ∃ i, Cod.sel (Lz z') (K + R) t = i := ⟨_, rfl⟩
  rw [he] at hl hne ⊢
  show toK ((z' i).D (b % m)) = _
  by_cases e : Lw (dq K n D) (n + R) i = 0
  · have hz := (hu i hl).2 e
    have hiK : i < K := by
      by_cases g : i < K
      · exact g
      · exfalso
        have h2 : dq K n D (n + (i - K)) = i := by unfold dq; rw [if_neg (by omega)]; omega
        exact Lw_hit (d := dq K n D) (n := n + R) (j := n + (i - K)) (by omega) (by rw [h2]; exact e)
    rw [hz, Cod.enc_data _ hiK, nd_miss (fun j hj q => ?_)]
    · unfold Lz at hne
      rw [hz] at hne
      exact (cD_there hK (by omega) (by omega) hE hiK hne (b % m)).symm
    · have h2 : dq K n D j = i := by unfold dq; rw [if_pos hj]; exact q
      exact Lw_hit (d := dq K n D) (n := n + R) (j := j) (by omega) (by rw [h2]; exact e)
  · have hn := (hu i hl).1 e
    obtain ⟨h1, h2⟩ := hri.inv e
    rw [hn.D (b % m) (by omega)]
    obtain ⟨j, hj⟩ : ∃ j, Cod.cnt (Lw (dq K n D) (n + R)) i = j := ⟨_, rfl⟩
    rw [hj] at h1 h2
    show toK (pH K (K + R) n z D F (Cod.cnt (Lw (dq K n D) (n + R)) i) (b % m)) = _
    rw [hj]
    unfold pH
    by_cases g : j < n
    · have h3 : (D j).toNat = i := by unfold dq at h2; rw [if_pos g] at h2; exact h2
      have h4 := gd_ge hg g
      rw [Cod.cat_lo _ _ g, Cod.enc_data _ (by omega), ← h3, nd_hit hg (Nat.le_refl _) g]
    · obtain ⟨l, rfl⟩ : ∃ l, j = n + l := ⟨j - n, by omega⟩
      have h3 : K + l = i := by unfold dq at h2; rw [if_neg g, Nat.add_sub_cancel_left] at h2; exact h2
      rw [Cod.cat_hi, ← h3]
      unfold nwP
      rw [toK_bK]
      exact (nd_par hg n (Nat.le_refl _) l (b % m)).symm
/-- The slot that is written is the same where a cell is not there. -/
theorem ol_eq {N : Nat} {c : Int} {L : Nat → Nat} {F : Nat → Nat → UInt8} {t : Sl} (ht : t.ce ≠ 0) {i : Nat} (hi : i < N) : ol N c L F t.V i = oN (yy N c L F (2 * i)) (yy N c L F (2 * i + 1)) 1 (zz (yy N c L F) 1 t i).ce := by
  obtain ⟨h0, h1⟩ := pair_of (yy_ok N c L F) hi
  unfold ol zz
  rw [if_neg ht]
  rcases fZ_is (kd := 1) (v := t.V i) h0 h1 with ⟨h, g0, g1⟩ | ⟨_, _, h, _⟩
  · rw [h]
    unfold oN
    rw [g0, g1, show hB (yy N c L F (2 * i)) 1 zSl.ce = false from decide_eq_false fun q => q.1 rfl, show hB (yy N c L F (2 * i + 1)) 1 zSl.ce = false from decide_eq_false fun q => q.1 rfl]
  · rw [h]
theorem chg_row {N n : Nat} {m : Nat} {fr tv : Int} {D : Nat → Int} {d : Nat → Nat} {L : Nat → Nat} {F M : Nat → Nat → UInt8} {t : Sl} (hN : N ≤ 16) (hr : Ren N t.V n D d tv) (hri : Ris d n N) (ht : t.ce ≠ 0) (hft : fr < tv) (l : Nat) (hl : l ≤ n) :
    Chg N 1 (yy N (m : Int) L F) (yy N (m : Int) (bP (Lw d n) (ol N (m : Int) L F t.V) N L (fun _ => sz N (m : Int)) l) (bP (Lw d n) (ol N (m : Int) L F t.V) N F (fun i => enc (slC 1 N (bmp D tv t.V n) m (M i) i)) l)) t fr := by
  have hS := Cod.sel_is (Lw d n) N
  rw [hri.all] at hS
  have ho : ∀ i, ol N (m : Int) L F t.V i < 2 := fun i => oN_lt _ _ _ _
  obtain ⟨os, hos⟩ : ∃ os, ol N (m : Int) L F t.V = os := ⟨_, rfl⟩
  have hoe : ∀ i, i < N → os i = oN (yy N (m : Int) L F (2 * i)) (yy N (m : Int) L F (2 * i + 1)) 1 (zz (yy N (m : Int) L F) 1 t i).ce := fun i hi => by rw [← hos]; exact ol_eq ht hi
  rw [hos] at ho ⊢
  have htv := hr.tv
  have hX := hr.X
  have out : ∀ i s, (∀ u, u < l → 2 * Cod.sel (Lw d n) N u + os (Cod.sel (Lw d n) N u) ≠ 2 * i + s) → yy N (m : Int) (bP (Lw d n) os N L (fun _ => sz N (m : Int)) l) (bP (Lw d n) os N F (fun i => enc (slC 1 N (bmp D tv t.V n) m (M i) i)) l) (2 * i + s) = yy N (m : Int) L F (2 * i + s) := fun i s hu => yy_congr (bP_out hu) (bP_out hu)
  refine ⟨fun i hi => ?_⟩
  by_cases h : ∃ u, u < l ∧ Cod.sel (Lw d n) N u = i
  · obtain ⟨u, hu, hui⟩ := h
    have h2 := ho i
    have e1 := bP_in (Lc := Lw d n) (os := os) (N := N) (f := L) (g := fun _ => sz N (m : Int)) ho (s := u) (t := l) (by rw [hri.all]; exact hl) hu
    have e2 := bP_in (Lc := Lw d n) (os := os) (N := N) (f := F) (g := fun i => enc (slC 1 N (bmp D tv t.V n) m (M i) i)) ho (s := u) (t := l) (by rw [hri.all]; exact hl) hu
    rw [hui] at e1 e2
    have hw : New N (m : Int) 1 tv (bmp D tv t.V n) M i (yy N (m : Int) (bP (Lw d n) os N L (fun _ => sz N (m : Int)) l) (bP (Lw d n) os N F (fun i => enc (slC 1 N (bmp D tv t.V n) m (M i) i)) l) (2 * i + os i)) := by
      unfold yy
      rw [e1, e2, show (2 * i + os i) / 2 = i by omega]
      have := new_of (N := N) (c := (m : Int)) (kd := 1) (X := bmp D tv t.V n) (G := M) (i := i) (F := enc (slC 1 N (bmp D tv t.V n) m (M i) i)) hN (by omega) (.inl rfl) (fun j hj => by have := hX j hj; omega) hi (fun j _ => by rw [Int.toNat_natCast])
      rw [hr.mx] at this
      exact this
    have hwi : Lw d n i ≠ 0 := by rw [← hui]; exact hS.there u (by omega)
    obtain ⟨j, hj, hji⟩ := Lw_inv hwi
    refine .inr ⟨os i, by omega, hoe i hi, ?_, ?_, ?_⟩
    · refine out i (1 - os i) fun w hw' e => ?_
      have h3 := ho (Cod.sel (Lw d n) N w)
      have h4 : Cod.sel (Lw d n) N w = i := by omega
      rw [h4] at e
      omega
    · exact decide_eq_false fun q => by have := hw.st; omega
    · rw [hw.ce, ← hji, hr.hit hj]
      have := hr.V (d j) (hr.D j hj).2
      omega
  · have key : ∀ s, s < 2 → ∀ u, u < l → 2 * Cod.sel (Lw d n) N u + os (Cod.sel (Lw d n) N u) ≠ 2 * i + s := fun s hs u hu e => by
      have h3 := ho (Cod.sel (Lw d n) N u)
      exact h ⟨u, hu, by omega⟩
    exact .inl ⟨out i 0 (key 0 (by decide)), out i 1 (key 1 (by decide))⟩
end Go.Proofs.YtfhefbbhlmdjkaaGreat
/- While a part of a stripe is written: the walk. -/
namespace Go.Proofs.YtfhefbbhlmdjkaaGreat
open Go.RowKit

theorem ptl_pto2 {d : Nat → Nat} {n N : Nat} (h : Ris d n N) {D : Nat → Int} (hD : ∀ j, j < n → D j = ((d j : Nat) : Int)) (os : Nat → Nat) (nu : Int) (S : Nat) (T : Nat → Option Addr) (U : Nat → Nat) : ∀ i, ptl (Lw d n) os nu S T U i = pto D (fun j => os (d j)) nu S (fun j => T (d j)) (fun j => U (d j)) (Cod.cnt (Lw d n) i)
  | 0 => rfl
  | i + 1 => by
    rw [ptl]
    by_cases e : Lw d n i = 0
    · rw [if_pos e, Cod.cnt_skip e]; exact ptl_pto2 h hD os nu S T U i
    · obtain ⟨h1, h2⟩ := h.inv e
      rw [if_neg e, Cod.cnt_take e, pto, ptl_pto2 h hD os nu S T U i, hD _ h1, h2]
theorem pto_len (D : Nat → Int) (os : Nat → Nat) (nu : Int) (n : Nat) (T : Nat → Option Addr) (U : Nat → Nat) : ∀ d, (pto D os nu n T U d).length = d * 4
  | 0 => rfl
  | d + 1 => by rw [pto, List.length_append, pto_len D os nu n T U d]; simp; omega
theorem pto_get (D : Nat → Int) (os : Nat → Nat) (nu : Int) (n : Nat) (T : Nat → Option Addr) (U : Nat → Nat) : ∀ d t, t < d → (pto D os nu n T U d)[t * 4]? = some (.int .i64 (D t)) ∧ (pto D os nu n T U d)[t * 4 + 1]? = some (.int .i64 nu)
  | 0, t, h => absurd h (Nat.not_lt_zero t)
  | d + 1, t, h => by
    have hl := pto_len D os nu n T U d
    rw [pto]
    by_cases e : t < d
    · rw [List.getElem?_append_left (by omega), List.getElem?_append_left (by omega)]
      exact pto_get D os nu n T U d t e
    · obtain rfl : t = d := by omega
      rw [List.getElem?_append_right (by omega), List.getElem?_append_right (by omega), hl, Nat.sub_self, show t * 4 + 1 - t * 4 = 1 by omega]
      exact ⟨rfl, rfl⟩
theorem run_copy_ow2 {w : World} {B g n cap off k dl dC : Nat} {G H : Nat → UInt8} {bo : Option Addr} {cb : Nat} (hg : OwU B w (some ⟨g, 0, none⟩) n cap G) (hb : Bec w bo k cb H) (h0 : 0 < k) (hk : k ≤ dl) (hfit : off + k ≤ n) :
    ∃ w', (Builtin.copy_ #[32, 32] 3 #[.slice (some ⟨g, off, none⟩) dl dC, .slice bo k cb]).run Tryz.prog w = .ok (goInt k) w' ∧ OwU B w' (some ⟨g, 0, none⟩) n cap (upR G off k H) ∧ Only (fun b => b = g) w w' := by
  obtain ⟨b, bof, rfl, hc⟩ := hb.rd (by omega)
  have hl : (byF k H).length = Nat.min k dl := by rw [byF_length]; exact (Nat.min_eq_left hk).symm
  rcases hg.2 with ⟨e, _⟩ | ⟨g', c', cur, e, h1, h2, h3, h4, h5, h6⟩
  · cases e
  · cases e
    rw [Nat.mul_one] at h5 h6
    have hrun := run_copy_row (P := Tryz.prog) w 32 32 3 5 g off dl dC ⟨b, bof, none⟩ k cb cur 5 (byF k H) Tryz.underlying32 (by kernel_rfl) h2 hl
      (fun j v hv => by
        have hj := list_lt (byF_length k H) hv
        rw [byF_get _ _ _ hj] at hv
        rw [Addr.add_lit, hc j (by omega)]; exact hv) (by rw [byF_length]; omega) (byF_one k H)
    rw [byF_length] at hrun
    refine ⟨_, hrun, ?_, only_setRow _ _ _⟩
    have hh := setRow_heap w g _ (cur.toList.take off ++ byF k H ++ cur.toList.drop (off + k)).toArray 5 _ h2
    have hcl : cur.toList.length = cap := by simpa using h5
    refine ⟨by rw [byF_length, Nat.mul_one], .inr ⟨g, cap, _, rfl, h1, hh, h3, h4, ?_, ?_⟩⟩
    · simp [byF_length, h5]; omega
    · rw [Nat.mul_one, List.toList_toArray, ← byF_splice G H hfit, ← h6, List.append_assoc, List.take_append, List.take_take, Nat.min_eq_right (show off ≤ n by omega), List.take_take, Nat.min_eq_left (show off ≤ n by omega), List.length_take, hcl, Nat.min_eq_left (show off ≤ cap by omega), List.take_append, byF_length, List.take_of_length_le (l := byF k H) (by rw [byF_length]; omega), List.drop_take, show n - off - k = n - (off + k) by omega]
/-- The data with the first i changes. -/
def dat (m : Nat) (D : Nat → Int) (O : Cod.M) (F : Nat → Nat → UInt8) (i b : Nat) : UInt8 := bK (nd D O F i (b / m) (b % m))
theorem dat_step {m : Nat} {D : Nat → Int} {O : Cod.M} {F : Nat → Nat → UInt8} {i p : Nat} (hm : 0 < m) (hp : p = (D i).toNat * m) (b : Nat) : upR (dat m D O F i) p m (F i) b = dat m D O F (i + 1) b := by
  have h1 := Nat.div_add_mod b m
  have h2 := Nat.mod_lt b hm
  by_cases e : b / m = (D i).toNat
  · have h3 : b = p + b % m := by rw [hp, ← e, Nat.mul_comm]; exact h1.symm
    rw [upR_in (by omega)]
    unfold dat
    rw [nd, e, Cod.put_at, bK_toK, show b - p = b % m by omega]
  · rw [upR_out (fun q => e ?_)]
    · unfold dat
      rw [nd, Cod.put_ne _ _ e]
    · rw [hp] at q
      exact (Nat.div_eq_iff hm).2 (by omega)
set_option maxHeartbeats 16000000 in
set_option maxRecDepth 100000 in
theorem kp_good {K R m n S : Nat} {q : Int} (w : World) (ro : Option Addr) (rc : Nat) (A : Nat → Option Addr) (L C : Nat → Nat) (F : Nat → Nat → UInt8) (hr : Rw w ro (K + R) A L C F) (fr tv : Int) (lo : Option Addr) (lc : Nat) (D : Nat → Int) (AA : Nat → Option Addr) (CC : Nat → Nat) (H : Nat → Nat → UInt8) (hl : Chl w lo n lc D AA (fun _ => m) CC H) (hgd : gdB D (K : Int) n) (hn0 : 0 < n) (hK : 1 ≤ K) (hK2 : K ≤ 12) (hR : R ≤ 4) (hm : 8 ≤ m) (hm2 : m ≤ 64) (O : Cod.M) (os : Nat → Nat) (hos : ∀ i, os i < 2) (G : Nat → Nat → UInt8) (ct0 : Nat) (Fit : Prop)
    (HPL : Hid (∀ u, Below w.heap.size w u → Calls Tryz.prog 7 #[.agg #[.int .i64 (K : Int), .int .i64 (R : Int), .int .i64 (m : Int), .int .i64 q], .slice ro (K + R) rc, .int .i64 0, .int .i64 fr, .int .i64 tv, .slice lo n lc] u fun e w' => (∃ E, E ≠ 0 ∧ e = .returned (.tuple #[.slice none 0 0, .int .i64 E]) ∧ Below u.heap.size u w') ∨ ∃ po pc T U, e = .returned (.tuple #[.slice po (n + R) pc, .int .i64 0]) ∧ PL u.heap.size w' po (n + R) pc (K + R) (Lw (dq K n D) (n + R)) os 0 S T U G ∧ Below u.heap.size u w'))
    (HRD : Hid (∀ u, Below w.heap.size w u → Calls Tryz.prog 8 #[.agg #[.int .i64 (K : Int), .int .i64 (R : Int), .int .i64 (m : Int), .int .i64 q], .slice ro (K + R) rc, .int .u8 1, .int .i64 fr] u fun e w' => ∃ ao cap, e = .returned (.tuple #[.slice ao (K * m) cap, .int .i64 0]) ∧ OwU u.heap.size w' ao (K * m) cap (dat m D O H 0) ∧ Below u.heap.size u w'))
    (HFI : Hid (∀ u, Below w.heap.size w u → Calls Tryz.prog 9 #[.agg #[.int .i64 (K : Int), .int .i64 (R : Int), .int .i64 (m : Int), .int .i64 q], .slice ro (K + R) rc, .int .i64 tv] u fun e w' => ∃ y : Bool, e = .returned (.bool y) ∧ (y = true → Fit) ∧ Below u.heap.size u w'))
    (HPR : Hid (∀ u, Below w.heap.size w u → Calls Tryz.prog 10 #[.agg #[.int .i64 (K : Int), .int .i64 (R : Int), .int .i64 (m : Int), .int .i64 q], .slice ro (K + R) rc, .int .u8 1, .int .i64 fr] u fun e w' => ∃ ao cap, e = .returned (.tuple #[.slice ao ct0 cap, .int .i64 0]) ∧ Below u.heap.size u w'))
    (HNW : Hid (Fit → ∀ l, l ≤ n + R → ∀ u g cp A' C', Rw u (some ⟨g, 0, none⟩) (K + R) A' (bP (Lw (dq K n D) (n + R)) os (K + R) L (fun _ => S) l) C' (bP (Lw (dq K n D) (n + R)) os (K + R) F G l) →
      (Calls Tryz.prog 10 #[.agg #[.int .i64 (K : Int), .int .i64 (R : Int), .int .i64 (m : Int), .int .i64 q], .slice (some ⟨g, 0, none⟩) (K + R) cp, .int .u8 1, .int .i64 fr] u fun e w' => ∃ ao cap, e = .returned (.tuple #[.slice ao ct0 cap, .int .i64 0]) ∧ Below u.heap.size u w') ∧
      (Calls Tryz.prog 8 #[.agg #[.int .i64 (K : Int), .int .i64 (R : Int), .int .i64 (m : Int), .int .i64 q], .slice (some ⟨g, 0, none⟩) (K + R) cp, .int .u8 1, .int .i64 fr] u fun e w' => ∃ ao cap, e = .returned (.tuple #[.slice ao (K * m) cap, .int .i64 0]) ∧ Bec w' ao (K * m) cap (dat m D O H 0) ∧ Below u.heap.size u w')))
    (HFN : Hid (Fit → ∀ u g cp A' C', Rw u (some ⟨g, 0, none⟩) (K + R) A' (bP (Lw (dq K n D) (n + R)) os (K + R) L (fun _ => S) (n + R)) C' (bP (Lw (dq K n D) (n + R)) os (K + R) F G (n + R)) →
      Calls Tryz.prog 8 #[.agg #[.int .i64 (K : Int), .int .i64 (R : Int), .int .i64 (m : Int), .int .i64 q], .slice (some ⟨g, 0, none⟩) (K + R) cp, .int .u8 1, .int .i64 tv] u fun e w' => ∃ ao cap, e = .returned (.tuple #[.slice ao (K * m) cap, .int .i64 0]) ∧ Bec w' ao (K * m) cap (dat m D O H n) ∧ Below u.heap.size u w')) :
    Calls Tryz.prog 3 #[.agg #[.int .i64 (K : Int), .int .i64 (R : Int), .int .i64 (m : Int), .int .i64 q], .slice ro (K + R) rc, .int .i64 fr, .int .i64 tv, .slice lo n lc] w fun e w' => e = .returned (.bool true) ∧ Below w.heap.size w w' := by
  obtain ⟨w0, hw0⟩ : ∃ w0, w0 = w.alloc (.cells #[.int .i64 (K : Int), .int .i64 (R : Int), .int .i64 (m : Int), .int .i64 q] 23) := ⟨_, rfl⟩
  have B0 : Hid (Below w.heap.size w w0) := by show Below _ _ _; rw [hw0]; exact below_alloc _ _
  have HPAR : Hid (∀ v, Below w0.heap.size w0 v → v.cell? ⟨w.heap.size, 0, none⟩ = some (.int .i64 (K : Int)) ∧ v.cell? ⟨w.heap.size, 1, none⟩ = some (.int .i64 (R : Int)) ∧ v.cell? ⟨w.heap.size, 2, none⟩ = some (.int .i64 (m : Int)) ∧ v.cell? ⟨w.heap.size, 3, none⟩ = some (.int .i64 q)) := fun v hv => par_held hw0 hv
  have hnK := gd_len hgd
  have HLO : Hid (∀ v, Calls Tryz.prog 6 #[.slice lo n lc] v fun e w' => e = .returned (.bool false) ∧ w' = v) := fun v => long_any v lo n lc false (decide_eq_false (by omega))
  have HLL : Hid (∀ v, Below w.heap.size w v → Chl v lo n lc D AA (fun _ => m) CC H) := fun v hv => hl.below hv
  have HGD : Hid (gdB D (K : Int) n) := hgd
  have HOS : Hid (∀ i, os i < 2) := hos
  have HRR : Hid (∀ v, Below w.heap.size w v → Rw v ro (K + R) A L C F) := fun v hv => hr.below hv
  obtain ⟨Lc, hLc⟩ : ∃ Lc, Lw (dq K n D) (n + R) = Lc := ⟨_, rfl⟩
  have HLC : Hid (Lw (dq K n D) (n + R) = Lc ∧ Cod.cnt Lc (K + R) = n + R) := ⟨hLc, by rw [← hLc]; exact (dq_ris (R := R) hgd).all⟩
  rw [hLc] at HPL HNW HFN
  obtain ⟨W, hW⟩ : ∃ W, W = K * m := ⟨_, rfl⟩
  have hW8 : 8 ≤ W ∧ W ≤ 768 := by rw [hW]; exact ⟨Nat.le_trans hm (Nat.le_mul_of_pos_left m (by omega)), Nat.le_trans (Nat.mul_le_mul hK2 hm2) (by decide)⟩
  obtain ⟨hW1, hW2⟩ := hW8
  have HWK : Hid (W = K * m) := hW
  rw [← hW] at HRD HNW HFN
  clear hl hr hgd hos hLc hW
  go_enter Tryz.func3, Tryz.ntmps3
  go_wp2_with fail
  rw [← hw0]
  clear hw0
  refine (awake_any _).mono ?_
  rintro e wa ⟨rfl, ha⟩
  obtain ⟨a0, a1, a2, a3⟩ := HPAR.out wa ha
  have HBA : Hid (Below w0.heap.size w0 wa) := ha
  clear ha
  go_wp2_with fail
  refine (HLO.out _).mono ?_
  rintro e wl ⟨rfl, rfl⟩
  go_wp2_with fail
  refine (HPL.out _ (below_then B0.out HBA.out)).mono ?_
  rintro e wp (⟨E, he, rfl, hb⟩ | ⟨po, pc, T, U, rfl, hpl, hb⟩)
  · have HBP : Hid (Below w0.heap.size w0 wp) := below_then HBA.out hb
    have e1 : (E != 0) = true := by simp [he]
    have e2 : (E == 0) = false := by simp [he]
    clear a0 a1 a2 a3 hb he
    obtain ⟨a0, a1, a2, a3⟩ := HPAR.out wp HBP.out
    go_wp2_with fail
    refine (HRD.out _ (below_then B0.out HBP.out)).mono ?_
    rintro e wd ⟨dd, dcap, rfl, _, hbd⟩
    go_wp2_with fail
    go_ret
    exact ⟨rfl, below_then (below_then B0.out HBP.out) hbd⟩
  have HBP : Hid (Below w0.heap.size w0 wp) := below_then HBA.out hb
  have BWP : Hid (Below w.heap.size w wp) := below_then B0.out HBP.out
  have HPP : Hid (∀ v, Below wp.heap.size wp v → PL wl.heap.size v po (n + R) pc (K + R) Lc os 0 S T U G) := fun v hv => hpl.below hv
  obtain ⟨pg, rfl⟩ : ∃ pg, po = some ⟨pg, 0, none⟩ := by
    rcases hpl.out.2 with ⟨_, e⟩ | ⟨g, _, _, e, _⟩
    · omega
    · cases e; exact ⟨g, rfl⟩
  have HPC : Hid (∀ v, Below wp.heap.size wp v → ∀ j, j < n + R → v.cell? ⟨pg, j * 4, none⟩ = some (.int .i64 ((dq K n D j : Nat) : Int)) ∧ v.cell? ⟨pg, j * 4 + 1, none⟩ = some (.int .i64 0)) := fun v hv j hj => by
    have ho := (HPP.out v hv).out
    rw [← HLC.out.1, ptl_pto2 (dq_ris (R := R) HGD.out) (D := fun j => ((dq K n D j : Nat) : Int)) (fun _ _ => rfl), (dq_ris (R := R) HGD.out).all] at ho
    obtain ⟨x, y⟩ := pto_get (fun j => ((dq K n D j : Nat) : Int)) (fun j => os (dq K n D j)) 0 S (fun j => T (dq K n D j)) (fun j => U (dq K n D j)) (n + R) j hj
    have c0 := ho.cells (g := pg) rfl _ _ x
    have c1 := ho.cells (g := pg) rfl _ _ y
    rw [Addr.add_lit, Nat.zero_add] at c0 c1
    exact ⟨c0, c1⟩
  have HBEH : Hid (∀ v j, Below wp.heap.size wp v → j ≤ n + R → Calls Tryz.prog 11 #[.slice ro (K + R) rc, .slice (some ⟨pg, 0, none⟩) (n + R) pc, .int .i64 (j : Int)] v fun e w' => ∃ g c' A2 C2, e = .returned (.slice (some ⟨g, 0, none⟩) (K + R) c') ∧ Rw w' (some ⟨g, 0, none⟩) (K + R) A2 (bP Lc os (K + R) L (fun _ => S) j) C2 (bP Lc os (K + R) F G j) ∧ Below v.heap.size v w') := fun v j hv hj => by
    have := behind_any v ro (K + R) rc A L C F (HRR.out v (below_then BWP.out hv)) (by omega) (by omega) _ (some ⟨pg, 0, none⟩) pc Lc os 0 S T U G (by rw [HLC.out.2]; exact HPP.out v hv) HOS.out j (by rw [HLC.out.2]; exact hj)
    rw [HLC.out.2] at this
    refine this.mono ?_
    rintro e w' ⟨g, c', rfl, h1, h2⟩
    exact ⟨g, c', _, _, rfl, h1.rw, h2⟩
  clear a0 a1 a2 a3 hb hpl HPP HPL
  obtain ⟨a0, a1, a2, a3⟩ := HPAR.out wp HBP.out
  go_wp2_with fail
  refine (HRD.out _ BWP.out).mono ?_
  rintro e wd ⟨dd, dcap, rfl, hdo, hbd⟩
  obtain ⟨dg, rfl⟩ : ∃ dg, dd = some ⟨dg, 0, none⟩ := by
    rcases hdo.2 with ⟨_, e⟩ | ⟨g, _, _, e, _⟩
    · omega
    · cases e; exact ⟨g, rfl⟩
  have HDO : Hid (OwU wp.heap.size wd (some ⟨dg, 0, none⟩) W dcap (dat m D O H 0)) := hdo
  have HBD : Hid (Below wp.heap.size wp wd) := hbd
  have hdcap := hdo.bec.room
  clear a0 a1 a2 a3 hdo hbd
  obtain ⟨a0, a1, a2, a3⟩ := HPAR.out wd (below_then HBP.out HBD.out)
  go_wp2_with fail
  refine (HFI.out _ (below_then BWP.out HBD.out)).mono ?_
  rintro e wf ⟨y, rfl, hy, hbf⟩
  have HBF : Hid (Below wd.heap.size wd wf) := hbf
  clear a0 a1 a2 a3 hbf
  cases y
  · go_wp2_with fail
    go_ret
    exact ⟨rfl, below_then BWP.out (below_then HBD.out HBF.out)⟩
  have HN2 : Hid _ := HNW.out (hy rfl)
  have HF2 : Hid _ := HFN.out (hy rfl)
  clear HNW HFN hy
  obtain ⟨a0, a1, a2, a3⟩ := HPAR.out wf (below_then HBP.out (below_then HBD.out HBF.out))
  go_wp2_with fail
  refine (HPR.out _ (below_then BWP.out (below_then HBD.out HBF.out))).mono ?_
  rintro e wo ⟨oo, oc, rfl, hbo⟩
  have HBO : Hid (Below wd.heap.size wd wo) := below_then HBF.out hbo
  have HPO : Hid (Below wp.heap.size wp wo) := below_then HBD.out HBO.out
  have HDW : Hid (OwU wp.heap.size wo (some ⟨dg, 0, none⟩) W dcap (dat m D O H 0)) := HDO.out.below HBO.out
  clear a0 a1 a2 a3 hbo
  obtain ⟨a0, a1, a2, a3⟩ := HPAR.out wo (below_then HBP.out HPO.out)
  have t1 : ((ct0 : Int) != (ct0 : Int)) = false := by simp
  go_wp2_with fail
  clear a0 a1 a2 a3
  go_loopw [18] (fun y wr => ∃ j : Nat, j ≤ n + R ∧ y = .int .i64 (j : Int) ∧ Hid (Below wo.heap.size wo wr)) (fun y _ => n + R - (intOf y).toNat)
  case atStart => exact ⟨0, Nat.zero_le _, rfl, Below.refl _ _⟩
  case round =>
    obtain ⟨j, hj, rfl, hb⟩ := hrel
    have HPR2 : Hid (Below wp.heap.size wp wr) := below_then HPO.out hb.out
    by_cases hlt : j < n + R
    · obtain ⟨c0, c1⟩ := HPC.out wr HPR2.out j hlt
      obtain ⟨a0, a1, a2, a3⟩ := HPAR.out wr (below_then HBP.out HPR2.out)
      have j1 : (0 : Int) ≤ (j : Int) := by omega
      have j2 : (j : Int) < (n : Int) + (R : Int) := by omega
      by_cases hjn : j < n
      · obtain ⟨lb, loff, rfl, hlc⟩ := (HLL.out wr (below_then BWP.out HPR2.out)).at_ hn0
        have l0 := (hlc j hjn).1
        have hdj : D j = ((dq K n D j : Nat) : Int) := by unfold dq; rw [if_pos hjn]; have := gd_ge HGD.out hjn; omega
        rw [hdj] at l0
        obtain ⟨dj, hdj2⟩ : ∃ dj, dj = dq K n D j := ⟨_, rfl⟩
        rw [← hdj2] at l0 c0
        have j3 : (j : Int) < (n : Int) := by omega
        have t2 : decide ((j : Int) < (n : Int)) = true := decide_eq_true j3
        have t3 : decide (j < n) = true := decide_eq_true hjn
        have t4 : decide ((n : Int) ≤ (j : Int)) = false := decide_eq_false (by omega)
        have t5 : decide (n ≤ j) = false := decide_eq_false (by omega)
        have t6 : ((dj : Int) != (dj : Int)) = false := by simp
        have HB : Hid (Below wo.heap.size wo wr) := hb.out
        clear hlc hdj hdj2 hb
        go_wp2_with fail
        go_big_quiet (fail)
        obtain ⟨wq, hwq⟩ : ∃ x, x = wr.drewN nq := ⟨_, rfl⟩
        have HD2 : Hid (Below wo.heap.size wo wq) := by show Below _ _ _; rw [hwq]; exact below_then HB.out (below_drewN _ _ _)
        rw [← hwq]
        clear hwq c0 c1 l0 a0 a1 a2 a3
        go_wp2_with fail
        go_roundw
        case rel => exact ⟨j + 1, by omega, by go_num, HD2.out⟩
        case measure => simp [intOf]; omega
      · obtain ⟨dd, hdd⟩ : ∃ dd : Int, dd = (K : Int) + (j : Int) - (n : Int) := ⟨_, rfl⟩
        have hdj : ((dq K n D j : Nat) : Int) = dd := by unfold dq; rw [if_neg hjn]; omega
        rw [hdj] at c0
        have wA : IntKind.i64.wrap ((K : Int) + (j : Int)) = (K : Int) + (j : Int) := wrapI ⟨by omega, by omega⟩
        have wB : IntKind.i64.wrap ((K : Int) + (j : Int) - (n : Int)) = dd := by rw [wrapI ⟨by omega, by omega⟩, hdd]
        have j3 : ¬ (j : Int) < (n : Int) := by omega
        have j4 : (n : Int) ≤ (j : Int) := by omega
        have t2 : decide ((j : Int) < (n : Int)) = false := decide_eq_false j3
        have t3 : decide (j < n) = false := decide_eq_false hjn
        have t4 : decide ((n : Int) ≤ (j : Int)) = true := decide_eq_true j4
        have t5 : decide (n ≤ j) = true := decide_eq_true (by omega)
        have t6 : (dd != dd) = false := by simp
        have HB : Hid (Below wo.heap.size wo wr) := hb.out
        clear hdj hdd hb
        go_wp2_with fail
        go_big_quiet (fail)
        obtain ⟨wq, hwq⟩ : ∃ x, x = wr.drewN nq := ⟨_, rfl⟩
        have HD2 : Hid (Below wo.heap.size wo wq) := by show Below _ _ _; rw [hwq]; exact below_then HB.out (below_drewN _ _ _)
        rw [← hwq]
        clear hwq c0 c1 a0 a1 a2 a3
        go_wp2_with fail
        go_roundw
        case rel => exact ⟨j + 1, by omega, by go_num, HD2.out⟩
        case measure => simp [intOf]; omega
    · have j5 : ¬ (j : Int) < (n : Int) + (R : Int) := by omega
      obtain ⟨wm, rfl⟩ : ∃ x, x = wr := ⟨wr, rfl⟩
      have HBM : Hid (Below wo.heap.size wo wm) := hb.out
      clear hb hj hlt HPR2
      go_wp2_with fail
      clear j5
      go_loopw [19] (fun y wr => ∃ j : Nat, j ≤ n + R + 1 ∧ y = .int .i64 (j : Int) ∧ Hid (Below wo.heap.size wo wr)) (fun y _ => n + R + 1 - (intOf y).toNat)
      case atStart => exact ⟨0, Nat.zero_le _, rfl, HBM.out⟩
      case round =>
        obtain ⟨j, hj, rfl, hb⟩ := hrel
        have HB : Hid (Below wo.heap.size wo wr) := hb.out
        have HPR2 : Hid (Below wp.heap.size wp wr) := below_then HPO.out hb.out
        clear hb
        by_cases hle : j ≤ n + R
        · have j2 : (j : Int) ≤ (n : Int) + (R : Int) := by omega
          go_wp2_with fail
          refine (HBEH.out _ j HPR2.out hle).mono ?_
          rintro e wb ⟨g, gc, A2, C2, rfl, hrw, hbb⟩
          have HRW : Hid (Rw wb (some ⟨g, 0, none⟩) (K + R) A2 (bP Lc os (K + R) L (fun _ => S) j) C2 (bP Lc os (K + R) F G j)) := hrw
          have HBB : Hid (Below wr.heap.size wr wb) := hbb
          obtain ⟨a0, a1, a2, a3⟩ := HPAR.out wb (below_then HBP.out (below_then HPR2.out HBB.out))
          clear hrw hbb
          go_wp2_with fail
          refine ((HN2.out j hle wb g gc A2 C2 HRW.out).1).mono ?_
          rintro e wc ⟨t0, tc, rfl, hbc⟩
          have HBC : Hid (Below wb.heap.size wb wc) := hbc
          clear a0 a1 a2 a3 hbc
          obtain ⟨a0, a1, a2, a3⟩ := HPAR.out wc (below_then HBP.out (below_then HPR2.out (below_then HBB.out HBC.out)))
          go_wp2_with fail
          refine ((HN2.out j hle wc g gc A2 C2 (HRW.out.below HBC.out)).2).mono ?_
          rintro e we ⟨bo, bc, rfl, hbec, hbe⟩
          have HBE : Hid (Below wr.heap.size wr we) := below_then HBB.out (below_then HBC.out hbe)
          have v1 := conv_any hbec
          have v2 := conv_any (HDW.out.bec.below (below_then HB.out HBE.out))
          have t3 := str_ne (lsF W (dat m D O H 0))
          clear a0 a1 a2 a3 hbec hbe
          go_wp2_with fail
          go_roundw
          case rel => exact ⟨j + 1, by omega, by go_num, below_then HB.out HBE.out⟩
          case measure => simp [intOf]; omega
        · have j2 : ¬ (j : Int) ≤ (n : Int) + (R : Int) := by omega
          obtain ⟨wx, rfl⟩ : ∃ x, x = wr := ⟨wr, rfl⟩
          have HDX : Hid (OwU wp.heap.size wx (some ⟨dg, 0, none⟩) W dcap (dat m D O H 0)) := HDW.out.below HB.out
          have hdg : wp.heap.size ≤ dg := (owns_at HDX.out rfl).1
          go_wp2_with fail
          clear j2 hle hj
          go_loopw [25] (fun y wr => ∃ i : Nat, i ≤ n ∧ y = .int .i64 (i : Int) ∧ Hid (OwU wp.heap.size wr (some ⟨dg, 0, none⟩) W dcap (dat m D O H i)) ∧ Hid (Below wp.heap.size wp wr)) (fun y _ => n - (intOf y).toNat)
          case atStart => exact ⟨0, Nat.zero_le _, rfl, HDX.out, HPR2.out⟩
          case round =>
            obtain ⟨i, hi, rfl, hdo, hb⟩ := hrel
            have HDI : Hid (OwU wp.heap.size wr (some ⟨dg, 0, none⟩) W dcap (dat m D O H i)) := hdo.out
            have HB3 : Hid (Below wp.heap.size wp wr) := hb.out
            clear hdo hb
            by_cases hlt : i < n
            · have hll := HLL.out wr (below_then BWP.out HB3.out)
              have hbl := hll.bec i hlt
              obtain ⟨lb, loff, rfl, hlc⟩ := hll.at_ hn0
              obtain ⟨c0, c1⟩ := hlc i hlt
              obtain ⟨hd0, hd1⟩ := gd_ge HGD.out hlt
              obtain ⟨di, hdi⟩ := Int.eq_ofNat_of_zero_le hd0
              rw [hdi] at c0 hd1
              obtain ⟨p, hp⟩ : ∃ p, p = di * m := ⟨_, rfl⟩
              have hp1 : p + m ≤ W := by rw [HWK.out, hp, ← Nat.succ_mul]; exact Nat.mul_le_mul_right m (by omega)
              obtain ⟨x1, x2⟩ := val_mul hp (by omega)
              obtain ⟨a0, a1, a2, a3⟩ := HPAR.out wr (below_then HBP.out HB3.out)
              obtain ⟨w5, hrun5, hz5, ho5⟩ := run_copy_ow2 (w := wr.drew) (off := p) (dl := W - p) (dC := dcap - p) (HDI.out.below (below_drew _ _)) (hbl.below (below_drew _ _)) (by omega) (by omega) (by omega)
              have HZ5 : Hid (OwU wp.heap.size w5 (some ⟨dg, 0, none⟩) W dcap (dat m D O H (i + 1))) := hz5.congr fun b _ => dat_step (by omega) (by rw [hdi, Int.toNat_natCast]; exact hp) b
              have HB5 : Hid (Below wp.heap.size wp w5) := (below_then HB3.out (below_drew _ _)).trans (ho5.below (fun _ e => by rw [e]; exact hdg) HB3.out.size)
              have i4 : (0 : Int) ≤ (i : Int) := by omega
              have i5 : (i : Int) < (n : Int) := by omega
              have i6 : (0 : Int) ≤ (p : Int) := by omega
              have i7 : (p : Int) ≤ (W : Int) := by omega
              have i8 : (W : Int) ≤ (dcap : Int) := by omega
              have i9 : ¬ dcap = p := by omega
              have i10 : (p : Int) ≤ (dcap : Int) := by omega
              clear hlc hd0 hd1 hdi hp hll hbl hz5 ho5 a0 a1 a3
              go_wp2_with fail
              go_region
              clear hrun5 c0 c1 a2
              go_wp2_with fail
              go_roundw
              case rel => exact ⟨i + 1, by omega, by go_num, HZ5.out, HB5.out⟩
              case measure => simp [intOf]; omega
            · obtain rfl : i = n := by omega
              have HBN : Hid (∀ v, Below wp.heap.size wp v → Calls Tryz.prog 11 #[.slice ro (K + R) rc, .slice (some ⟨pg, 0, none⟩) (i + R) pc, .int .i64 ((i : Int) + (R : Int))] v fun e w' => ∃ g c' A2 C2, e = .returned (.slice (some ⟨g, 0, none⟩) (K + R) c') ∧ Rw w' (some ⟨g, 0, none⟩) (K + R) A2 (bP Lc os (K + R) L (fun _ => S) (i + R)) C2 (bP Lc os (K + R) F G (i + R)) ∧ Below v.heap.size v w') := fun v hv => by
                have := HBEH.out v (i + R) hv (Nat.le_refl _)
                rw [Int.natCast_add] at this
                exact this
              obtain ⟨wy, rfl⟩ : ∃ x, x = wr := ⟨wr, rfl⟩
              obtain ⟨a0, a1, a2, a3⟩ := HPAR.out wy (below_then HBP.out HB3.out)
              go_wp2_with fail
              go_region_held3 (fun v => v.cell? ⟨w.heap.size, 0, none⟩ = some (.int .i64 (K : Int)) ∧ v.cell? ⟨w.heap.size, 1, none⟩ = some (.int .i64 (R : Int)) ∧ v.cell? ⟨w.heap.size, 2, none⟩ = some (.int .i64 (m : Int)) ∧ v.cell? ⟨w.heap.size, 3, none⟩ = some (.int .i64 q)) (go_keep)
                ((first
                  | (go_at_call 11; refine (HBN.out _ (below_then HB3.out (below_drew _ _))).mono ?_; rintro e wb ⟨g, gc, A2, C2, rfl, hrw, hbb⟩
                     have HRW : Hid (Rw wb (some ⟨g, 0, none⟩) (K + R) A2 (bP Lc os (K + R) L (fun _ => S) (i + R)) C2 (bP Lc os (K + R) F G (i + R)) ∧ Below wy.heap.size wy wb) := ⟨hrw, below_then (below_drew _ _) hbb⟩
                     have f0 := held (w := wy.drew) a0 hbb; have f1 := held (w := wy.drew) a1 hbb; have f2 := held (w := wy.drew) a2 hbb; have f3 := held (w := wy.drew) a3 hbb)
                  | (go_at_call 8; refine (HF2.out _ g gc A2 C2 HRW.out.1).mono ?_; rintro e wc ⟨bo, bc, rfl, hbec, hcb⟩
                     have u0 := held f0 hcb; have u1 := held f1 hcb; have u2 := held f2 hcb; have u3 := held f3 hcb)))
              have HYC : Hid (Below wy.heap.size wy wc) := below_then HRW.out.2 hcb
              have v1 := conv_any hbec
              have v2 := conv_any (HDI.out.bec.below HYC.out)
              have t3 : ((sOf (lsF W (dat m D O H i))).toList == (sOf (lsF W (dat m D O H i))).toList) = true := by simp
              clear hbec hcb f0 f1 f2 f3 u0 u1 u2 u3 a0 a1 a2 a3
              go_wp2_with fail
              go_ret
              exact ⟨rfl, below_then BWP.out (below_then HB3.out HYC.out)⟩
end Go.Proofs.YtfhefbbhlmdjkaaGreat
/- UpdateKept, for whatever comes in. -/
namespace Go.Proofs.YtfhefbbhlmdjkaaGreat
open Go.RowKit

set_option maxHeartbeats 4000000 in
set_option maxRecDepth 100000 in
theorem kp_bad {k r c q : Int} (w : World) (ro : Option Addr) (rn rc : Nat) (fr tv : Int) (lo : Option Addr) (n lc : Nat) (hn : ¬ 40 < n)
    (HP : Hid (∀ u, Below w.heap.size w u → Calls Tryz.prog 7 #[.agg #[.int .i64 k, .int .i64 r, .int .i64 c, .int .i64 q], .slice ro rn rc, .int .i64 0, .int .i64 fr, .int .i64 tv, .slice lo n lc] u fun e w' => ∃ E, E ≠ 0 ∧ e = .returned (.tuple #[.slice none 0 0, .int .i64 E]) ∧ Below u.heap.size u w'))
    (HR : Hid (∀ u, Below w.heap.size w u → Calls Tryz.prog 8 #[.agg #[.int .i64 k, .int .i64 r, .int .i64 c, .int .i64 q], .slice ro rn rc, .int .u8 1, .int .i64 fr] u fun e w' => ∃ ao l cap E, e = .returned (.tuple #[.slice ao l cap, .int .i64 E]) ∧ Below u.heap.size u w')) :
    Calls Tryz.prog 3 #[.agg #[.int .i64 k, .int .i64 r, .int .i64 c, .int .i64 q], .slice ro rn rc, .int .i64 fr, .int .i64 tv, .slice lo n lc] w fun e w' => e = .returned (.bool true) ∧ Below w.heap.size w w' := by
  obtain ⟨w0, hw0⟩ : ∃ w0, w0 = w.alloc (.cells #[.int .i64 k, .int .i64 r, .int .i64 c, .int .i64 q] 23) := ⟨_, rfl⟩
  have B0 : Hid (Below w.heap.size w w0) := by show Below _ _ _; rw [hw0]; exact below_alloc _ _
  have HPAR : Hid (∀ v, Below w0.heap.size w0 v → v.cell? ⟨w.heap.size, 0, none⟩ = some (.int .i64 k) ∧ v.cell? ⟨w.heap.size, 1, none⟩ = some (.int .i64 r) ∧ v.cell? ⟨w.heap.size, 2, none⟩ = some (.int .i64 c) ∧ v.cell? ⟨w.heap.size, 3, none⟩ = some (.int .i64 q)) := fun v hv => par_held hw0 hv
  have HLO : Hid (∀ v, Calls Tryz.prog 6 #[.slice lo n lc] v fun e w' => e = .returned (.bool false) ∧ w' = v) := fun v => long_any v lo n lc false (decide_eq_false hn)
  go_enter Tryz.func3, Tryz.ntmps3
  go_wp2_with fail
  rw [← hw0]
  clear hw0
  refine (awake_any _).mono ?_
  rintro e wa ⟨rfl, ha⟩
  obtain ⟨a0, a1, a2, a3⟩ := HPAR.out wa ha
  go_wp2_with fail
  refine (HLO.out _).mono ?_
  rintro e wl ⟨rfl, rfl⟩
  go_wp2_with fail
  refine (HP.out _ (below_then B0.out ha)).mono ?_
  rintro e wp ⟨E, he, rfl, hp⟩
  have HBP : Hid (Below w0.heap.size w0 wp) := below_then ha hp
  have e1 : (E != 0) = true := by simp [he]
  have e2 : (E == 0) = false := by simp [he]
  clear a0 a1 a2 a3 ha hp he
  obtain ⟨a0, a1, a2, a3⟩ := HPAR.out wp HBP.out
  go_wp2_with fail
  refine (HR.out _ (below_then B0.out HBP.out)).mono ?_
  rintro e wd ⟨ao, l, cap, E2, rfl, hd⟩
  go_wp2_with fail
  go_ret
  exact ⟨rfl, below_then (below_then B0.out HBP.out) hd⟩
set_option maxHeartbeats 4000000 in
set_option maxRecDepth 100000 in
theorem kp_long {k r c q : Int} (w : World) (ro : Option Addr) (rn rc : Nat) (fr tv : Int) (lo : Option Addr) (n lc : Nat) (hn : 40 < n) :
    Calls Tryz.prog 3 #[.agg #[.int .i64 k, .int .i64 r, .int .i64 c, .int .i64 q], .slice ro rn rc, .int .i64 fr, .int .i64 tv, .slice lo n lc] w fun e w' => e = .returned (.bool true) ∧ Below w.heap.size w w' := by
  obtain ⟨w0, hw0⟩ : ∃ w0, w0 = w.alloc (.cells #[.int .i64 k, .int .i64 r, .int .i64 c, .int .i64 q] 23) := ⟨_, rfl⟩
  have B0 : Hid (Below w.heap.size w w0) := by show Below _ _ _; rw [hw0]; exact below_alloc _ _
  have HLO := fun v => long_any v lo n lc true (decide_eq_true hn)
  go_enter Tryz.func3, Tryz.ntmps3
  go_wp2_with fail
  rw [← hw0]
  clear hw0
  refine (awake_any _).mono ?_
  rintro e wa ⟨rfl, ha⟩
  go_wp2_with fail
  refine (HLO _).mono ?_
  rintro e wl ⟨rfl, rfl⟩
  go_wp2_with fail
  go_ret
  exact ⟨rfl, below_then B0.out ha⟩
theorem dat_zero {K N m : Nat} {z : Nat → Sl} {D : Nat → Int} {H : Nat → Nat → UInt8} (hm : 0 < m) (b : Nat) (hb : b < K * m) : cat2 m (cH K z N) b = dat m D (cD K z N) H 0 b := by
  have hi : b / m < K := Nat.div_lt_of_lt_mul (by rw [Nat.mul_comm]; exact hb)
  have := Nat.mod_lt b hm
  unfold cat2 cH dat nd
  rw [Cod.enc_data _ hi]
theorem kp_law {k r c q : Int} {N W : Nat} {x : Int} (h : Par k r c q N W x) (w : World) (ro : Option Addr) (rn rc : Nat) (A : Nat → Option Addr) (L C : Nat → Nat) (F : Nat → Nat → UInt8) (hr : Rw w ro rn A L C F) (fr tv : Int) (lo : Option Addr) (n lc : Nat) (D : Nat → Int) (AA : Nat → Option Addr) (LL CC : Nat → Nat) (H : Nat → Nat → UInt8) (hl : Chl w lo n lc D AA LL CC H) :
    Calls Tryz.prog 3 #[.agg #[.int .i64 k, .int .i64 r, .int .i64 c, .int .i64 q], .slice ro rn rc, .int .i64 fr, .int .i64 tv, .slice lo n lc] w fun e w' => e = .returned (.bool true) ∧ Below w.heap.size w w' := by
  by_cases hn : 40 < n
  · exact kp_long w ro rn rc fr tv lo n lc hn
  have HRG : Hid (∀ u, Below w.heap.size w u → Calls Tryz.prog 8 #[.agg #[.int .i64 k, .int .i64 r, .int .i64 c, .int .i64 q], .slice ro rn rc, .int .u8 1, .int .i64 fr] u fun e w' => ∃ ao l cap E, e = .returned (.tuple #[.slice ao l cap, .int .i64 E]) ∧ Below u.heap.size u w') := fun u hu => by
    refine (Read_any h u ro rn rc A L C F (hr.below hu) 1 fr _ rfl).mono ?_
    rintro e w' ⟨ao, cap, rfl, _, hb⟩
    exact ⟨ao, _, cap, _, rfl, hb⟩
  by_cases he : ¬ erK x N c rn L 1 fr = 0
  · exact kp_bad w ro rn rc fr tv lo n lc hn (fun u hu => (plan_no h u ro rn rc A L C F (hr.below hu) 0 fr tv lo n lc _ rfl he).mono fun e w' ⟨h1, h2⟩ => ⟨_, he, h1, h2⟩) HRG
  have he := Classical.not_not.1 he
  obtain ⟨hR0, _, hfr⟩ := erK_zero he
  obtain ⟨rfl, rfl, hL⟩ := erR_zero hR0
  clear he hR0
  have hp : ∃ K R m : Nat, k = (K : Int) ∧ r = (R : Int) ∧ c = (m : Int) ∧ (1 ≤ K ∧ K ≤ 12 ∧ R ≤ 4 ∧ 8 ≤ m ∧ m ≤ 64) ∧ rn = K + R := by
    rcases h with ⟨h1, _, h0, _⟩ | ⟨_, _, _, h0⟩
    · obtain ⟨h1, h2, h3, h4, h5, h6, h7, h8, h9⟩ := may_true h1
      exact ⟨k.toNat, r.toNat, c.toNat, by omega, by omega, by omega, by omega, by omega⟩
    · exact absurd h0 (by decide)
  obtain ⟨K, R, m, rfl, rfl, rfl, ⟨hK, hK2, hR, hm, hm2⟩, rfl⟩ := hp
  obtain ⟨t, ht⟩ : ∃ t, tS (yy (K + R) (m : Int) L F) 1 fr (2 * (K + R)) = t := ⟨_, rfl⟩
  obtain ⟨z, hz⟩ : ∃ z, zv (K + R) (m : Int) L F 1 fr = z := ⟨_, rfl⟩
  have HP := fun v (hv : Below w.heap.size w v) => plan_yes h v ro rc A L C F (hr.below hv) hL 0 fr tv hfr lo n lc D AA LL CC H (hl.below hv) (by omega) t ht z hz
  by_cases good : fr < tv ∧ tv ≤ 1073741824 ∧ 0 < n ∧ gdB D (K : Int) n ∧ (∀ i, i < n → LL i = m) ∧ erL K z (K + R) = 0 ∧ t.ce ≠ 0
  · obtain ⟨i1, i2, i3, i4, i5, i6, i8⟩ := good
    have hnK := gd_len i4
    have hri := dq_ris (R := R) i4
    obtain ⟨htc, hvn, hVr⟩ := told_of ht (by rw [hz]; exact i6) hK
    have hren : Ren (K + R) t.V (n + R) (Cod.cat n D (fun i => ((K + i : Nat) : Int))) (dq K n D) tv := ⟨fun i hi => by have := hVr i hi; omega, i2, fun j hj => ⟨dq_D i4 j, hri.lt j hj⟩, by omega, by omega⟩
    have hzi : ∀ i, z i = zz (yy (K + R) (m : Int) L F) 1 t i := fun i => by rw [← hz]; unfold zv; rw [ht]
    have hos : ∀ i, ol (K + R) (m : Int) L F t.V i < 2 := fun i => oN_lt _ _ _ _
    have eK : erK 0 (K + R) (m : Int) (K + R) L 1 fr = 0 := erK_ok hL (.inl rfl) hfr
    refine kp_good (S := sz (K + R) (m : Int)) w ro rc A L C F hr fr tv lo lc D AA CC H (chl_len hl i5) i4 i3 hK hK2 hR hm hm2 (cD K z (K + R)) (ol (K + R) (m : Int) L F t.V) hos (fun i => enc (slC 1 (K + R) (bmp (Cod.cat n D (fun i => ((K + i : Nat) : Int))) tv t.V (n + R)) m (pH K (K + R) n z D H (Cod.cnt (Lw (dq K n D) (n + R)) i)) i)) (ct z (K + R)) (abB (K + R) (m : Int) L F tv = true ∧ ∀ i, i < K + R → ¬ twB (K + R) (m : Int) L F 1 i) (fun u hu => ?_) (fun u hu => ?_) (fun u hu => ?_) (fun u hu => ?_) (fun hfit l hle u g cp A' C' hrw => ?_) (fun hfit u g cp A' C' hrw => ?_)
    · refine (HP u hu).mono fun e w' h' => ?_
      rcases h' with hx | ⟨_, _, _, _, _, _, _, _, po, pc, T, U, e1, hpl, hb⟩
      · exact .inl hx
      · exact .inr ⟨po, pc, T, U, e1, hpl, hb⟩
    · refine (Read_any h u ro (K + R) rc A L C F (hr.below hu) 1 fr 0 (by unfold erV2; rw [eK, if_pos rfl, Int.toNat_natCast, hz]; exact i6)).mono ?_
      rintro e w' ⟨ao, cap, rfl, hown, hb⟩
      rw [Int.toNat_natCast, Int.toNat_natCast, hz] at hown
      rw [Int.toNat_natCast, Int.toNat_natCast]
      exact ⟨ao, cap, rfl, hown.congr fun b hb => dat_zero (by omega) b hb, hb⟩
    · exact fit_any h u ro rc A L C F (hr.below hu) hL tv
    · refine (Present_any h u ro (K + R) rc A L C F (hr.below hu) 1 fr 0 eK).mono ?_
      rintro e w' ⟨ao, cap, rfl, _, hb⟩
      rw [hz]
      exact ⟨ao, cap, rfl, hb⟩
    · have hchg := chg_row (m := m) (L := L) (F := F) (M := fun i => pH K (K + R) n z D H (Cod.cnt (Lw (dq K n D) (n + R)) i)) (fr := fr) (by omega) hren hri i8 i1 l hle
      obtain ⟨k1, k2⟩ := kept (.inl rfl) (yy_ok (K + R) (m : Int) L F) (once_of (.inl rfl) hfit.2) ht hchg
      have hL' := row_n (n := K + R) (os := ol (K + R) (m : Int) L F t.V) (Lw (dq K n D) (n + R)) hL l
      obtain ⟨L2, hL2⟩ : ∃ L2, bP (Lw (dq K n D) (n + R)) (ol (K + R) (m : Int) L F t.V) (K + R) L (fun _ => sz (K + R) (m : Int)) l = L2 := ⟨_, rfl⟩
      obtain ⟨F2, hF2⟩ : ∃ F2, bP (Lw (dq K n D) (n + R)) (ol (K + R) (m : Int) L F t.V) (K + R) F (fun i => enc (slC 1 (K + R) (bmp (Cod.cat n D (fun i => ((K + i : Nat) : Int))) tv t.V (n + R)) m (pH K (K + R) n z D H (Cod.cnt (Lw (dq K n D) (n + R)) i)) i)) l = F2 := ⟨_, rfl⟩
      rw [hL2, hF2] at hrw k1 k2
      rw [hL2] at hL'
      have hzz : ∀ i, i < K + R → zv (K + R) (m : Int) L2 F2 1 fr i = z i := fun i hi => by
        rw [hzi]; unfold zv; rw [k1]; exact k2 i hi
      obtain ⟨r1, r2, r3⟩ := rd_congr (K := K) hzz
      refine ⟨?_, ?_⟩
      · refine (Present_any h u _ (K + R) cp A' _ C' _ hrw 1 fr 0 (erK_ok hL' (.inl rfl) hfr)).mono ?_
        rintro e w' ⟨ao, cap, rfl, _, hb⟩
        rw [r3]
        exact ⟨ao, cap, rfl, hb⟩
      · refine (Read_any h u _ (K + R) cp A' _ C' _ hrw 1 fr 0 (by unfold erV2; rw [erK_ok hL' (.inl rfl) hfr, if_pos rfl, Int.toNat_natCast, r1]; exact i6)).mono ?_
        rintro e w' ⟨ao, cap, rfl, hown, hb⟩
        rw [Int.toNat_natCast, Int.toNat_natCast] at hown
        rw [Int.toNat_natCast, Int.toNat_natCast]
        refine ⟨ao, cap, rfl, hown.bec.congr fun b hb => ?_, hb⟩
        rw [← dat_zero (by omega) b hb]
        unfold cat2
        exact r2 i6 _ _
    · have hst : ∀ j, j < 2 * (K + R) → (yy (K + R) (m : Int) L F j).st < tv := fun j hj => above_st hfit.1 (by omega) hj
      have hupd := upd_row (M := pH K (K + R) n z D H) (m := m) (L := L) (F := F) (by omega) hren hri hos hst
      have hL' := row_n (n := K + R) (os := ol (K + R) (m : Int) L F t.V) (Lw (dq K n D) (n + R)) hL (n + R)
      obtain ⟨L2, hL2⟩ : ∃ L2, bP (Lw (dq K n D) (n + R)) (ol (K + R) (m : Int) L F t.V) (K + R) L (fun _ => sz (K + R) (m : Int)) (n + R) = L2 := ⟨_, rfl⟩
      obtain ⟨F2, hF2⟩ : ∃ F2, bP (Lw (dq K n D) (n + R)) (ol (K + R) (m : Int) L F t.V) (K + R) F (fun i => enc (slC 1 (K + R) (bmp (Cod.cat n D (fun i => ((K + i : Nat) : Int))) tv t.V (n + R)) m (pH K (K + R) n z D H (Cod.cnt (Lw (dq K n D) (n + R)) i)) i)) (n + R) = F2 := ⟨_, rfl⟩
      rw [hL2, hF2] at hrw hupd
      rw [hL2] at hL'
      have hE' : erL K (zv (K + R) (m : Int) L2 F2 1 tv) (K + R) = 0 := upd_read (K := K) (by omega) (by omega) (yy_ok (K + R) (m : Int) L2 F2) htc hupd (by
        have e : (fun i => zz (yy (K + R) (m : Int) L F) 1 t i) = z := funext fun i => (hzi i).symm
        rw [e]; exact i6)
      have hu := upd (by omega) (yy_ok (K + R) (m : Int) L2 F2) htc hupd
      have hrd := read_new (z := z) (z' := zv (K + R) (m : Int) L2 F2 1 tv) (tv := tv) (F := H) hK hK2 hR rfl (show 0 < m by omega) i4 i6 hE' (fun i hi => ⟨fun e => (hu i hi).1 e, fun e => ((hu i hi).2 e).trans (hzi i).symm⟩)
      refine (Read_any h u _ (K + R) cp A' _ C' _ hrw 1 tv 0 (by unfold erV2; rw [erK_ok hL' (.inl rfl) ⟨by omega, i2⟩, if_pos rfl, Int.toNat_natCast]; exact hE')).mono ?_
      rintro e w' ⟨ao, cap, rfl, hown, hb⟩
      rw [Int.toNat_natCast, Int.toNat_natCast] at hown
      rw [Int.toNat_natCast, Int.toNat_natCast]
      exact ⟨ao, cap, rfl, hown.bec.congr fun b hb => hrd b hb, hb⟩
  · refine kp_bad w ro (K + R) rc fr tv lo n lc hn (fun u hu => (HP u hu).mono fun e w' h' => ?_) HRG
    rcases h' with ⟨E, h1, h2, h3⟩ | ⟨i1, i2, i3, i4, i5, i6, _, i8, _⟩
    · exact ⟨E, h1, h2, h3⟩
    · exact absurd ⟨i1, i2, i3, i4, i5, i6, i8⟩ good
end Go.Proofs.YtfhefbbhlmdjkaaGreat
