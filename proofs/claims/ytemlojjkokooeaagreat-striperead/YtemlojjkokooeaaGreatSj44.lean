import Derived.Test.YtemlojjkokooeaaGreatSj31
import Derived.Test.YtemlojjkokooeaaGreatSj36
import Derived.Test.YtemlojjkokooeaaGreatSj41
import Derived.Test.YtemlojjkokooeaaGreatSj43
set_option maxHeartbeats 4000000
set_option maxRecDepth 100000
namespace Go.Proofs.YtemlojjkokooeaaGreat
open Go.RowKit
theorem rdec_ans {k r c q : Int} {N W : Nat} (h : Par k r c q N W 0) (z : Nat -> Sl) (hz : Zok N c z) (w : World) (lo : Option Addr) (cl : Nat) (T : Nat -> Option Addr) (U : Nat -> Nat) (hl : Cod.Lst w lo N T U (Lz z) (Hz z)) :
  Calls Tryz.prog 140 #[.int .i64 k, .int .i64 r, .slice lo N cl] w (AnsC w (erL k.toNat z N) N c.toNat (cH k.toNat z N)) := by
 have HD := Cod.rDecode_any w k r lo N cl T U (Lz z) (Hz z) hl
 obtain ⟨hc1, hc2⟩ := h.cell rfl
 rcases h with ⟨hm, _, hN, _⟩ | ⟨_, _, _, h0⟩
 ·obtain ⟨h1, h2, h3, h4, h5, h6, h7, h8, h9⟩ := may_true hm
  have hL : ∀ i, i < N -> Lz z i = 0 \/ Lz z i = c.toNat := fun i hi => by
   rcases hz.dn i hi with ⟨_, a⟩ | ⟨_, a⟩
   ·exact .inl a
   ·exact .inr a
  obtain ⟨g1, g2⟩ := Cod.okT_of (show c.toNat ≠ 0 by omega) (by omega) hL
  have e1 : Cod.mayB k r = true := decide_eq_true (by omega)
  have e2 : Cod.okC N (Lz z) (k + r) = true := by unfold Cod.okC; rw [g1]; simp; omega
  have e3 : k.toNat + r.toNat = N := by omega
  rw [e1, e2, e3] at HD
  unfold AnsC erL
  by_cases hk : k.toNat <= Cod.cnt (Lz z) N
  ·have e4 : Cod.okDec N (Lz z) k r = true := by unfold Cod.okDec; rw [e1, e2]; simp; omega
   have e5 : Cod.len0 (Lz z) N = c.toNat := by
    rcases Cod.len0_sel (Lz z) N with ⟨e, _⟩ | ⟨_, _, e⟩
    ·omega
    ·exact g2.resolve_left e
   rw [e4, e5] at HD
   rw [if_pos hk]
   refine HD.mono ?_
   rintro e w' ⟨ao, cap, T', U', rfl, hcop, hb⟩
   exact ⟨ao, cap, T', U', rfl, cls_of hcop, hb⟩
  ·have e4 : Cod.okDec N (Lz z) k r = false := by unfold Cod.okDec; rw [decide_eq_false (by omega)]; simp
   rw [e4] at HD
   rw [if_neg hk]
   refine HD.mono ?_
   rintro e w' ⟨ao, cap, T', U', rfl, hcop, hb⟩
   have hn : ao = none /\ cap = 0 \/ True := .inr trivial
   refine ⟨ao, cap, T', U', rfl, ⟨hcop.out, fun i hi => absurd hi (by show ¬ i < 0; omega), fun i _ _ _ hi => absurd hi (by show ¬ i < 0; omega)⟩, hb⟩
 ·exact absurd h0 (by decide)
theorem RWhole_any {k r c q : Int} {N W : Nat} (h : Par k r c q N W 0) (w : World) (ro : Option Addr) (rc : Nat) (A : Nat -> Option Addr) (L C : Nat -> Nat) (F : Nat -> Nat -> UInt8) (hr : Rw w ro N A L C F) (hL : ∀ j, j < 2 * N -> L j = 0 \/ L j = sz N c) (kd : UInt8) (hk : kd = 1 \/ kd = 2) (v : Int) :
  Calls Tryz.prog 75 #[.agg #[.int .i64 k, .int .i64 r, .int .i64 c, .int .i64 q], .slice ro N rc, .int .u8 ((kd.toNat : Nat) : Int), .int .i64 v] w (AnsC w (erL k.toNat (zv N c L F kd v) N) N c.toNat (cH k.toNat (zv N c L F kd v) N)) := by
 obtain ⟨hc1, hc2⟩ := h.cell rfl
 have hk1 : 1 <= k := by
  rcases h with ⟨hm, _⟩ | ⟨_, _, _, e⟩
  ·obtain ⟨h1, _⟩ := may_true hm; omega
  ·exact absurd e (by decide)
 obtain ⟨z, hz⟩ : ∃ z, z = zv N c L F kd v := ⟨_, rfl⟩
 have hok : Zok N c z := by rw [hz]; exact zok_of
 have HT : Hid (∀ u, Below w.heap.size w u -> Calls Tryz.prog 73 #[.agg #[.int .i64 k, .int .i64 r, .int .i64 c, .int .i64 q], .slice ro N rc, .int .u8 ((kd.toNat : Nat) : Int), .int .i64 v] u fun e w' => ∃ T U, e = .returned (.tuple #[.slice (some ⟨u.heap.size + 1, 0, none⟩) N N, .int .i64 ((ct z N : Nat) : Int)]) /\ Cod.Lst w' (some ⟨u.heap.size + 1, 0, none⟩) N T U (Lz z) (Hz z) /\ Below u.heap.size u w') := fun u hu => by
  refine (There_any h u ro rc A L C F (hr.below hu) hL kd hk v).mono ?_
  rintro e w' ⟨T, U, rfl, h1, h2, hb⟩
  rw [<- hz] at h1 h2 ⊢
  exact ⟨T, U, rfl, Cod.owns_lst h1 (fun i hi => rd_toK (h2 i hi).bec.rd), hb⟩
 have HD : Hid (∀ u lo cl T U, Cod.Lst u lo N T U (Lz z) (Hz z) -> Calls Tryz.prog 140 #[.int .i64 k, .int .i64 r, .slice lo N cl] u (AnsC u (erL k.toNat z N) N c.toNat (cH k.toNat z N))) := fun u lo cl T U hl => rdec_ans h z hok u lo cl T U hl
 have hE : erL k.toNat z N = if ((ct z N : Nat) : Int) < k then 5 else 0 := by
  unfold erL; rw [(cnt_ct hok hc1).1]
  by_cases a : k.toNat <= ct z N
  ·rw [if_pos a, if_neg (by omega)]
  ·rw [if_neg a, if_pos (by omega)]
 obtain ⟨w0, hw0⟩ : ∃ w0, w0 = w.alloc (.cells #[.int .i64 k, .int .i64 r, .int .i64 c, .int .i64 q] 23) := ⟨_, rfl⟩
 have B0 : Hid (Below w.heap.size w w0) := by show Below _ _ _; rw [hw0]; exact below_alloc _ _
 have L0 : Hid (∀ v, Below w0.heap.size w0 v -> At w v w.heap.size #[.int .i64 k, .int .i64 r, .int .i64 c, .int .i64 q] 23) := fun v hv => (at_made (Below.refl _ _) hw0).below hv
 rw [<- hz]
 clear h hr hL hk hz hok
 unfold AnsC at HD ⊢
 generalize cH k.toNat z N = H at *
 generalize ct z N = m at *
 generalize erL k.toNat z N = E at *
 go_enter Tryz.func75, Tryz.ntmps75
 go_wp2_with fail
 rw [<- hw0]
 clear hw0
 refine (HT.out _ B0.out).mono ?_
 rintro e wt ⟨T, U, rfl, hl, hb⟩
 have p := L0.out wt hb
 have p0 := p.cell (i := 0) rfl
 have p1 := p.cell (i := 1) rfl
 have HBT : Hid (Below w.heap.size w wt) := below_then B0.out hb
 have HLL : Hid (Cod.Lst wt (some ⟨w0.heap.size + 1, 0, none⟩) N T U (Lz z) (Hz z)) := hl
 clear p hl hb
 by_cases hlt : (m : Int) < k
 ·rw [if_pos hlt] at hE
  subst hE
  go_wp2_with fail
  go_ret2
  exact ⟨none, 0, fun _ => none, fun _ => 0, rfl, cls_nil _ _ _ _ _ _, HBT.out⟩
 ·rw [if_neg hlt] at hE
  subst hE
  have hD := HD.out wt _ N T U HLL.out
  clear HD
  go_wp2_with fail
  refine hD.mono ?_
  rintro e wd ⟨ao', cap', T', U', rfl, hc', hb'⟩
  go_wp2_with fail
  go_ret2
  exact ⟨ao', cap', T', U', rfl, hc'.mono HBT.out.size, below_then HBT.out hb'⟩
end Go.Proofs.YtemlojjkokooeaaGreat
namespace Go.Proofs.YtemlojjkokooeaaGreat
open Go.RowKit
theorem RData_any {k r c q : Int} {N W : Nat} (h : Par k r c q N W 0) (w : World) (ro : Option Addr) (rc : Nat) (A : Nat -> Option Addr) (L C : Nat -> Nat) (F : Nat -> Nat -> UInt8) (hr : Rw w ro N A L C F) (hL : ∀ j, j < 2 * N -> L j = 0 \/ L j = sz N c) (kd : UInt8) (hk : kd = 1 \/ kd = 2) (v : Int) :
  Calls Tryz.prog 77 #[.agg #[.int .i64 k, .int .i64 r, .int .i64 c, .int .i64 q], .slice ro N rc, .int .u8 ((kd.toNat : Nat) : Int), .int .i64 v] w (AnsB w (erL k.toNat (zv N c L F kd v) N) (k.toNat * c.toNat) (cat2 c.toNat (cH k.toNat (zv N c L F kd v) N))) := by
 have HC : Hid (∀ u, Below w.heap.size w u -> Calls Tryz.prog 75 #[.agg #[.int .i64 k, .int .i64 r, .int .i64 c, .int .i64 q], .slice ro N rc, .int .u8 ((kd.toNat : Nat) : Int), .int .i64 v] u (AnsC u (erL k.toNat (zv N c L F kd v) N) N c.toNat (cH k.toNat (zv N c L F kd v) N))) := fun u hu => RWhole_any h u ro rc A L C F (hr.below hu) hL kd hk v
 have hx : 1 <= k /\ k <= N /\ N <= 16 /\ 8 <= c /\ c <= 64 := by
  have hle := h.le
  obtain ⟨c1, c2⟩ := h.cell rfl
  rcases h with ⟨hm, _, hN, _⟩ | ⟨_, _, _, h0⟩
  ·obtain ⟨h1, h2, h3, h4, h5, h6, h7, h8, h9⟩ := may_true hm
   omega
  ·exact absurd h0 (by decide)
 obtain ⟨w0, hw0⟩ : ∃ w0, w0 = w.alloc (.cells #[.int .i64 k, .int .i64 r, .int .i64 c, .int .i64 q] 23) := ⟨_, rfl⟩
 have B0 : Hid (Below w.heap.size w w0) := by show Below _ _ _; rw [hw0]; exact below_alloc _ _
 have L0 : Hid (∀ v, Below w0.heap.size w0 v -> At w v w.heap.size #[.int .i64 k, .int .i64 r, .int .i64 c, .int .i64 q] 23) := fun v hv => (at_made (Below.refl _ _) hw0).below hv
 generalize cH k.toNat (zv N c L F kd v) N = H at *
 generalize erL k.toNat (zv N c L F kd v) N = E at *
 clear h hr hL hk
 unfold AnsC at HC
 unfold AnsB
 obtain ⟨k1, k2, k3, c1, c2⟩ := hx
 obtain ⟨K, rfl⟩ := Int.eq_ofNat_of_zero_le (show 0 <= k by omega)
 rw [Int.toNat_natCast]
 obtain ⟨m, hm⟩ : ∃ m, m = c.toNat := ⟨_, rfl⟩
 rw [<- hm] at HC ⊢
 have m1 : 0 < m := by omega
 have m2 : m <= 64 := by omega
 clear hm
 by_cases he : E = 0
 ·subst he
  have e0 : lenE 0 N = N := if_pos rfl
  rw [e0] at HC
  rw [show lenE 0 (K * m) = K * m from if_pos rfl]
  clear e0
  have HMU : Hid (∀ i, i <= K -> i * m <= 1024) := fun i hi => mul_le16 hi (by omega) m2
  have HCS : Hid (∀ i, byF (i * m + m) (cat2 m H) = byF (i * m) (cat2 m H) ++ byF m (H i)) := cat2_succ m m1 H
  go_enter Tryz.func77, Tryz.ntmps77
  go_wp2_with fail
  rw [<- hw0]
  clear hw0
  refine (HC.out _ B0.out).mono ?_
  rintro e wa ⟨lo, cap, T, U, rfl, hc, ha⟩
  have HL : Hid (RdC wa lo K T (fun _ => m) U) := hc.rdc (by omega)
  have HB : Hid (∀ i, i < K -> Bec wa (T i) m (U i) (H i)) := fun i hi => (hc.row i (by omega)).bec
  have HBA : Hid (Below w.heap.size w wa) := below_then B0.out ha
  have LA : Hid (∀ v, Below wa.heap.size wa v -> At w v w.heap.size #[.int .i64 (K : Int), .int .i64 r, .int .i64 c, .int .i64 q] 23) := fun v hv => L0.out v (below_then ha hv)
  clear hc ha
  go_wp2_with fail
  go_loopw [12, 13] (fun v x wr => ∃ j : Nat, j <= K /\ x = .int .i64 (j : Int) /\ ∃ s ao c, v = .slice ao s c /\ Hid (s = j * m) /\ Hid (wr.ownsRow wa.heap.size 5 1 (.slice ao s c) s (byF (j * m) (cat2 m H))) /\ Hid (Below wa.heap.size wa wr)) (fun _ x _ => K - (intOf x).toNat)
  case atStart => exact ⟨0, Nat.zero_le _, rfl, 0, none, 0, rfl, by show _ = _; rw [Nat.zero_mul], by rw [Nat.zero_mul]; exact World.ownsRow_nil _ _ _ _, Below.refl _ _⟩
  case round =>
   obtain ⟨j, hj, rfl, s, ao, c', rfl, hs, hown, hbel⟩ := hrel
   have p0 := (LA.out wr hbel.out).cell (i := 0) rfl
   by_cases hlt2 : j < K
   ·obtain ⟨b, off, rfl, hcc⟩ := HL.out (by omega)
    have d0 : wr.cell? ⟨b, off + j, none⟩ = some (.slice (T j) m (U j)) := held (hcc j hlt2) hbel.out
    have HBE : Hid (Bec wr (T j) m (U j) (H j)) := (HB.out j hlt2).below hbel.out
    have hws := hbel.out.size
    have hsm : s <= 1024 := by rw [hs.out]; exact HMU.out j hj
    obtain ⟨XS, hXS⟩ : ∃ X, X = byF (j * m) (cat2 m H) := ⟨_, rfl⟩
    have HO : Hid (wr.ownsRow wa.heap.size 5 1 (.slice ao s c') s XS) := by rw [hXS]; exact hown.out
    have HXS : Hid (XS ++ byF m (H j) = byF ((j + 1) * m) (cat2 m H)) := by show _ = _; rw [hXS, Nat.succ_mul, HCS.out]
    have i1 : (0 : Int) <= (j : Int) := by omega
    have i2 : (j : Int) < (K : Int) := by omega
    have i3 : (j : Int) < (N : Int) := by omega
    clear hXS hown hcc
    go_wp2_with (at_builtin; refine wpList_append_bytes (by rfl) (.tmp 31) (.tmp 35) (by rfl) wa.heap.size s m c' (U j) ao (T j) XS (H j) (by rfl) (by rfl) HO.out HBE.out (by omega) (by omega) (by omega) ?_; intro ao' c'' w' hown' hgrow')
    have HO2 : Hid (w'.ownsRow wa.heap.size 5 1 (.slice ao' (s + m) c'') (s + m) (byF ((j + 1) * m) (cat2 m H))) := by rw [<- HXS.out]; exact hown'
    have HB2 : Hid (Below wa.heap.size wa w') := hbel.out.grown hgrow' hws (fun r hr => (HO.out.lt r hr).1)
    clear hown' hgrow'
    go_roundw
    case rel => exact ⟨j + 1, by omega, by go_num, s + m, ao', c'', rfl, by show _ = _; rw [hs.out, Nat.succ_mul], HO2.out, HB2.out⟩
    case measure => simp [intOf]; omega
   ·obtain rfl : j = K := by omega
    have HF : Hid (OwU w.heap.size wr ao s c' (cat2 m H)) := by
     have := hown.out
     rw [<- hs.out] at this
     exact OwU.mono this HBA.out.size
    have HS2 : Hid (s = j * m) := hs.out
    have HBF : Hid (Below w.heap.size w wr) := below_then HBA.out hbel.out
    clear hown hs hbel
    go_wp2_with fail
    go_ret2
    rw [<- HS2.out]
    exact ⟨ao, c', rfl, HF.out, HBF.out⟩
 ·have e1 : (E != 0) = true := by simp [he]
  rw [show lenE E (K * m) = 0 from if_neg he]
  rw [show lenE E N = 0 from if_neg he] at HC
  go_enter Tryz.func77, Tryz.ntmps77
  go_wp2_with fail
  rw [<- hw0]
  clear hw0
  refine (HC.out _ B0.out).mono ?_
  rintro e wa ⟨ao, cap, T, U, rfl, hc, ha⟩
  go_wp2_with fail
  go_ret2
  exact ⟨none, 0, rfl, owu_nil _ _ _, below_then B0.out ha⟩
end Go.Proofs.YtemlojjkokooeaaGreat
namespace Go.Proofs.YtemlojjkokooeaaGreat
open Go.RowKit
theorem RAsked_any {k r c q : Int} {N W : Nat} {x : Int} (h : Par k r c q N W x) (w : World) (ro : Option Addr) (rn rc : Nat) (A : Nat -> Option Addr) (L C : Nat -> Nat) (F : Nat -> Nat -> UInt8) (hr : Rw w ro rn A L C F) (kd : UInt8) (v : Int) (E : Int) (hE : erK x N c rn L kd v = E) :
  Calls Tryz.prog 69 #[.agg #[.int .i64 k, .int .i64 r, .int .i64 c, .int .i64 q], .slice ro rn rc, .int .u8 ((kd.toNat : Nat) : Int), .int .i64 v] w fun e w' => e = .returned (.int .i64 E) /\ Below w.heap.size w w' := by
 obtain ⟨w0, hw0⟩ : ∃ w0, w0 = w.alloc (.cells #[.int .i64 k, .int .i64 r, .int .i64 c, .int .i64 q] 23) := ⟨_, rfl⟩
 have B0 : Hid (Below w.heap.size w w0) := by show Below _ _ _; rw [hw0]; exact below_alloc _ _
 have L0 : Hid (∀ v, Below w0.heap.size w0 v -> At w v w.heap.size #[.int .i64 k, .int .i64 r, .int .i64 c, .int .i64 q] 23) := fun v hv => (at_made (Below.refl _ _) hw0).below hv
 obtain ⟨mb, hmb⟩ : ∃ mb, may k r c q = mb := ⟨_, rfl⟩
 have HM : Hid (∀ v, Calls Tryz.prog 110 #[.agg #[.int .i64 k, .int .i64 r, .int .i64 c, .int .i64 q]] v fun e w' => e = .returned (.bool mb) /\ Below v.heap.size v w') := fun v => by rw [<- hmb]; exact May_any k r c q v
 have hm2 := h.may
 rw [hmb] at hm2
 have hk1 := kd_one kd
 have hk2 := kd_two kd
 by_cases hx : x = 0
 ·subst hx
  obtain rfl : mb = true := by rw [hm2]; rfl
  obtain ⟨y, hy⟩ : ∃ y, decide (rn = N /\ ∀ j, j < 2 * rn -> L j = 0 \/ L j = sz N c) = y := ⟨_, rfl⟩
  have HRW : Hid (∀ u, Below w.heap.size w u -> Calls Tryz.prog 134 #[.agg #[.int .i64 k, .int .i64 r, .int .i64 c, .int .i64 q], .slice ro rn rc] u fun e w' => e = .returned (.bool y) /\ Below u.heap.size u w') := fun u hu => RRow_any h u ro rn rc A L C F (hr.below hu) y hy
  clear hr hmb hm2 h
  unfold erK erR at hE
  rw [if_pos rfl] at hE
  cases y
  ·rw [if_neg (of_decide_eq_false hy), if_neg (by decide)] at hE
   subst hE
   clear hy
   go_enter Tryz.func69, Tryz.ntmps69
   go_wp2_with fail
   rw [<- hw0]
   clear hw0
   refine (HM.out _).mono ?_
   rintro e wa ⟨rfl, ha⟩
   have BA : Hid (Below w0.heap.size w0 wa) := ha
   clear ha
   have pq := L0.out wa BA.out
   have s0 := pq.cell (i := 0) rfl
   have s1 := pq.cell (i := 1) rfl
   have s2 := pq.cell (i := 2) rfl
   have s3 := pq.cell (i := 3) rfl
   clear pq
   go_wp2_with fail
   refine (HRW.out _ (below_then B0.out BA.out)).mono ?_
   rintro e wb ⟨rfl, hb⟩
   have BB : Hid (Below w0.heap.size w0 wb) := below_then BA.out hb
   clear hb s0 s1 s2 s3
   go_wp2_with fail
   go_ret
   exact ⟨rfl, below_then B0.out BB.out⟩
  ·rw [if_pos (of_decide_eq_true hy), if_pos rfl] at hE
   clear hy
   obtain ⟨vb, hvb⟩ : ∃ vb, verB v = vb := ⟨_, rfl⟩
   have HV : Hid (∀ u, Calls Tryz.prog 103 #[.int .i64 v] u fun e w' => e = .returned (.bool vb) /\ w' = u) := fun u => by rw [<- hvb]; exact Version_any v u
   have HE : Hid (((kd = 1 \/ kd = 2) -> vb = true -> E = 0) /\ ((kd = 1 \/ kd = 2) -> vb = false -> E = 2) /\ (¬ (kd = 1 \/ kd = 2) -> E = 2)) := by
    unfold verB at hvb
    refine ⟨fun a b => ?_, fun a b => ?_, fun a => ?_⟩
    ·rw [if_pos ⟨a, of_decide_eq_true (hvb.trans b)⟩] at hE; exact hE.symm
    ·rw [if_neg fun g => of_decide_eq_false (hvb.trans b) g.2] at hE; exact hE.symm
    ·rw [if_neg fun g => a g.1] at hE; exact hE.symm
   clear hE hvb
   by_cases g1 : kd = 1
   ·subst g1
    rw [show ((UInt8.toNat 1 : Nat) : Int) = 1 from rfl]
    cases vb
    ·obtain rfl : E = 2 := HE.out.2.1 (.inl rfl) rfl
     go_enter Tryz.func69, Tryz.ntmps69
     go_wp2_with fail
     rw [<- hw0]
     clear hw0
     refine (HM.out _).mono ?_
     rintro e wa ⟨rfl, ha⟩
     have BA : Hid (Below w0.heap.size w0 wa) := ha
     clear ha
     have pq := L0.out wa BA.out
     have s0 := pq.cell (i := 0) rfl
     have s1 := pq.cell (i := 1) rfl
     have s2 := pq.cell (i := 2) rfl
     have s3 := pq.cell (i := 3) rfl
     clear pq
     go_wp2_with fail
     refine (HRW.out _ (below_then B0.out BA.out)).mono ?_
     rintro e wb ⟨rfl, hb⟩
     have BB : Hid (Below w0.heap.size w0 wb) := below_then BA.out hb
     clear hb s0 s1 s2 s3
     go_wp2_with (go_at_call 103; refine (HV.out _).mono ?_; rintro e wc ⟨rfl, hc⟩; obtain rfl := hc)
     go_ret
     exact ⟨rfl, below_then B0.out BB.out⟩
    ·obtain rfl : E = 0 := HE.out.1 (.inl rfl) rfl
     go_enter Tryz.func69, Tryz.ntmps69
     go_wp2_with fail
     rw [<- hw0]
     clear hw0
     refine (HM.out _).mono ?_
     rintro e wa ⟨rfl, ha⟩
     have BA : Hid (Below w0.heap.size w0 wa) := ha
     clear ha
     have pq := L0.out wa BA.out
     have s0 := pq.cell (i := 0) rfl
     have s1 := pq.cell (i := 1) rfl
     have s2 := pq.cell (i := 2) rfl
     have s3 := pq.cell (i := 3) rfl
     clear pq
     go_wp2_with fail
     refine (HRW.out _ (below_then B0.out BA.out)).mono ?_
     rintro e wb ⟨rfl, hb⟩
     have BB : Hid (Below w0.heap.size w0 wb) := below_then BA.out hb
     clear hb s0 s1 s2 s3
     go_wp2_with (go_at_call 103; refine (HV.out _).mono ?_; rintro e wc ⟨rfl, hc⟩; obtain rfl := hc)
     go_ret
     exact ⟨rfl, below_then B0.out BB.out⟩
   ·by_cases g2 : kd = 2
    ·subst g2
     rw [show ((UInt8.toNat 2 : Nat) : Int) = 2 from rfl]
     cases vb
     ·obtain rfl : E = 2 := HE.out.2.1 (.inr rfl) rfl
      go_enter Tryz.func69, Tryz.ntmps69
      go_wp2_with fail
      rw [<- hw0]
      clear hw0
      refine (HM.out _).mono ?_
      rintro e wa ⟨rfl, ha⟩
      have BA : Hid (Below w0.heap.size w0 wa) := ha
      clear ha
      have pq := L0.out wa BA.out
      have s0 := pq.cell (i := 0) rfl
      have s1 := pq.cell (i := 1) rfl
      have s2 := pq.cell (i := 2) rfl
      have s3 := pq.cell (i := 3) rfl
      clear pq
      go_wp2_with fail
      refine (HRW.out _ (below_then B0.out BA.out)).mono ?_
      rintro e wb ⟨rfl, hb⟩
      have BB : Hid (Below w0.heap.size w0 wb) := below_then BA.out hb
      clear hb s0 s1 s2 s3
      go_wp2_with (go_at_call 103; refine (HV.out _).mono ?_; rintro e wc ⟨rfl, hc⟩; obtain rfl := hc)
      go_ret
      exact ⟨rfl, below_then B0.out BB.out⟩
     ·obtain rfl : E = 0 := HE.out.1 (.inr rfl) rfl
      go_enter Tryz.func69, Tryz.ntmps69
      go_wp2_with fail
      rw [<- hw0]
      clear hw0
      refine (HM.out _).mono ?_
      rintro e wa ⟨rfl, ha⟩
      have BA : Hid (Below w0.heap.size w0 wa) := ha
      clear ha
      have pq := L0.out wa BA.out
      have s0 := pq.cell (i := 0) rfl
      have s1 := pq.cell (i := 1) rfl
      have s2 := pq.cell (i := 2) rfl
      have s3 := pq.cell (i := 3) rfl
      clear pq
      go_wp2_with fail
      refine (HRW.out _ (below_then B0.out BA.out)).mono ?_
      rintro e wb ⟨rfl, hb⟩
      have BB : Hid (Below w0.heap.size w0 wb) := below_then BA.out hb
      clear hb s0 s1 s2 s3
      go_wp2_with (go_at_call 103; refine (HV.out _).mono ?_; rintro e wc ⟨rfl, hc⟩; obtain rfl := hc)
      go_ret
      exact ⟨rfl, below_then B0.out BB.out⟩
    ·obtain rfl : E = 2 := HE.out.2.2 fun a => a.elim g1 g2
     have hn1 : (((kd.toNat : Nat) : Int) != 1) = true := bne_iff_ne.2 fun a => g1 (hk1.1 a)
     have hn2 : (((kd.toNat : Nat) : Int) != 2) = true := bne_iff_ne.2 fun a => g2 (hk2.1 a)
     clear hk1 hk2
     go_enter Tryz.func69, Tryz.ntmps69
     go_wp2_with fail
     rw [<- hw0]
     clear hw0
     refine (HM.out _).mono ?_
     rintro e wa ⟨rfl, ha⟩
     have BA : Hid (Below w0.heap.size w0 wa) := ha
     clear ha
     have pq := L0.out wa BA.out
     have s0 := pq.cell (i := 0) rfl
     have s1 := pq.cell (i := 1) rfl
     have s2 := pq.cell (i := 2) rfl
     have s3 := pq.cell (i := 3) rfl
     clear pq
     go_wp2_with fail
     refine (HRW.out _ (below_then B0.out BA.out)).mono ?_
     rintro e wb ⟨rfl, hb⟩
     have BB : Hid (Below w0.heap.size w0 wb) := below_then BA.out hb
     clear hb s0 s1 s2 s3
     go_wp2_with fail
     go_ret
     exact ⟨rfl, below_then B0.out BB.out⟩
 ·obtain rfl : mb = false := by rw [hm2]; exact decide_eq_false hx
  have h2 : x = 2 := by
   rcases h with ⟨_, _, _, e⟩ | ⟨_, _, _, e⟩
   ·exact absurd e hx
   ·exact e
  obtain rfl : E = 2 := by unfold erK at hE; rw [erR_two h2] at hE; exact hE.symm
  clear hr hmb hm2 h hE
  go_enter Tryz.func69, Tryz.ntmps69
  go_wp2_with fail
  rw [<- hw0]
  clear hw0
  refine (HM.out _).mono ?_
  rintro e wa ⟨rfl, ha⟩
  have BA : Hid (Below w0.heap.size w0 wa) := ha
  clear ha
  go_wp2_with fail
  go_ret
  exact ⟨rfl, below_then B0.out BA.out⟩
end Go.Proofs.YtemlojjkokooeaaGreat
