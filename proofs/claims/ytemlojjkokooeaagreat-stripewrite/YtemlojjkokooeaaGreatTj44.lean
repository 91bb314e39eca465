import Derived.Test.YtemlojjkokooeaaGreatTj43
set_option maxHeartbeats 8000000
set_option maxRecDepth 100000
namespace Go.Proofs.YtemlojjkokooeaaGreat
open Go.RowKit
theorem mreg (w1 : World) (ver x : Int) (kd : UInt8) (vb vf n2 vc ab af n cl i m : Nat) (hi : (0 : Int) <= (i : Int)) (hi2 : (i : Int) < (n : Int)) (hi3 : (i : Int) < (n2 : Int)) (a0 : Option Addr) (c0 : Nat) (x0 x1 x2 x4 x6 x7 x8 x9 x10 x11 x12 x13 x15 x16 x17 x19 x21 x22 x23 x24 x25 x26 x27 x28 x29 x30 x31 x32 x33 x34 x35 x36 x37 x38 x39 x40 x41 x42 x43 x44 x45 x46 x47 x48 x49 x50 x51 x52 x53 x54 x55 x56 x57 x58 x59 x60 x61 x62 x63 x64 x65 x66 x67 x68 x69 x70 x71 x72 x73 x74 x75 x76 x77 x78 x79 x80 : Value)
  (HS : Hid (∀ v, Below w1.heap.size w1 v -> (v.cell? ⟨vb, vf + i, none⟩ = some (.int .i64 x) /\ v.cell? ⟨ab, af + i, none⟩ = some (.slice a0 m c0))))
  (Q : Exit -> Act -> World -> Prop) (HQ : Hid (∀ v g, Below w1.heap.size w1 v -> At w1 v g #[.int .u8 ((kd.toNat : Nat) : Int), .int .i64 (i : Int), .int .i64 x, .int .i64 ver, .slice (some ⟨vb, vf, none⟩) n2 vc, .slice a0 m c0] 107 -> Q .normal { tmps := #[x0, x1, x2, .int .u8 ((kd.toNat : Nat) : Int), x4, .int .i64 ver, x6, x7, x8, x9, x10, x11, x12, x13, .slice (some ⟨ab, af, none⟩) n cl, x15, x16, x17, .slice (some ⟨vb, vf, none⟩) n2 vc, x19, .int .i64 (i : Int), .pointer (some ⟨g, 0, none⟩), x22, x23, x24, x25, x26, x27, x28, x29, x30, x31, x32, x33, x34, x35, x36, x37, x38, x39, x40, x41, x42, x43, x44, x45, x46, x47, x48, x49, x50, x51, x52, x53, x54, x55, x56, x57, .int .u8 ((kd.toNat : Nat) : Int), .int .i64 (i : Int), .slice (some ⟨vb, vf, none⟩) n2 vc, .int .i64 (i : Int), .pointer (some ⟨vb, vf + i, none⟩), .int .i64 x, .int .i64 ver, .slice (some ⟨vb, vf, none⟩) n2 vc, .slice (some ⟨ab, af, none⟩) n cl, .int .i64 (i : Int), .pointer (some ⟨ab, af + i, none⟩), .slice a0 m c0, .agg #[.int .u8 ((kd.toNat : Nat) : Int), .int .i64 (i : Int), .int .i64 x, .int .i64 ver, .slice (some ⟨vb, vf, none⟩) n2 vc, .slice a0 m c0], x71, x72, x73, x74, x75, x76, x77, x78, x79, x80], defers := [] } v)) :
  Code.wp Tryz.prog (Code.region 11 #[{ dst := some 58, op := .move (.tmp 3), type := 5, pos := "ref.go:219", after := #[], guard := none }, { dst := some 59, op := .move (.tmp 20), type := 3, pos := "ref.go:219", after := #[], guard := none }, { dst := some 60, op := .move (.tmp 18), type := 27, pos := "ref.go:219", after := #[], guard := none }, { dst := some 61, op := .move (.tmp 20), type := 3, pos := "ref.go:219", after := #[], guard := none }, { dst := some 62, op := .indexAddr 27 (.tmp 60) (.tmp 61), type := 0, pos := "ref.go:219", after := #[{ on := 2, ground := .data }, { on := 3, ground := .data }], guard := none }, { dst := some 63, op := .load 3 (.tmp 62), type := 3, pos := "ref.go:219", after := #[{ on := 4, ground := .data }], guard := none }, { dst := some 64, op := .move (.tmp 5), type := 3, pos := "ref.go:219", after := #[], guard := none }, { dst := some 65, op := .move (.tmp 18), type := 27, pos := "ref.go:219", after := #[], guard := none }, { dst := some 66, op := .move (.tmp 14), type := 33, pos := "ref.go:219", after := #[], guard := none }, { dst := some 67, op := .move (.tmp 20), type := 3, pos := "ref.go:219", after := #[], guard := none }, { dst := some 68, op := .indexAddr 33 (.tmp 66) (.tmp 67), type := 0, pos := "ref.go:219", after := #[{ on := 8, ground := .data }, { on := 9, ground := .data }], guard := none }, { dst := some 69, op := .load 36 (.tmp 68), type := 36, pos := "ref.go:219", after := #[{ on := 10, ground := .data }], guard := none }, { dst := some 70, op := .build 107 #[(0, .tmp 58), (1, .tmp 59), (2, .tmp 63), (3, .tmp 64), (4, .tmp 65), (5, .tmp 69)], type := 107, pos := "ref.go:219", after := #[{ on := 0, ground := .data }, { on := 1, ground := .data }, { on := 5, ground := .data }, { on := 6, ground := .data }, { on := 7, ground := .data }, { on := 11, ground := .data }], guard := none }, { dst := some 21, op := .alloc 107, type := 0, pos := "ref.go:219", after := #[], guard := none }, { dst := none, op := .store 107 (.tmp 21) (.tmp 70), type := 0, pos := "ref.go:219", after := #[{ on := 13, ground := .data }, { on := 12, ground := .data }, { on := 0, ground := .phase }, { on := 1, ground := .phase }, { on := 2, ground := .phase }, { on := 3, ground := .phase }, { on := 4, ground := .phase }, { on := 5, ground := .phase }, { on := 6, ground := .phase }, { on := 7, ground := .phase }, { on := 8, ground := .phase }, { on := 9, ground := .phase }, { on := 10, ground := .phase }, { on := 11, ground := .phase }, { on := 12, ground := .phase }, { on := 13, ground := .phase }], guard := none }] true) Q { tmps := #[x0, x1, x2, .int .u8 ((kd.toNat : Nat) : Int), x4, .int .i64 ver, x6, x7, x8, x9, x10, x11, x12, x13, .slice (some ⟨ab, af, none⟩) n cl, x15, x16, x17, .slice (some ⟨vb, vf, none⟩) n2 vc, x19, .int .i64 (i : Int), x21, x22, x23, x24, x25, x26, x27, x28, x29, x30, x31, x32, x33, x34, x35, x36, x37, x38, x39, x40, x41, x42, x43, x44, x45, x46, x47, x48, x49, x50, x51, x52, x53, x54, x55, x56, x57, x58, x59, x60, x61, x62, x63, x64, x65, x66, x67, x68, x69, x70, x71, x72, x73, x74, x75, x76, x77, x78, x79, x80], defers := [] } w1 := by
 obtain ⟨s0, s1⟩ := HS.out w1 (Below.refl _ _)
 have hd0 : Below w1.heap.size w1 w1.drew := bdw _ _
 have hda : ∀ o, Below w1.heap.size w1 (w1.alloc o).drew := fun o => b_drew (b_alloc (Below.refl _ _) o)
 go_region_held3 (fun v => v.cell? ⟨vb, vf + i, none⟩ = some (.int .i64 x) /\ v.cell? ⟨ab, af + i, none⟩ = some (.slice a0 m c0)) (go_keep) (fail)
 refine HQ.out _ _ ?_ ?_
 ·exact hda _
 ·exact (at_new (a := w1) (Below.refl _ _) _ 107).drew
theorem told_or {N : Nat} {c : Int} {L : Nat -> Nat} {F : Nat -> Nat -> UInt8} {kd : UInt8} {v : Int} (hk : kd = 1 \/ kd = 2) {t : Sl} (ht : tS (yy N c L F) kd v (2 * N) = t) : ct (zv N c L F kd v) N = 0 \/ (t.vn = N /\ mx t.V N = v /\ ∀ j, j < N -> 1 <= t.V j /\ t.V j <= 1073741824) := by
 rcases tS_is (v := v) hk (yy_ok N c L F) (2 * N) (Nat.le_refl _) with ⟨a, _⟩ | ⟨j, _, a2, a3, a4, _⟩
 ·left
  have hz : ∀ i, zv N c L F kd v i = zSl := fun i => by unfold zv zz; rw [a, if_pos (show zSl.ce = 0 from rfl)]
  have : ∀ n, ct (zv N c L F kd v) n = 0 := fun n => by
   induction n with
   | zero => rfl
   | succ n ih => rw [(se_skip (z := zv N c L F kd v) (d := n) (by rw [hz n]; rfl)).1]; exact ih
  exact this N
 ·right
  rw [ht] at a2
  have ho := ok_of a4.1
  have hs : (yy N c L F j).st = v := (of_decide_eq_true a3).2
  rw [a2]
  exact ⟨ho.vn, by rw [<- ho.st]; exact hs, ho.V⟩
theorem RMended_any {k r c q : Int} {N W : Nat} (h : Par k r c q N W 0) (w : World) (ro : Option Addr) (rc : Nat) (A : Nat -> Option Addr) (L C : Nat -> Nat) (F : Nat -> Nat -> UInt8) (hr : Rw w ro N A L C F) (hL : ∀ j, j < 2 * N -> L j = 0 \/ L j = sz N c) (nu : Int) (kd : UInt8) (hk : kd = 1 \/ kd = 2) (ke v : Int) (hk0 : ke <= 0 -> (tS (yy N c L F) kd ke (2 * N)).vn = 0) (E : Int) (hE : erL k.toNat (zv N c L F kd v) N = E) :
    Calls Tryz.prog 88 #[.agg #[.int .i64 k, .int .i64 r, .int .i64 c, .int .i64 q], .slice ro N rc, .int .i64 nu, .int .u8 ((kd.toNat : Nat) : Int), .int .i64 ke, .int .i64 v] w (AnsL w E (Cod.cnt (mis (zv N c L F kd v) c.toNat) N) N (mis (zv N c L F kd v) c.toNat) (osl N c L F kd ke) nu (sz N c) (fun i => enc (slC kd N (tS (yy N c L F) kd v (2 * N)).V c.toNat (cH k.toNat (zv N c L F kd v) N i) i))) := by
  have hle := h.le
  obtain ⟨c1, c2⟩ := h.cell rfl
  have hk1 : 1 <= k := by
    rcases h with ⟨hm, _⟩ | ⟨_, _, _, e⟩
    · obtain ⟨h1, _⟩ := may_true hm; omega
    · exact absurd e (by decide)
  obtain ⟨t, ht⟩ : ∃ t, tS (yy N c L F) kd v (2 * N) = t := ⟨_, rfl⟩
  have hto := told_or hk ht
  obtain ⟨z, hz⟩ : ∃ z, z = zv N c L F kd v := ⟨_, rfl⟩
  have hok : Zok N c z := by rw [hz]; exact zok_of
  have HW : Hid (∀ u, Below w.heap.size w u -> Calls Tryz.prog 75 #[.agg #[.int .i64 k, .int .i64 r, .int .i64 c, .int .i64 q], .slice ro N rc, .int .u8 ((kd.toNat : Nat) : Int), .int .i64 v] u (AnsC u E N c.toNat (cH k.toNat z N))) := fun u hu => by
    rw [<- hE, hz]; exact RWhole_any h u ro rc A L C F (hr.below hu) hL kd hk v
  have HT : Hid (∀ u, Below w.heap.size w u -> Calls Tryz.prog 73 #[.agg #[.int .i64 k, .int .i64 r, .int .i64 c, .int .i64 q], .slice ro N rc, .int .u8 ((kd.toNat : Nat) : Int), .int .i64 v] u fun e w' => ∃ (T : Nat -> Option Addr) (U : Nat -> Nat), e = .returned (.tuple #[.slice (some ⟨u.heap.size + 1, 0, none⟩) N N, .int .i64 ((ct z N : Nat) : Int)]) /\ (∀ i, i < N -> w'.cell? ⟨u.heap.size + 1, i, none⟩ = some (.slice (T i) (z i).dn (U i))) /\ Below u.heap.size u w') := fun u hu => by
    refine (There_any h u ro rc A L C F (hr.below hu) hL kd hk v).mono ?_
    rintro e w' ⟨T, U, rfl, h1, _, hb⟩
    rw [<- hz] at h1 ⊢
    refine ⟨T, U, rfl, fun i hi => ?_, hb⟩
    have := h1.cells (g := u.heap.size + 1) rfl i _ (Cod.rowsOf_get N T _ U i hi)
    rw [Addr.add_lit, Nat.zero_add] at this
    exact this
  have HTO : Hid (∀ u, Below w.heap.size w u -> Calls Tryz.prog 70 #[.agg #[.int .i64 k, .int .i64 r, .int .i64 c, .int .i64 q], .slice ro N rc, .int .u8 ((kd.toNat : Nat) : Int), .int .i64 v] u (AnsW u t)) := fun u hu => Told_any h u ro rc A L C F (hr.below hu) hL kd hk v t ht
  obtain ⟨m, hm⟩ : ∃ m, m = c.toNat := ⟨_, rfl⟩
  have hcm : c = (m : Int) := by omega
  have hdn : ∀ i, i < N -> ((z i).ce = 0 /\ (z i).dn = 0) \/ ((z i).ce ≠ 0 /\ (z i).dn = m) := fun i hi => by rw [hm]; exact hok.dn i hi
  obtain ⟨H, hH⟩ : ∃ H, H = cH k.toNat z N := ⟨_, rfl⟩
  obtain ⟨n, hn⟩ : ∃ n, n = sz N c := ⟨_, rfl⟩
  obtain ⟨os, hos⟩ : ∃ os, os = osl N c L F kd ke := ⟨_, rfl⟩
  obtain ⟨G, hG⟩ : ∃ G, G = fun i => enc (slC kd N t.V m (H i) i) := ⟨_, rfl⟩
  have HPU : Hid (t.vn = N -> mx t.V N = v -> (∀ j, j < N -> 1 <= t.V j /\ t.V j <= 1073741824) -> ∀ d, d < N -> ∀ u, Below w.heap.size w u -> ∀ vo vc bo cb, Vec u vo N vc t.V -> Bec u bo m cb (H d) -> Calls Tryz.prog 154 #[.agg #[.int .i64 k, .int .i64 r, .int .i64 c, .int .i64 q], .slice ro N rc, .int .i64 nu, .int .i64 ke, .agg #[.int .u8 ((kd.toNat : Nat) : Int), .int .i64 (d : Int), .int .i64 (t.V d), .int .i64 v, .slice vo N vc, .slice bo m cb]] u fun e w' => ∃ uo uc, e = .returned (.agg #[.int .i64 (d : Int), .int .i64 nu, .int .i64 ((os d : Nat) : Int), .slice uo n uc]) /\ OwU u.heap.size w' uo n uc (G d) /\ Below u.heap.size u w') := fun _ hst hV d hd u hu vo vc bo cb h1 h2 => by
    have hok : okS N c (slC kd N t.V m (H d) d) = true := by
      rw [hm]; exact (slC_ok (c := c) (G := H d) hk hV hd (by omega)).ok
    have := RPut_any h u ro rc A L C F (hr.below hu) hL nu ke (slC kd N t.V m (H d) d) vo vc bo cb ⟨h1, h2⟩ hok d hd rfl _ rfl hk0
    rw [show (slC kd N t.V m (H d) d).st = v from hst] at this
    rw [hn, hos, hG]
    exact this
  have hn0 : n <= 1000 := by rw [hn]; unfold sz; omega
  have hE2 : E = 0 -> 1 <= ct z N := fun e => by
    rw [<- hE, <- hz] at e
    unfold erL at e
    rw [(cnt_ct hok c1).1] at e
    by_cases a : k.toNat <= ct z N
    · omega
    · rw [if_neg a] at e; exact absurd e (by decide)
  rw [ht, <- hz, <- hm, <- hH, <- hn, <- hos, <- hG]
  rw [<- hm, <- hH] at HW
  rw [<- hz] at hto
  obtain ⟨j0, hj, hj0, hj1, hj2⟩ := info_parts info48
  obtain ⟨w0, hw0⟩ : ∃ w0, w0 = w.alloc (.cells #[.int .i64 k, .int .i64 r, .int .i64 c, .int .i64 q] 23) := ⟨_, rfl⟩
  have B0 : Hid (Below w.heap.size w w0) := by show Below _ _ _; rw [hw0]; exact bal _ _
  have L0 : Hid (∀ v, Below w0.heap.size w0 v -> At w v w.heap.size #[.int .i64 k, .int .i64 r, .int .i64 c, .int .i64 q] 23) := fun v hv => (at_made (Below.refl _ _) hw0).below hv
  have HM0 : Hid (m ≠ 0) := by show _ ≠ _; omega
  clear h hr hL hk hk0 hE ht hok hm hcm hH hn hos hG hz
  unfold AnsL
  unfold AnsC at HW
  by_cases he : E = 0
  · have hct := hE2 he
    obtain ⟨htn, hst, hV⟩ : t.vn = N /\ mx t.V N = v /\ ∀ j, j < N -> 1 <= t.V j /\ t.V j <= 1073741824 := by
      rcases hto with a | a
      · omega
      · exact a
    have HPI := HPU.out htn hst hV
    have HP2 : Hid (∀ d, d < N -> ∀ u, Below w.heap.size w u -> ∀ vo vc bo cb, Vec u vo N vc t.V -> Bec u bo m cb (H d) -> Calls Tryz.prog 154 #[.agg #[.int .i64 k, .int .i64 r, .int .i64 c, .int .i64 q], .slice ro N rc, .int .i64 nu, .int .i64 ke, .agg #[.int .u8 ((kd.toNat : Nat) : Int), .int .i64 (d : Int), .int .i64 (t.V d), .int .i64 v, .slice vo N vc, .slice bo m cb]] u fun e w' => ∃ uo uc, e = .returned (.agg #[.int .i64 (d : Int), .int .i64 nu, .int .i64 ((os d : Nat) : Int), .slice uo n uc]) /\ OwU u.heap.size w' uo n uc (G d) /\ Below u.heap.size u w') := HPI
    subst he
    rw [show lenE 0 N = N from if_pos rfl] at HW
    rw [show lenE 0 (Cod.cnt (mis z m) N) = Cod.cnt (mis z m) N from if_pos rfl]
    unfold AnsW at HTO
    rw [htn] at HTO
    clear hto hE2 hst hV HPI HPU hct
    have HTN : Hid (t.vn = N) := htn
    clear htn
    go_enter Tryz.func88, Tryz.ntmps88
    go_wp2_with fail
    rw [<- hw0]
    clear hw0
    refine (HW.out _ B0.out).mono ?_
    rintro e wa ⟨lo, cl, Ta, Ua, rfl, hcl, ha⟩
    have HA : Hid (Below w0.heap.size w0 wa) := ha
    have HRD : Hid (RdC wa lo N Ta (fun _ => m) Ua) := hcl.rdc (Nat.le_refl _)
    have HBE : Hid (∀ i, i < N -> Bec wa (Ta i) m (Ua i) (H i)) := fun i hi => (hcl.row i hi).bec
    clear hcl ha HW
    have p := L0.out wa HA.out
    have p0 := p.cell (i := 0) rfl
    have p1 := p.cell (i := 1) rfl
    have p2 := p.cell (i := 2) rfl
    have p3 := p.cell (i := 3) rfl
    clear p
    go_wp2_with fail
    clear p0 p1 p2 p3
    refine (HT.out _ (bth B0.out HA.out)).mono ?_
    rintro e wb ⟨Tb, Ub, rfl, hcb, hb⟩
    have HB : Hid (Below wa.heap.size wa wb) := hb
    have HCB : Hid (∀ i, i < N -> wb.cell? ⟨wa.heap.size + 1, i, none⟩ = some (.slice (Tb i) (z i).dn (Ub i))) := hcb
    clear hb hcb HT
    have p := L0.out wb (bth HA.out HB.out)
    have p0 := p.cell (i := 0) rfl
    have p1 := p.cell (i := 1) rfl
    have p2 := p.cell (i := 2) rfl
    have p3 := p.cell (i := 3) rfl
    clear p
    go_wp2_with fail
    clear p0 p1 p2 p3
    refine (HTO.out _ (bth B0.out (bth HA.out HB.out))).mono ?_
    rintro e wc ⟨vo, vc, rfl, hown, hc⟩
    have HBC : Hid (Below w0.heap.size w0 wc) := bth HA.out (bth HB.out hc)
    have HAC : Hid (Below wa.heap.size wa wc) := bth HB.out hc
    have HVE : Hid (Vec wc vo N vc t.V) := hown.vec
    have HCC : Hid (∀ i, i < N -> wc.cell? ⟨wa.heap.size + 1, i, none⟩ = some (.slice (Tb i) (z i).dn (Ub i))) := fun i hi => held (HCB.out i hi) hc
    have HDN : Hid (∀ i, i < N -> ((z i).ce = 0 /\ (z i).dn = 0) \/ ((z i).ce ≠ 0 /\ (z i).dn = m)) := hdn
    clear hown hc HCB HTO hdn HB
    go_wp2_with fail
    go_loopw [19, 20] (fun y x wr => ∃ i : Nat, i <= N /\ x = .int .i64 (i : Int) /\ (∃ ao cp cn, y = .slice ao cn cp /\ cn <= i /\ Hid (cn = Cod.cnt (mis z m) i) /\ Hid (∃ T U, wr.ownsRow wc.heap.size 56 4 (.slice ao cn cp) cn (ptl (mis z m) os nu n T U i) /\ ∀ l, l < i -> mis z m l ≠ 0 -> OwU wc.heap.size wr (T l) n (U l) (G l))) /\ Hid (Below wc.heap.size wc wr)) (fun _ x _ => N - (intOf x).toNat)
    case atStart => exact ⟨0, Nat.zero_le _, rfl, ⟨none, 0, 0, rfl, Nat.le_refl _, rfl, fun _ => none, fun _ => 0, World.ownsRow_nil _ _ _ _, fun l hl => absurd hl (Nat.not_lt_zero l)⟩, Below.refl _ _⟩
    case round =>
      obtain ⟨i, hi, rfl, ⟨ao, cp, cn, rfl, hcni, hcn, hcs⟩, hbel⟩ := hrel
      by_cases hlt : i < N
      · have i1 : (0 : Int) <= (i : Int) := by omega
        have i2 : (i : Int) < (N : Int) := by omega
        have cz := held (HCC.out i hlt) hbel.out
        rcases HDN.out i hlt with ⟨z1, z2⟩ | ⟨z1, z2⟩
        · rw [z2] at cz
          have HMI : Hid (mis z m i = m) := by show _ = _; unfold mis; rw [if_pos z1]
          clear z1 z2
          obtain ⟨lb, lf, rfl, hcc⟩ := HRD.out (by omega)
          obtain ⟨vb, vf, rfl, hvc⟩ := HVE.out.rd (by omega)
          have HPC : Hid (∀ u, Below wr.heap.size wr u -> (u.cell? ⟨w.heap.size, 0, none⟩ = some (.int .i64 k) /\ u.cell? ⟨w.heap.size, 1, none⟩ = some (.int .i64 r) /\ u.cell? ⟨w.heap.size, 2, none⟩ = some (.int .i64 c) /\ u.cell? ⟨w.heap.size, 3, none⟩ = some (.int .i64 q))) := fun u hu => by
            have p := L0.out u (bth HBC.out (bth hbel.out hu))
            exact ⟨p.cell (i := 0) rfl, p.cell (i := 1) rfl, p.cell (i := 2) rfl, p.cell (i := 3) rfl⟩
          have CHH : Hid (∀ u, Below wr.heap.size wr u -> (u.cell? ⟨vb, vf + i, none⟩ = some (.int .i64 (t.V i)) /\ u.cell? ⟨lb, lf + i, none⟩ = some (.slice (Ta i) m (Ua i)))) := fun u hu => ⟨held (hvc i hlt) (bth hbel.out hu), held (hcc i hlt) (bth HAC.out (bth hbel.out hu))⟩
          have HPI := HP2.out i hlt
          have HBI : Hid (Bec wa (Ta i) m (Ua i) (H i)) := HBE.out i hlt
          clear hcc hvc
          go_wp2_with fail
          clear cz
          refine mreg wr v (t.V i) kd vb vf N vc lb lf N cl i m i1 i2 i2 (Ta i) (Ua i) _ _ _ _ _ _ _ _ _ _ _ _ _ _ _ _ _ _ _ _ _ _ _ _ _ _ _ _ _ _ _ _ _ _ _ _ _ _ _ _ _ _ _ _ _ _ _ _ _ _ _ _ _ _ _ _ _ _ _ _ _ _ _ _ _ _ _ _ _ _ _ _ _ _ _ _ CHH _ (fun v' g hb3 hat => ?_)
          have d0 := hat.cell (i := 0) rfl
          have d1 := hat.cell (i := 1) rfl
          have d2 := hat.cell (i := 2) rfl
          have d3 := hat.cell (i := 3) rfl
          have d4 := hat.cell (i := 4) rfl
          have d5 := hat.cell (i := 5) rfl
          obtain ⟨a0, a1, a2, a3⟩ := HPC.out v' hb3
          have HP6 := HPI v' (bth B0.out (bth HBC.out (bth hbel.out hb3))) (some ⟨vb, vf, none⟩) vc (Ta i) (Ua i) (HVE.out.below (bth hbel.out hb3)) (HBI.out.below (bth HAC.out (bth hbel.out hb3)))
          have HB3 : Hid (Below wr.heap.size wr v') := hb3
          clear hat hb3 HPI
          go_wp2_with fail
          refine HP6.mono ?_
          clear HP6 d0 d1 d2 d3 d4 d5 a0 a1 a2 a3
          rintro e w6 ⟨uo, uc, rfl, hou, h6⟩
          have HB6 : Hid (Below wr.heap.size wr w6) := bth HB3.out h6
          have HC6 : Hid (Below wc.heap.size wc w6) := bth hbel.out HB6.out
          have HS6 : Hid (wc.heap.size <= v'.heap.size) := (bth hbel.out HB3.out).size
          have HOU : Hid (OwU v'.heap.size w6 uo n uc (G i)) := hou
          obtain ⟨T, U, ho, hrow⟩ := hcs.out
          have HTR : Hid (∀ l, l < i -> mis z m l ≠ 0 -> OwU wc.heap.size w6 (T l) n (U l) (G l)) := fun l hl hm => (hrow l hl hm).below HB6.out
          obtain ⟨xs, hxs⟩ : ∃ xs, xs = ptl (mis z m) os nu n T U i := ⟨_, rfl⟩
          have HOW : Hid (∀ o, (w6.alloc o).ownsRow wc.heap.size 56 4 (.slice ao cn cp) cn xs) := fun o => by rw [hxs]; exact owns_below (owns_below ho HB6.out) (bal _ _)
          have HX : Hid (xs ++ [.int .i64 (i : Int), .int .i64 nu, .int .i64 ((os i : Nat) : Int), .slice uo n uc] = ptl (mis z m) os nu n (Cod.put i uo T) (Cod.put i uc U) (i + 1)) := by
            show _ = _
            rw [ptl, if_neg (by rw [HMI.out]; exact HM0.out), Cod.put_at, Cod.put_at, hxs]
            congr 1
            exact ptl_congr fun l hl => by rw [Cod.put_ne _ _ (by omega), Cod.put_ne _ _ (by omega)]; exact ⟨rfl, rfl⟩
          have HCT : Hid (cn + 1 = Cod.cnt (mis z m) (i + 1)) := by show _ = _; rw [Cod.cnt_take (by rw [HMI.out]; exact HM0.out), hcn.out]
          have hw6 := HC6.out.size
          clear hou h6 ho hrow hxs
          go_wp2_with (at_builtin; refine wpList_append_lies _ (by rfl) (.tmp 71) (.tmp 78) 43 (by rfl) wc.heap.size 56 j0 (.agg #[.int .i64 0, .int .i64 0, .int .i64 0, .slice none 0 0]) 4 48 Tryz.underlying43 hj hj0 hj1 hj2 (by rfl) (by decide) (.slice ao cn cp) cn xs (by rfl) (HOW.out _) ⟨w6.heap.size, 0, none⟩ 1 1 [.int .i64 (i : Int), .int .i64 nu, .int .i64 ((os i : Nat) : Int), .slice uo n uc] (by rfl) (by rfl) (World.news_of_block (heap_alloc_new w6 _)) (by simp [Value.oneCell']) (by decide) (by unfold maxLen; omega) (by omega) (by simp; omega) (w6.heap.size + 1) (by simp) ?_; intro g5 cap5 w5 hown5 hgrow5 _ _
                       have HO5 : Hid (w5.ownsRow wc.heap.size 56 4 (.slice (some ⟨g5, 0, none⟩) (cn + 1) cap5) (cn + 1) (ptl (mis z m) os nu n (Cod.put i uo T) (Cod.put i uc U) (i + 1))) := by rw [<- HX.out]; exact hown5
                       have HB5 : Hid (Below wc.heap.size wc w5) := (bth HC6.out (bal _ _)).grown hgrow5 (by simp; omega) (fun r hr => ((HOW.out (.cells #[] 3)).lt r hr).1)
                       have HR5 : Hid (∀ l, l < i + 1 -> mis z m l ≠ 0 -> OwU wc.heap.size w5 (Cod.put i uo T l) n (Cod.put i uc U l) (G l)) := fun l hl hml => by
                         by_cases e : l = i
                         · rw [e, Cod.put_at, Cod.put_at]
                           exact owns_grown8 (OwU.below (HOU.out.mono HS6.out) (bal _ _)) (HOW.out _) (by decide) hgrow5
                         · rw [Cod.put_ne _ _ e, Cod.put_ne _ _ e]
                           exact owns_grown8 (OwU.below (HTR.out l (by omega) hml) (bal _ _)) (HOW.out _) (by decide) hgrow5
                       clear hown5 hgrow5)
          go_roundw
          case rel => exact ⟨i + 1, by omega, by go_num, ⟨_, cap5, cn + 1, rfl, by omega, HCT.out, Cod.put i uo T, Cod.put i uc U, HO5.out, HR5.out⟩, HB5.out⟩
          case measure => simp [intOf]; omega
        · rw [z2] at cz
          have HMI : Hid (mis z m i = 0) := by show _ = _; unfold mis; rw [if_neg z1]
          have hme : ((m : Int) == 0) = false := by have := HM0.out; simp; omega
          clear z1 z2
          go_wp2_with fail
          go_roundw
          case rel =>
            obtain ⟨T, U, ho, hrow⟩ := hcs.out
            refine ⟨i + 1, by omega, by go_num, ⟨ao, cp, cn, rfl, by omega, ?_, T, U, ?_, fun l hl hml => ?_⟩, hbel.out⟩
            · show _ = _; rw [Cod.cnt_skip HMI.out]; exact hcn.out
            · rw [ptl, if_pos HMI.out]; exact ho
            · exact hrow l (by have : l ≠ i := fun e => hml (by rw [e]; exact HMI.out)
                               omega) hml
          case measure => simp [intOf]; omega
      · obtain rfl : i = N := by omega
        obtain ⟨T, U, ho, hrow⟩ := hcs.out
        have HBF : Hid (Below w.heap.size w wr) := bth B0.out (bth HBC.out hbel.out)
        have HSC : Hid (w.heap.size <= wc.heap.size) := (bth B0.out HBC.out).size
        have HPL : Hid (PL w.heap.size wr ao cn cp i (mis z m) os nu n T U G) := ⟨owns_mono ho HSC.out, fun l hl hml => (hrow l hl hml).mono HSC.out⟩
        have HCN : Hid (cn = Cod.cnt (mis z m) i) := hcn.out
        clear ho hrow hcs hbel hcn
        go_wp2_with fail
        go_ret2
        rw [<- HCN.out]
        exact ⟨ao, cp, T, U, rfl, fun _ => HPL.out, HBF.out⟩
  · have e1 : (E != 0) = true := by simp [he]
    rw [show lenE E N = 0 from if_neg he] at HW
    rw [show lenE E (Cod.cnt (mis z m) N) = 0 from if_neg he]
    clear hto hE2 HPU HT HTO hdn
    go_enter Tryz.func88, Tryz.ntmps88
    go_wp2_with fail
    rw [<- hw0]
    clear hw0
    refine (HW.out _ B0.out).mono ?_
    rintro e wa ⟨lo, cl, Ta, Ua, rfl, hcl, ha⟩
    go_wp2_with fail
    go_ret2
    exact ⟨none, 0, fun _ => none, fun _ => 0, rfl, fun e => absurd e he, bth B0.out ha⟩
end Go.Proofs.YtemlojjkokooeaaGreat
