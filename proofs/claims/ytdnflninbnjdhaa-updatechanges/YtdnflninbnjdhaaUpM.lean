/- UpdateChanges: the walk. -/
import Derived.Test.YtdnflninbnjdhaaUpL
namespace Go.Proofs.Ytdnflninbnjdhaa
open Go.RowKit

set_option maxHeartbeats 16000000 in
set_option maxRecDepth 100000 in
theorem changes_walk {k r c q : Int} {m : Nat} (w : World) (oo : Option Addr) (on oc : Nat) (O : Nat → UInt8) (hO : Bec w oo on oc O) (a : Int) (mo : Option Addr) (mn mc : Nat) (M : Nat → UInt8) (hM : Bec w mo mn mc M) (E G : Int) (n1 n2 : Nat) (D1 D2 : Nat → Int) (H1 H2 : Nat → Nat → UInt8) (hn1 : n1 ≤ 1000) (hn2 : n2 ≤ 1000) (hm : 0 < m) (hm2 : m ≤ 64)
    (HC : ∀ u b1 c1 b2 c2, Bec u b1 on c1 O → Bec u b2 mn c2 M → Calls Try.prog 6 #[.agg #[.int .i64 k, .int .i64 r, .int .i64 c, .int .i64 q], .slice b1 on c1, .int .i64 a, .slice b2 mn c2] u fun e w' => ∃ lo lc T U, e = .returned (.tuple #[.slice lo n1 lc, .int .i64 E]) ∧ Chs u.heap.size w' lo n1 lc D1 T (fun _ => m) U H1 ∧ Below u.heap.size u w')
    (HU : ∀ u b1 c1 b2 c2, Bec u b1 on c1 O → Bec u b2 mn c2 M → Calls Try.prog 8 #[.agg #[.int .i64 k, .int .i64 r, .int .i64 c, .int .i64 q], .slice b1 on c1, .slice b2 mn c2] u fun e w' => ∃ lo lc T U, e = .returned (.tuple #[.slice lo n2 lc, .int .i64 G]) ∧ Chs u.heap.size w' lo n2 lc D2 T (fun _ => m) U H2 ∧ Below u.heap.size u w')
    (RC : ∀ u b1 c1 b2 c2, Bec u b1 on c1 O → Bec u b2 mn c2 M → Calls Try.prog 7 #[.agg #[.int .i64 k, .int .i64 r, .int .i64 c, .int .i64 q], .slice b1 on c1, .int .i64 a, .slice b2 mn c2] u fun e w' => ∃ lo lc T U, e = .returned (.tuple #[.slice lo n1 lc, .int .i64 E]) ∧ Chr u.heap.size w' lo n1 lc D1 T (fun _ => m) U H1 ∧ Below u.heap.size u w')
    (RU : ∀ u b1 c1 b2 c2, Bec u b1 on c1 O → Bec u b2 mn c2 M → Calls Try.prog 9 #[.agg #[.int .i64 k, .int .i64 r, .int .i64 c, .int .i64 q], .slice b1 on c1, .slice b2 mn c2] u fun e w' => ∃ lo lc T U, e = .returned (.tuple #[.slice lo n2 lc, .int .i64 G]) ∧ Chr u.heap.size w' lo n2 lc D2 T (fun _ => m) U H2 ∧ Below u.heap.size u w') :
    Calls Try.prog 3 #[.agg #[.int .i64 k, .int .i64 r, .int .i64 c, .int .i64 q], .slice oo on oc, .int .i64 a, .slice mo mn mc] w fun e w' => e = .returned (.bool true) ∧ Below w.heap.size w w' := by
  have HC : Hid _ := And.intro trivial HC
  have HU : Hid _ := And.intro trivial HU
  have RC : Hid _ := And.intro trivial RC
  have RU : Hid _ := And.intro trivial RU
  obtain ⟨w0, hw0⟩ : ∃ w0, w0 = w.alloc (.cells #[.int .i64 k, .int .i64 r, .int .i64 c, .int .i64 q] 23) := ⟨_, rfl⟩
  have HPAR : Hid (∀ v, Below w0.heap.size w0 v → v.cell? ⟨w.heap.size, 0, none⟩ = some (.int .i64 k) ∧ v.cell? ⟨w.heap.size, 1, none⟩ = some (.int .i64 r) ∧ v.cell? ⟨w.heap.size, 2, none⟩ = some (.int .i64 c) ∧ v.cell? ⟨w.heap.size, 3, none⟩ = some (.int .i64 q)) := fun v hv => par_held hw0 hv
  have b0 : Below w.heap.size w w0 := by rw [hw0]; exact below_alloc _ _
  have B0 : Hid (Below w.heap.size w w0 ∧ w.heap.size < w0.heap.size) := ⟨b0, by rw [hw0]; simp⟩
  have HO : Hid (∀ v, Below w.heap.size w v → Bec v oo on oc O) := fun v hv => hO.below hv
  have HM : Hid (∀ v, Below w.heap.size w v → Bec v mo mn mc M) := fun v hv => hM.below hv
  clear hO hM b0
  go_enter Try.func3, Try.ntmps3
  go_wp2_with fail
  rw [← hw0]
  clear hw0
  refine (awake_any _).mono ?_
  rintro e wa ⟨rfl, ha⟩
  have HA : Hid (Below w0.heap.size w0 wa) := ha
  have v1 := conv_any (HO.out wa (below_then B0.out.1 ha))
  obtain ⟨w1, cb, hrun1, hz1, hcb, hb1, hs1⟩ := conv_newz wa on O
  have v2 := conv_any ((HM.out wa (below_then B0.out.1 ha)).below hb1)
  obtain ⟨w2, cc, hrun2, hz2, hcc, hb2, hs2⟩ := conv_newz w1 mn M
  have H02 : Hid (Below w0.heap.size w0 w2) := below_then ha (below_then hb1 hb2)
  have HZB : Hid (Bz w2 wa.heap.size on O) := hz1.below hb2
  have HZC : Hid (Bz w2 w1.heap.size mn M) := hz2
  have HSZ : Hid (wa.heap.size < w2.heap.size ∧ w1.heap.size < w2.heap.size ∧ w0.heap.size ≤ wa.heap.size ∧ wa.heap.size ≤ w1.heap.size) := ⟨by omega, hs2, ha.size, by omega⟩
  obtain ⟨s0, s1, s2, s3⟩ := HPAR.out w2 H02.out
  clear ha hz1 hz2 hb1 hb2 hs1 hs2
  go_wp2_with fail
  clear v1 v2 hrun1 hrun2
  refine (HC.out.2 w2 _ _ _ _ (HZB.out.bec hcb) (HZC.out.bec hcc)).mono ?_
  rintro e w3 ⟨lo, lc, T1, U1, rfl, hch1, h3⟩
  have H03 : Hid (Below w0.heap.size w0 w3) := below_then H02.out h3
  have HCH1 : Hid (Chs w2.heap.size w3 lo n1 lc D1 T1 (fun _ => m) U1 H1) := hch1
  have H23 : Hid (Below w2.heap.size w2 w3) := h3
  clear s0 s1 s2 s3 hch1 h3
  obtain ⟨s0, s1, s2, s3⟩ := HPAR.out w3 H03.out
  have BW3 : Hid (Below w.heap.size w w3) := below_then B0.out.1 H03.out
  go_wp2_with fail
  refine (RC.out.2 w3 _ _ _ _ (HO.out w3 BW3.out) (HM.out w3 BW3.out)).mono ?_
  rintro e w4 ⟨ro, rc, T3, U3, rfl, hch3, h4⟩
  have H04 : Hid (Below w0.heap.size w0 w4) := below_then H03.out h4
  have HCH3 : Hid (Chr w3.heap.size w4 ro n1 rc D1 T3 (fun _ => m) U3 H1) := hch3
  have H34 : Hid (Below w3.heap.size w3 w4) := h4
  clear s0 s1 s2 s3 hch3 h4
  obtain ⟨s0, s1, s2, s3⟩ := HPAR.out w4 H04.out
  have B24 : Hid (Below w2.heap.size w2 w4) := below_then H23.out H34.out
  go_wp2_with fail
  refine (HU.out.2 w4 _ _ _ _ ((HZB.out.below B24.out).bec hcb) ((HZC.out.below B24.out).bec hcc)).mono ?_
  rintro e w5 ⟨mo2, mc2, T2, U2, rfl, hch2, h5⟩
  have H05 : Hid (Below w0.heap.size w0 w5) := below_then H04.out h5
  have HCH2 : Hid (Chs w4.heap.size w5 mo2 n2 mc2 D2 T2 (fun _ => m) U2 H2) := hch2
  have H45 : Hid (Below w4.heap.size w4 w5) := h5
  clear s0 s1 s2 s3 hch2 h5
  obtain ⟨s0, s1, s2, s3⟩ := HPAR.out w5 H05.out
  have BW5 : Hid (Below w.heap.size w w5) := below_then B0.out.1 H05.out
  go_wp2_with fail
  refine (RU.out.2 w5 _ _ _ _ (HO.out w5 BW5.out) (HM.out w5 BW5.out)).mono ?_
  rintro e w6 ⟨uo, uc, T4, U4, rfl, hch4, h6⟩
  have H06 : Hid (Below w0.heap.size w0 w6) := below_then H05.out h6
  have HCH4 : Hid (Chr w5.heap.size w6 uo n2 uc D2 T4 (fun _ => m) U4 H2) := hch4
  have H56 : Hid (Below w5.heap.size w5 w6) := h6
  clear s0 s1 s2 s3 hch4 h6
  have B36 : Hid (Below w3.heap.size w3 w6) := below_then H34.out (below_then H45.out H56.out)
  have B46 : Hid (Below w4.heap.size w4 w6) := below_then H45.out H56.out
  have HSA := same_any w6 lo ro n1 lc rc D1 T1 T3 m U1 U3 H1 hn1 (HCH1.out.below B36.out).rch (HCH3.out.below B46.out).rch
  have q1 : (E == E) = true := by simp
  have q2 : (G == G) = true := by simp
  go_wp2_with fail
  refine HSA.mono ?_
  rintro e w7 ⟨rfl, h7⟩
  have H67 : Hid (Below w6.heap.size w6 w7) := h7
  clear HSA h7
  have HSB := same_any w7 mo2 uo n2 mc2 uc D2 T2 T4 m U2 U4 H2 hn2 (HCH2.out.below (below_then H56.out H67.out)).rch (HCH4.out.below H67.out).rch
  go_wp2_with fail
  refine HSB.mono ?_
  rintro e w8 ⟨rfl, h8⟩
  have H68 : Hid (Below w6.heap.size w6 w8) := below_then H67.out h8
  clear HSB h8
  have B58 : Hid (Below w5.heap.size w5 w8) := below_then H56.out H68.out
  have B48 : Hid (Below w4.heap.size w4 w8) := below_then H45.out B58.out
  have B38 : Hid (Below w3.heap.size w3 w8) := below_then H34.out B48.out
  have HY1 : Hid (∀ v, Below w3.heap.size w3 v → Chs w2.heap.size v lo n1 lc D1 T1 (fun _ => m) U1 H1) := fun v hv => HCH1.out.below hv
  have HC18 : Hid (Chs w2.heap.size w8 lo n1 lc D1 T1 (fun _ => m) U1 H1) := HY1.out w8 B38.out
  have HC28 : Hid (Chs w4.heap.size w8 mo2 n2 mc2 D2 T2 (fun _ => m) U2 H2) := HCH2.out.below B58.out
  have HC38 : Hid (Chr w3.heap.size w8 ro n1 rc D1 T3 (fun _ => m) U3 H1) := HCH3.out.below B48.out
  have B28 : Hid (Below w2.heap.size w2 w8) := below_then H23.out B38.out
  have HZB8 : Hid (Bz w8 wa.heap.size on O) := HZB.out.below B28.out
  have HZC8 : Hid (Bz w8 w1.heap.size mn M) := HZC.out.below B28.out
  have HSS : Hid (w2.heap.size ≤ w3.heap.size ∧ w3.heap.size ≤ w4.heap.size ∧ w4.heap.size ≤ w5.heap.size ∧ w5.heap.size ≤ w8.heap.size) := ⟨H23.out.size, H34.out.size, H45.out.size, B58.out.size⟩
  obtain ⟨X1, hX1⟩ : ∃ X : Nat → Prop, X = fun b => w2.heap.size ≤ b ∧ b < w3.heap.size := ⟨_, rfl⟩
  obtain ⟨X2, hX2⟩ : ∃ X : Nat → Prop, X = fun b => w4.heap.size ≤ b ∧ b < w5.heap.size := ⟨_, rfl⟩
  have HX1I : Hid (∀ b, X1 b ↔ w2.heap.size ≤ b ∧ b < w3.heap.size) := by rw [hX1]; exact fun b => Iff.rfl
  have HX2I : Hid (∀ b, X2 b ↔ w4.heap.size ≤ b ∧ b < w5.heap.size) := by rw [hX2]; exact fun b => Iff.rfl
  have HX1 : Hid (∀ j, j < n1 → ∀ a : Addr, T1 j = some a → X1 a.block) := fun j hj a ha => (HX1I.out _).2 ⟨(owns_at (HCH1.out.row j hj) ha).1, (owns_at (HCH1.out.row j hj) ha).2.1⟩
  have HX2 : Hid (∀ j, j < n2 → ∀ a : Addr, T2 j = some a → X2 a.block) := fun j hj a ha => (HX2I.out _).2 ⟨(owns_at (HCH2.out.row j hj) ha).1, (owns_at (HCH2.out.row j hj) ha).2.1⟩
  have HX1G : Hid (∀ g, lo = some ⟨g, 0, none⟩ → X1 g) := fun g e => (HX1I.out _).2 ⟨(owns_at HCH1.out.out e).1, (owns_at HCH1.out.out e).2.1⟩
  have HX2G : Hid (∀ g, mo2 = some ⟨g, 0, none⟩ → X2 g) := fun g e => (HX2I.out _).2 ⟨(owns_at HCH2.out.out e).1, (owns_at HCH2.out.out e).2.1⟩
  clear hX1 hX2 q1 q2
  go_wp2_with fail
  go_loopw [21] (fun y wr => ∃ i : Nat, i ≤ n1 ∧ y = .int .i64 (i : Int) ∧ Hid (Only X1 w8 wr) ∧ Hid (0 < n1 → ∃ g, lo = some ⟨g, 0, none⟩ ∧ Spl X1 w2.heap.size w8 wr g n1 lc D1 T1 m U1 i)) (fun y _ => n1 - (intOf y).toNat)
  case atStart =>
    refine ⟨0, Nat.zero_le _, rfl, Only.refl _ _, fun hp => ?_⟩
    obtain ⟨g, e, _⟩ := HC18.out.cells hp
    have hh := HC18.out
    rw [e] at hh
    exact ⟨g, e, ⟨⟨T1, _, U1, hh.out, fun j _ _ => ⟨rfl, rfl, rfl⟩⟩, fun j _ hj => by
      obtain ⟨d, e2, _, _⟩ := (hh.row j hj).at_ hm
      have h1 := hh.row j hj
      rw [e2] at h1
      exact ⟨d, _, e2, HX1.out j hj _ e2, h1⟩, Only.refl _ _, HX1G.out g e⟩⟩
  case round =>
    obtain ⟨i, hi, rfl, honly, hspl⟩ := hrel
    by_cases hlt : i < n1
    · obtain ⟨g, rfl, hs⟩ := hspl.out (by omega)
      have HS0 : Hid (Spl X1 w2.heap.size w8 wr g n1 lc D1 T1 m U1 i) := hs
      obtain ⟨d, G0, hd, hxd, ho⟩ := hs.row i (Nat.le_refl _) hlt
      have HD : Hid (T1 i = some ⟨d, 0, none⟩) := hd
      have HAP : Hid (∀ j, i < j → j < n1 → ∀ a, T1 j = some a → d ≠ a.block) := fun j hj hn a ha => HC18.out.apart i j hj hn ⟨d, 0, none⟩ a hd ha
      have i1 : (0 : Int) ≤ (i : Int) := by omega
      have i2 : (i : Int) < (n1 : Int) := by omega
      have hum : m ≤ U1 i := ho.bec.room
      clear hs hd hxd ho hspl honly
      obtain ⟨wn, rfl⟩ : ∃ x, x = wr := ⟨wr, rfl⟩
      go_wp2_with fail
      go_loopw [22] (fun y wr => ∃ k : Nat, k ≤ m ∧ y = .int .i64 (k : Int) ∧ Hid (Spl X1 w2.heap.size w8 wr g n1 lc D1 T1 m U1 i)) (fun y _ => m - (intOf y).toNat)
      case atStart => exact ⟨0, Nat.zero_le _, rfl, HS0.out⟩
      case round =>
        obtain ⟨k, hk, rfl, hs⟩ := hrel
        have c1 := hs.out.cell (Nat.le_refl _) hlt
        rw [HD.out] at c1
        by_cases hkl : k < m
        · obtain ⟨d', G1, e', hxd, ho⟩ := hs.out.row i (Nat.le_refl _) hlt
          rw [HD.out] at e'
          cases e'
          have d1 := ho.cell hkl
          have z1 := ho.free k
          have k1 : (0 : Int) ≤ (k : Int) := by omega
          have k2 : (k : Int) < (m : Int) := by omega
          have HN : Hid (Spl X1 w2.heap.size w8 (wr.setCell ⟨d, k, none⟩ (.int .u8 99)) g n1 lc D1 T1 m U1 i) := hs.out.byte hlt HD.out HAP.out k 99
          clear ho hxd hs
          go_wp2_with fail
          go_roundw
          case rel => exact ⟨k + 1, by omega, by go_num, HN.out⟩
          case measure => simp [intOf]; omega
        · obtain rfl : k = m := by omega
          obtain ⟨d', G1, e', hxd, ho⟩ := hs.out.row i (Nat.le_refl _) hlt
          rw [HD.out] at e'
          cases e'
          have HOW : Hid (OwU w2.heap.size (wr.alloc (.cells #[.int .u8 98] 5)) (some ⟨d, 0, none⟩) k (U1 i) G1) := ho.below (below_alloc _ _)
          have HNEW : Hid (Bec (wr.alloc (.cells #[.int .u8 98] 5)) (some ⟨wr.heap.size, 0, none⟩) 1 1 (fun _ => 98)) := (Bk.own (B := 0) (show Bk (wr.alloc (.cells #[.int .u8 98] 5)) wr.heap.size 1 (fun _ => 98) from heap_alloc_new wr _) (Nat.zero_le _) (by decide)).bec
          have HSP : Hid (Spl X1 w2.heap.size w8 wr g n1 lc D1 T1 k U1 i) := hs.out
          have HSZ9 : Hid (w2.heap.size ≤ wr.heap.size) := by
            obtain ⟨T', L', U', hl, _⟩ := hs.out.out
            have := owns_at hl (a := ⟨g, 0, none⟩) rfl
            show _ ≤ _
            omega
          clear ho hxd hs
          go_wp2_with (at_builtin; refine wpList_append_bytes (by rfl) (.tmp 113) (.tmp 114) (by rfl) w2.heap.size k 1 (U1 i) 1 (some ⟨d, 0, none⟩) (some ⟨wr.heap.size, 0, none⟩) (byF k G1) (fun _ => 98) (by rfl) (by simp [Act.eval]) HOW.out HNEW.out (by omega) (by omega) (by have := HSZ9.out; simp; omega) ?_; intro ao' c' w' hown hgrow
                       obtain ⟨ha1, ha2, ha3⟩ := HSP.out.app hlt HD.out HAP.out (below_alloc _ _) hgrow ao' c' (k + 1)
                       have HN : Hid (Spl X1 w2.heap.size w8 (w'.setCell ⟨g, i * 2 + 1, none⟩ (.slice ao' (k + 1) c')) g n1 lc D1 T1 k U1 (i + 1)) := ha1
                       clear hown hgrow ha1)
          go_roundw
          case rel => exact ⟨i + 1, by omega, by go_num, HN.out.only, fun _ => ⟨g, rfl, HN.out⟩⟩
          case measure => simp [intOf]; omega
    · obtain rfl : n1 = i := by omega
      clear hspl
      obtain ⟨wm, rfl⟩ : ∃ x, x = wr := ⟨wr, rfl⟩
      have hss := HSS.out
      have ho1 := honly.out
      have HC2M : Hid (Chs w4.heap.size wm mo2 n2 mc2 D2 T2 (fun _ => m) U2 H2) := by
        have st : ∀ g, w4.heap.size ≤ g → g < w8.heap.size → wm.heap[g]? = w8.heap[g]? := fun g h1 h2 => ho1.block g h2 fun hx => by have := (HX1I.out g).1 hx; omega
        exact ⟨owns_blocks HC28.out.out fun a ha => st _ (owns_at HC28.out.out ha).1 (owns_at HC28.out.out ha).2.1, fun j hj => owns_blocks (HC28.out.row j hj) fun a ha => st _ (owns_at (HC28.out.row j hj) ha).1 (owns_at (HC28.out.row j hj) ha).2.1, HC28.out.apart⟩
      have HO1 : Hid (Only X1 w8 wm) := ho1
      clear honly ho1 hss
      go_wp2_with fail
      go_loopw [23] (fun y wr => ∃ i : Nat, i ≤ n2 ∧ y = .int .i64 (i : Int) ∧ Hid (Only X2 wm wr) ∧ Hid (0 < n2 → ∃ g, mo2 = some ⟨g, 0, none⟩ ∧ Spl X2 w4.heap.size wm wr g n2 mc2 D2 T2 m U2 i)) (fun y _ => n2 - (intOf y).toNat)
      case atStart =>
        refine ⟨0, Nat.zero_le _, rfl, Only.refl _ _, fun hp => ?_⟩
        obtain ⟨g, e, _⟩ := HC2M.out.cells hp
        have hh := HC2M.out
        rw [e] at hh
        exact ⟨g, e, ⟨⟨T2, _, U2, hh.out, fun j _ _ => ⟨rfl, rfl, rfl⟩⟩, fun j _ hj => by
          obtain ⟨d, e2, _, _⟩ := (hh.row j hj).at_ hm
          have h1 := hh.row j hj
          rw [e2] at h1
          exact ⟨d, _, e2, HX2.out j hj _ e2, h1⟩, Only.refl _ _, HX2G.out g e⟩⟩
      case round =>
        obtain ⟨i, hi, rfl, honly, hspl⟩ := hrel
        by_cases hlt : i < n2
        · obtain ⟨g, rfl, hs⟩ := hspl.out (by omega)
          have HS0 : Hid (Spl X2 w4.heap.size wm wr g n2 mc2 D2 T2 m U2 i) := hs
          obtain ⟨d, G0, hd, hxd, ho⟩ := hs.row i (Nat.le_refl _) hlt
          have HD : Hid (T2 i = some ⟨d, 0, none⟩) := hd
          have HAP : Hid (∀ j, i < j → j < n2 → ∀ a, T2 j = some a → d ≠ a.block) := fun j hj hn a ha => HC2M.out.apart i j hj hn ⟨d, 0, none⟩ a hd ha
          have i1 : (0 : Int) ≤ (i : Int) := by omega
          have i2 : (i : Int) < (n2 : Int) := by omega
          have hum : m ≤ U2 i := ho.bec.room
          clear hs hd hxd ho hspl honly
          obtain ⟨wn, rfl⟩ : ∃ x, x = wr := ⟨wr, rfl⟩
          go_wp2_with fail
          go_loopw [24] (fun y wr => ∃ k : Nat, k ≤ m ∧ y = .int .i64 (k : Int) ∧ Hid (Spl X2 w4.heap.size wm wr g n2 mc2 D2 T2 m U2 i)) (fun y _ => m - (intOf y).toNat)
          case atStart => exact ⟨0, Nat.zero_le _, rfl, HS0.out⟩
          case round =>
            obtain ⟨k, hk, rfl, hs⟩ := hrel
            have c1 := hs.out.cell (Nat.le_refl _) hlt
            rw [HD.out] at c1
            by_cases hkl : k < m
            · obtain ⟨d', G1, e', hxd, ho⟩ := hs.out.row i (Nat.le_refl _) hlt
              rw [HD.out] at e'
              cases e'
              have d1 := ho.cell hkl
              have z1 := ho.free k
              have k1 : (0 : Int) ≤ (k : Int) := by omega
              have k2 : (k : Int) < (m : Int) := by omega
              have HN : Hid (Spl X2 w4.heap.size wm (wr.setCell ⟨d, k, none⟩ (.int .u8 97)) g n2 mc2 D2 T2 m U2 i) := hs.out.byte hlt HD.out HAP.out k 97
              clear ho hxd hs
              go_wp2_with fail
              go_roundw
              case rel => exact ⟨k + 1, by omega, by go_num, HN.out⟩
              case measure => simp [intOf]; omega
            · obtain rfl : k = m := by omega
              obtain ⟨d', G1, e', hxd, ho⟩ := hs.out.row i (Nat.le_refl _) hlt
              rw [HD.out] at e'
              cases e'
              have HOW : Hid (OwU w4.heap.size (wr.alloc (.cells #[.int .u8 96] 5)) (some ⟨d, 0, none⟩) k (U2 i) G1) := ho.below (below_alloc _ _)
              have HNEW : Hid (Bec (wr.alloc (.cells #[.int .u8 96] 5)) (some ⟨wr.heap.size, 0, none⟩) 1 1 (fun _ => 96)) := (Bk.own (B := 0) (show Bk (wr.alloc (.cells #[.int .u8 96] 5)) wr.heap.size 1 (fun _ => 96) from heap_alloc_new wr _) (Nat.zero_le _) (by decide)).bec
              have HSP : Hid (Spl X2 w4.heap.size wm wr g n2 mc2 D2 T2 k U2 i) := hs.out
              have HSZ9 : Hid (w4.heap.size ≤ wr.heap.size) := by
                obtain ⟨T', L', U', hl, _⟩ := hs.out.out
                have := owns_at hl (a := ⟨g, 0, none⟩) rfl
                show _ ≤ _
                omega
              clear ho hxd hs
              go_wp2_with (at_builtin; refine wpList_append_bytes (by rfl) (.tmp 147) (.tmp 148) (by rfl) w4.heap.size k 1 (U2 i) 1 (some ⟨d, 0, none⟩) (some ⟨wr.heap.size, 0, none⟩) (byF k G1) (fun _ => 96) (by rfl) (by simp [Act.eval]) HOW.out HNEW.out (by omega) (by omega) (by have := HSZ9.out; simp; omega) ?_; intro ao' c' w' hown hgrow
                           obtain ⟨ha1, ha2, ha3⟩ := HSP.out.app hlt HD.out HAP.out (below_alloc _ _) hgrow ao' c' (k + 1)
                           have HN : Hid (Spl X2 w4.heap.size wm (w'.setCell ⟨g, i * 2 + 1, none⟩ (.slice ao' (k + 1) c')) g n2 mc2 D2 T2 k U2 (i + 1)) := ha1
                           clear hown hgrow ha1)
              go_roundw
              case rel => exact ⟨i + 1, by omega, by go_num, HN.out.only, fun _ => ⟨g, rfl, HN.out⟩⟩
              case measure => simp [intOf]; omega
        · obtain rfl : n2 = i := by omega
          clear hspl
          have hss := HSS.out
          have ho1 := HO1.out
          have ho2 := honly.out
          have st : ∀ b, b < w8.heap.size → ¬ X1 b → ¬ X2 b → wr.heap[b]? = w8.heap[b]? := fun b hb h1 h2 => (ho2.block b (Nat.lt_of_lt_of_le hb ho1.size) h2).trans (ho1.block b hb h1)
          have n1x : ∀ b, (w3.heap.size ≤ b ∧ b < w4.heap.size) ∨ b < w2.heap.size → ¬ X1 b ∧ ¬ X2 b := fun b hb => ⟨fun hx => by have := (HX1I.out b).1 hx; omega, fun hx => by have := (HX2I.out b).1 hx; omega⟩
          have HC39 : Hid (Chr w3.heap.size wr ro n1 rc D1 T3 (fun _ => m) U3 H1) := by
            have h0 := HCH3.out
            have key : ∀ g, w3.heap.size ≤ g → g < w4.heap.size → wr.heap[g]? = w4.heap[g]? := fun g h1 h2 => by
              obtain ⟨y1, y2⟩ := n1x g (.inl ⟨h1, h2⟩)
              exact (st g (by omega) y1 y2).trans (B48.out.block g h2)
            exact h0.stay key
          have low : ∀ b, b < w2.heap.size → wr.heap[b]? = w2.heap[b]? := fun b hb => by
            obtain ⟨y1, y2⟩ := n1x b (.inr hb)
            exact (st b (by omega) y1 y2).trans (B28.out.block b hb)
          have B2R : Hid (Below w2.heap.size w2 wr) := ⟨ho2.os.trans (ho1.os.trans B28.out.os), ho2.tape.trans (ho1.tape.trans B28.out.tape), ho2.output.trans (ho1.output.trans B28.out.output), Nat.le_trans B28.out.size (Nat.le_trans ho1.size ho2.size), low⟩
          have H0R : Hid (Below w0.heap.size w0 wr) := below_then H02.out B2R.out
          obtain ⟨s0, s1, s2, s3⟩ := HPAR.out wr H0R.out
          have HCA := HC.out.2 wr _ _ _ _ ((HZB.out.below B2R.out).bec hcb) ((HZC.out.below B2R.out).bec hcc)
          clear honly st n1x low ho1 ho2 hss
          go_wp2_with fail
          refine HCA.mono ?_
          rintro e wz ⟨zo, zc, T5, U5, rfl, hch5, hz⟩
          clear HCA s0 s1 s2 s3
          have B2Z : Hid (Below w2.heap.size w2 wz) := below_then B2R.out hz
          have BWZ : Hid (Below w.heap.size w wz) := below_then B0.out.1 (below_then H02.out B2Z.out)
          have y1 := conv_any ((HZB.out.below B2Z.out).bec hcb)
          have y2 := conv_any ((HZC.out.below B2Z.out).bec hcc)
          have y3 := conv_any (HO.out wz BWZ.out)
          have y4 := conv_any (HM.out wz BWZ.out)
          have HSA := same_any wz zo ro n1 zc rc D1 T5 T3 m U5 U3 H1 hn1 hch5.rch (HC39.out.below hz).rch
          clear hch5 hz
          go_wp2_with fail
          refine HSA.mono ?_
          rintro e w9 ⟨rfl, h9⟩
          clear HSA
          go_wp2_with fail
          go_ret
          exact ⟨rfl, below_then BWZ.out h9⟩
end Go.Proofs.Ytdnflninbnjdhaa
