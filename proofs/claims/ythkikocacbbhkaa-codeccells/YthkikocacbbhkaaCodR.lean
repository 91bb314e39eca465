/- What the document's own answers come to: whether a code may be, rows, whether cells are alike, the cells that data cells make. -/
import Derived.Test.YthkikocacbbhkaaCodM
import Derived.Test.YthkikocacbbhkaaMatY
namespace Go.Proofs.Ythkikocacbbhkaa
open Go.RowKit

theorem rmay_any (w : World) (k r : Int) : Calls Try.prog 30 #[.int .i64 k, .int .i64 r] w fun e w' => e = .returned (.bool (mayB k r)) ∧ w' = w := by
  by_cases h1 : 1 ≤ k
  · by_cases h2 : k ≤ 12
    · by_cases h3 : 0 ≤ r
      · by_cases h4 : r ≤ 4
        · rw [show mayB k r = true from decide_eq_true ⟨h1, h2, h3, h4⟩]
          go_enter Try.func30, Try.ntmps30
          go_wp2
          go_ret
          exact ⟨by simp, rfl⟩
        · rw [show mayB k r = false from decide_eq_false fun h => h4 h.2.2.2]
          go_enter Try.func30, Try.ntmps30
          go_wp2
          go_ret
          exact ⟨by simp, rfl⟩
      · rw [show mayB k r = false from decide_eq_false fun h => h3 h.2.2.1]
        go_enter Try.func30, Try.ntmps30
        go_wp2
        go_ret
        exact ⟨by simp, rfl⟩
    · rw [show mayB k r = false from decide_eq_false fun h => h2 h.2.1]
      go_enter Try.func30, Try.ntmps30
      go_wp2
      go_ret
      exact ⟨by simp, rfl⟩
  · rw [show mayB k r = false from decide_eq_false fun h => h1 h.1]
    go_enter Try.func30, Try.ntmps30
    go_wp2
    go_ret
    exact ⟨by simp, rfl⟩

set_option maxHeartbeats 1000000 in
set_option maxRecDepth 100000 in
theorem rRow_any (w : World) (k r c : Int) : Calls Try.prog 15 #[.int .i64 k, .int .i64 r, .int .i64 c] w (OneAns w (okRow k r c) 2 k.toNat (gen k.toNat c.toNat)) := by
  have HM := rmay_any w k r
  have bad : OneAns w false 2 k.toNat (gen k.toNat c.toNat) (.returned (.tuple #[.slice none 0 0, .int .i64 2])) w := ⟨none, 0, rfl, .inl ⟨rfl, rfl, rfl⟩, Below.refl _ _⟩
  cases hmay : mayB k r
  · rw [show okRow k r c = false by unfold okRow; rw [hmay]; rfl]
    rw [hmay] at HM
    clear hmay
    go_enter Try.func15, Try.ntmps15
    go_wp2_with (go_at_call 30; refine HM.mono ?_; rintro e w' ⟨rfl, rfl⟩)
    go_ret2
    exact bad
  · obtain ⟨h1, h2, h3, h4⟩ := mayB_true hmay
    rw [hmay] at HM
    by_cases h5 : 0 ≤ c
    · by_cases h6 : c < k + r
      · rw [show okRow k r c = true by unfold okRow; rw [hmay]; simp [h5, h6]]
        clear hmay bad
        obtain ⟨k, rfl⟩ := Int.eq_ofNat_of_zero_le (show 0 ≤ k by omega)
        obtain ⟨r, rfl⟩ := Int.eq_ofNat_of_zero_le (show 0 ≤ r by omega)
        obtain ⟨c, rfl⟩ := Int.eq_ofNat_of_zero_le h5
        rw [Int.toNat_natCast, Int.toNat_natCast]
        by_cases hck : c < k
        · have hmk := run_make_row' (P := Try.prog) 23 5 (.int .u8 0) 1 Try.underlying23 info5c rfl .i64 .i64 k (by omega) (by omega)
          have HO : Hid (Own (w.alloc (.cells (madeCells #[.int .u8 0] k) 5)) w.heap.size k k (fun _ => 0)) := ⟨Nat.le_refl _, by unfold maxLen; omega, _, row_made w 5 k _, fun i _ => rfl⟩
          obtain ⟨wa, hwa⟩ : ∃ wa, wa = w.alloc (.cells (madeCells #[.int .u8 0] k) 5) := ⟨_, rfl⟩
          have hmk2 := hmk w
          rw [← hwa] at hmk2 HO
          have ba : Below w.heap.size w wa := by rw [hwa]; exact below_alloc _ _
          have c1 := HO.out.cell (i := c) hck
          have z1 := HO.out.frozen c
          clear hwa hmk
          have i1 : (0 : Int) ≤ (c : Int) := by omega
          have i2 : (c : Int) < (k : Int) := by omega
          go_enter Try.func15, Try.ntmps15
          go_wp2_with (go_at_call 30; refine HM.mono ?_; rintro e w' ⟨rfl, hw'⟩; obtain rfl := hw'.symm)
          go_ret2
          have ho := HO.out.set c 1
          refine ⟨_, _, rfl, .inr ⟨w.heap.size, rfl, Nat.le_refl _, ho.lt, ho.congr fun i hi => ?_⟩, ba.trans (((Keeps.refl w.heap.size (w.heap.size + 1) wa).setCell (Nat.le_refl _) (by omega) c _).below ba.size (Nat.le_refl _))⟩
          rw [gen_one hck]
          unfold one
          by_cases e : i = c
          · rw [if_pos e, if_pos e.symm]
          · rw [if_neg e, if_neg (Ne.symm e)]
        · have CY := rcauchy_any w (k : Int) (r : Int)
          rw [show okN (k : Int) 12 = true from decide_eq_true (by omega), show okN (r : Int) 4 = true from decide_eq_true (by omega), Int.toNat_natCast, Int.toNat_natCast] at CY
          go_enter Try.func15, Try.ntmps15
          go_wp2_with fail
          refine HM.mono ?_
          rintro e w' ⟨rfl, hw'⟩
          obtain rfl := hw'.symm
          go_wp2_with fail
          refine CY.mono ?_
          intro e w2 hh
          obtain ⟨l, cl, G, U, rfl, hm, b2⟩ := mat_of hh (by omega)
          obtain ⟨q, hq⟩ : ∃ q, c = k + q := ⟨c - k, by omega⟩
          have HQ : Hid (c = k + q) := hq
          have hqr : q < r := by omega
          have ck := hm.cell_l hqr
          have i1 : (0 : Int) ≤ (c : Int) - (k : Int) := by omega
          have i2 : (c : Int) - (k : Int) < (r : Int) := by omega
          have i3 : ((c : Int) - (k : Int)).toNat = q := by omega
          have HO : Hid (Own w2 (G q) k (U q) (cau k q) ∧ w.heap.size ≤ G q) := ⟨hm.row q hqr, hm.los q hqr⟩
          clear hm hh CY hq
          go_wp2_with fail
          go_ret2
          refine ⟨_, _, rfl, .inr ⟨G q, rfl, HO.out.2, HO.out.1.lt, HO.out.1.congr fun i _ => ?_⟩, b2⟩
          rw [HQ.out, gen_cau]
      · rw [show okRow k r c = false by unfold okRow; simp [h6]]
        clear hmay
        go_enter Try.func15, Try.ntmps15
        go_wp2_with (go_at_call 30; refine HM.mono ?_; rintro e w' ⟨rfl, rfl⟩)
        go_ret2
        exact bad
    · rw [show okRow k r c = false by unfold okRow; simp [h5]]
      clear hmay
      go_enter Try.func15, Try.ntmps15
      go_wp2_with (go_at_call 30; refine HM.mono ?_; rintro e w' ⟨rfl, rfl⟩)
      go_ret2
      exact bad
theorem rrow_good (w : World) (k r c : Nat) (hk1 : 1 ≤ k) (hk : k ≤ 12) (hr : r ≤ 4) (hc : c < k + r) :
    Calls Try.prog 15 #[.int .i64 (k : Int), .int .i64 (r : Int), .int .i64 (c : Int)] w fun e w' => ∃ g u, e = .returned (.tuple #[.slice (some ⟨g, 0, none⟩) k u, .int .i64 0]) ∧ w.heap.size ≤ g ∧ Own w' g k u (gen k c) ∧ Below w.heap.size w w' := by
  have HR := rRow_any w k r c
  have h1 : okRow k r c = true := by
    unfold okRow
    rw [show mayB k r = true from decide_eq_true (by omega)]
    simp; omega
  rw [h1, Int.toNat_natCast, Int.toNat_natCast] at HR
  refine HR.mono ?_
  rintro e w' ⟨ao, cap, rfl, hs, hb⟩
  rcases hs with ⟨_, h0, _⟩ | ⟨g, rfl, hg, _, ho⟩
  · exact absurd (show k = 0 from h0) (by omega)
  · exact ⟨g, cap, rfl, hg, ho, hb⟩

set_option maxHeartbeats 2000000 in
set_option maxRecDepth 100000 in
theorem rmade_any (w : World) (k r a z m : Nat) (lo : Option Addr) (cl : Nat) (A : Nat → Option Addr) (C L : Nat → Nat) (D : M) (hk1 : 1 ≤ k) (hk : k ≤ 12) (hr : r ≤ 4) (hm1 : 1 ≤ m) (hm : m ≤ 65536) (haz : a + z ≤ k + r) (hl : Lst w lo k A C L D) (hL : ∀ i, i < k → L i = m) :
    Calls Try.prog 33 #[.int .i64 (k : Int), .int .i64 (r : Int), .int .i64 (a : Int), .int .i64 ((a : Int) + (z : Int)), .slice lo k cl] w fun e w' => ∃ ao cap T U, e = .returned (.slice ao z cap) ∧ Copied w' w.heap.size z (.slice ao z cap) T (fun _ => m) U (fun i => enc k D (a + i)) ∧ Below w.heap.size w w' := by
  obtain ⟨j0, hj, hj0, hj1, hj2⟩ := info_parts info23c
  have HL : Hid (Lst w lo k A C L D) := hl
  have HLL : Hid (∀ i, i < k → L i = m) := hL
  clear hl hL
  go_enter Try.func33, Try.ntmps33
  go_wp2
  go_loopw [11, 12] (fun v x wr => ∃ j : Nat, j ≤ z ∧ x = .int .i64 ((a : Int) + (j : Int)) ∧ (∃ ao cap, v = .slice ao j cap) ∧ Hid (∃ T U, Copied wr w.heap.size j v T (fun _ => m) U (fun i => enc k D (a + i))) ∧ Hid (Below w.heap.size w wr)) (fun _ x _ => a + z - (intOf x).toNat)
  case atStart => exact ⟨0, Nat.zero_le _, by simp, ⟨none, 0, rfl⟩, ⟨fun _ => none, fun _ => 0, Copied.start _ _ _ _ _ _⟩, Below.refl _ _⟩
  case round =>
    obtain ⟨j, hjz, rfl, ⟨ao, cap, rfl⟩, hcop, hbel⟩ := hrel
    by_cases hlt : j < z
    · obtain ⟨T, U, hcp⟩ := hcop.out
      have HCP : Hid (Copied wr w.heap.size j (.slice ao j cap) T (fun _ => m) U (fun i => enc k D (a + i))) := hcp
      have hws := hbel.out.size
      have HR := rrow_good wr k r (a + j) hk1 hk hr (by omega)
      rw [Int.natCast_add] at HR
      obtain ⟨XS, hXS⟩ : ∃ X, X = rowsOf j T (fun _ => m) U := ⟨_, rfl⟩
      have HXS : Hid (rowsOf j T (fun _ => m) U = XS) := hXS.symm
      have hlt' : (a : Int) + (j : Int) < (a : Int) + (z : Int) := by omega
      clear hcop hcp hXS
      go_wp2_with fail
      refine HR.mono ?_
      rintro e w1 ⟨g, u, rfl, hg, ho, b1⟩
      have HS := rdot_k w1 (some ⟨g, 0, none⟩) lo k u cl m (gen k (a + j)) A C L D hk1 (by omega) hm1 hm ho.rd ((HL.out.below hbel.out).below b1) HLL.out
      have B1 : Hid (Below wr.heap.size wr w1) := b1
      clear HR ho hg b1
      go_wp2_with fail
      refine HS.mono ?_
      rintro e w2 ⟨g2, rfl, hg2, ho2, hb2⟩
      have HO2 : Hid (Own w2 g2 m m (enc k D (a + j))) := ho2
      have HB2 : Hid (Below wr.heap.size wr w2) := below_step B1.out hb2 B1.out.size
      have hg2' : wr.heap.size ≤ g2 := Nat.le_trans B1.out.size hg2
      have HC2 : Hid (Copied w2 w.heap.size j (.slice ao j cap) T (fun _ => m) U (fun i => enc k D (a + i))) := HCP.out.stay (Stay.of_below HB2.out)
      have HOV : Hid (w2.ownsRow w.heap.size 23 1 (.slice ao j cap) j XS) := by rw [← HXS.out]; exact HC2.out.out
      have hs2 : w.heap.size ≤ w2.heap.size := Nat.le_trans hws HB2.out.size
      clear ho2 hb2 HS
      go_wp2_with (at_builtin; refine wpList_append_lies _ (by rfl) (.tmp 36) (.tmp 38) 24 (by rfl) w.heap.size 23 j0 (.slice none 0 0) 1 24 Try.underlying24 hj hj0 hj1 hj2 (by rfl) (by decide) (.slice ao j cap) j XS (by rfl) (HOV.out.alloc _) ⟨w2.heap.size, 0, none⟩ 1 1 [.slice (some ⟨g2, 0, none⟩) m m] (by rfl) (by rfl) (World.news_of_block (heap_alloc_new w2 _)) (by simp [Value.oneCell']) (by decide) (by unfold maxLen; omega) (by omega) (by simp; omega) (w2.heap.size + 1) (by simp) ?_; intro g3 cap3 w3 hown3 hgrow3 _ _)
      have HC3 : Hid (∃ T U, Copied w3 w.heap.size (j + 1) (.slice (some ⟨g3, 0, none⟩) (j + 1) cap3) T (fun _ => m) U (fun i => enc k D (a + i))) := by
        have hp := HC2.out.push (owns_base (own_owns HO2.out) (by omega)) (fun i a b hi ea eb => by
          have := HCP.out.old hi ea
          cases eb
          show a.block ≠ g2
          omega) hgrow3 (by rw [HXS.out]; exact hown3)
        exact ⟨_, _, hp.congr (fun _ _ => rfl) (fun i _ => put_self j i (fun _ => m)) (fun _ _ => rfl) (fun i _ => put_self j i (fun i => enc k D (a + i)))⟩
      have HB3 : Hid (Below w.heap.size w w3) := ((below_step hbel.out HB2.out hws).alloc hs2 _).grown hgrow3 (by simp; omega) (fun q hq => (HOV.out.lt q hq).1)
      clear hown3 hgrow3
      go_roundw
      case rel => exact ⟨j + 1, by omega, by go_num, ⟨_, _, rfl⟩, HC3, HB3⟩
      case measure => simp [intOf]; omega
    · obtain rfl : j = z := by omega
      have hnl : ¬ ((a : Int) + (j : Int) < (a : Int) + (j : Int)) := by omega
      go_wp2
      go_ret
      obtain ⟨T, U, hcp⟩ := hcop.out
      exact ⟨ao, cap, rfl, ⟨T, U, hcp⟩, hbel.out⟩


/-- The first n are good: alike, and none missing if none may be. -/
def goodTo (all : Bool) (L : Nat → Nat) (n : Nat) : Prop := okT L n = true ∧ (all = true → cnt L n = n)
theorem goodTo_first {all : Bool} {L : Nat → Nat} {n : Nat} (h : ¬ goodTo all L n) : ∃ q, q < n ∧ goodTo all L q ∧ ¬ goodTo all L (q + 1) := by
  induction n with
  | zero => exact absurd ⟨rfl, fun _ => rfl⟩ h
  | succ n ih =>
    by_cases g : goodTo all L n
    · exact ⟨n, by omega, g, h⟩
    · obtain ⟨q, h1, h2⟩ := ih g
      exact ⟨q, by omega, h2⟩
theorem goodTo_le {all : Bool} {L : Nat → Nat} {i n : Nat} (h : goodTo all L n) (hi : i ≤ n) : goodTo all L i := by
  refine ⟨okT_le h.1 hi, fun ha => ?_⟩
  have h1 := h.2 ha
  exact cnt_full fun j hj => fun e => by have := cnt_lt (show j < n by omega) e; omega
theorem goodTo_cell {all : Bool} {L : Nat → Nat} {i : Nat} (h : goodTo all L (i + 1)) (hz : L i ≠ 0) : L i ≤ 65536 ∧ L i = len0 L (i + 1) := okT_step h.1 (by omega) hz
theorem goodTo_zero {all : Bool} {L : Nat → Nat} {i : Nat} (h : goodTo all L (i + 1)) (hz : L i = 0) : all = false := by
  cases all
  · rfl
  · have := h.2 rfl; have := cnt_lt (show i < i + 1 by omega) hz; omega
theorem not_good {all : Bool} {L : Nat → Nat} {q : Nat} (h : goodTo all L q) (hn : ¬ goodTo all L (q + 1)) : (L q = 0 ∧ all = true) ∨ (L q ≠ 0 ∧ (65536 < L q ∨ (0 < cnt L q ∧ L q ≠ len0 L q))) := by
  by_cases hz : L q = 0
  · left
    refine ⟨hz, ?_⟩
    cases all
    · exact absurd ⟨okT_succ h.1 (.inl hz), fun e => by cases e⟩ hn
    · rfl
  · right
    refine ⟨hz, ?_⟩
    by_cases h1 : L q ≤ 65536
    · right
      by_cases h2 : L q = len0 L (q + 1)
      · exact absurd ⟨okT_succ h.1 (.inr ⟨h1, h2⟩), fun e => by rw [cnt_take hz, h.2 e]⟩ hn
      · rcases len0_sel L q with ⟨g1, g2⟩ | ⟨g1, g2, g3⟩
        · exact absurd (by rw [len0, if_pos g2]) h2
        · exact ⟨g1, fun e => h2 (by rw [len0, if_neg g3]; exact e)⟩
    · exact .inl (by omega)
theorem len0_skip {L : Nat → Nat} {n : Nat} (h : L n = 0) : len0 L (n + 1) = len0 L n := by
  rw [len0]
  by_cases e : len0 L n = 0
  · rw [if_pos e, h, e]
  · rw [if_neg e]
def okA (ll : Nat) (L : Nat → Nat) (many : Int) (all : Bool) : Bool := okC ll L many && (!all || decide (cnt L ll = ll))
def Alike (w : World) (ll : Nat) (L : Nat → Nat) (many : Int) (all : Bool) (e : Ending) (w' : World) : Prop := e = .returned (.tuple #[.int .i64 ((lenB (okA ll L many all) (cnt L ll) : Nat) : Int), .bool (okA ll L many all)]) ∧ w' = w
theorem okA_good {ll : Nat} {L : Nat → Nat} {all : Bool} : okA ll L (ll : Int) all = true ↔ goodTo all L ll := by
  unfold okA okC goodTo
  cases all <;> simp

set_option maxHeartbeats 2000000 in
set_option maxRecDepth 100000 in
theorem ralike_any (w : World) (lo : Option Addr) (ll cl : Nat) (A : Nat → Option Addr) (C L : Nat → Nat) (H : M) (many : Int) (all : Bool) (hm : many ≤ 16) (hl : Lst w lo ll A C L H) :
    Calls Try.prog 32 #[.slice lo ll cl, .int .i64 many, .bool all] w (Alike w ll L many all) := by
  have HL : Hid (Lst w lo ll A C L H) := hl
  clear hl
  by_cases hmany : (ll : Int) = many
  · subst hmany
    have hbq : ((ll : Int) != (ll : Int)) = false := by simp
    by_cases hgood : goodTo all L ll
    · have HOK : Hid (okA ll L (ll : Int) all = true) := okA_good.2 hgood
      have HG : Hid (goodTo all L ll) := hgood
      clear hgood
      go_enter Try.func32, Try.ntmps32
      go_wp2
      go_loop [8, 9, 10] (fun t g x => ∃ i : Nat, i ≤ ll ∧ x = .int .i64 i ∧ t = .int .i64 (cnt L i : Int) ∧ g = .int .i64 (len0 L i : Int)) (fun _ _ x => ll - (intOf x).toNat)
      case atStart => exact ⟨0, Nat.zero_le _, rfl, rfl, rfl⟩
      case round =>
        obtain ⟨i, hil, rfl, rfl, rfl⟩ := hrel
        by_cases hlt : i < ll
        · obtain ⟨b, off, rfl, hcl⟩ := HL.out.at_ (by omega)
          have ck := hcl i hlt
          have j1 : (0 : Int) ≤ (i : Int) := by omega
          have j2 : (i : Int) < (ll : Int) := by omega
          have hg1 := goodTo_le HG.out (show i + 1 ≤ ll by omega)
          have hcb := cnt_le L i
          by_cases hz : L i = 0
          · have hall := goodTo_zero hg1 hz
            rw [hz] at ck
            have HS : Hid (cnt L (i + 1) = cnt L i ∧ len0 L (i + 1) = len0 L i) := ⟨cnt_skip hz, len0_skip hz⟩
            subst hall
            clear hcl hz hg1
            go_wp2
            go_round
            case rel => exact ⟨i + 1, by omega, by go_num, by rw [HS.out.1], by rw [HS.out.2]⟩
            case measure => simp [intOf]; omega
          · obtain ⟨hle, heq⟩ := goodTo_cell hg1 hz
            have HS : Hid (cnt L (i + 1) = cnt L i + 1 ∧ len0 L (i + 1) = L i) := ⟨cnt_take hz, heq.symm⟩
            have hlp : 0 < L i := by omega
            rcases len0_sel L i with ⟨g1, g2⟩ | ⟨g1, g2, g3⟩
            · rw [g1, g2]
              have HC : Hid (cnt L i = 0) := g1
              clear hcl hz hg1 heq g1 g2
              go_wp2
              go_round
              case rel => exact ⟨i + 1, by omega, by go_num, by rw [HS.out.1, HC.out]; rfl, by rw [HS.out.2]⟩
              case measure => simp [intOf]; omega
            · have hLe : L i = len0 L i := by rw [heq, len0, if_neg g3]
              rw [← hLe]
              have hbn : ((L i : Int) != (L i : Int)) = false := by simp
              have hcp : (0 : Int) < (cnt L i : Int) := by omega
              clear hcl hz hg1 heq g2 g3 hLe
              go_wp2
              go_round
              case rel => exact ⟨i + 1, by omega, by go_num, by rw [HS.out.1]; go_num, by rw [HS.out.2]⟩
              case measure => simp [intOf]; omega
        · obtain rfl : i = ll := by omega
          go_wp2
          go_ret2
          exact ⟨by rw [HOK.out]; rfl, rfl⟩
    · have HOK : Hid (okA ll L (ll : Int) all = false) := by show _ = _; rw [← Bool.not_eq_true]; exact fun h => hgood (okA_good.1 h)
      obtain ⟨q, hq, hq1, hq2⟩ := goodTo_first hgood
      have HG : Hid (goodTo all L q) := hq1
      have HN : Hid ((L q = 0 ∧ all = true) ∨ (L q ≠ 0 ∧ (65536 < L q ∨ (0 < cnt L q ∧ L q ≠ len0 L q)))) := not_good hq1 hq2
      clear hgood hq1 hq2
      go_enter Try.func32, Try.ntmps32
      go_wp2
      go_loop [8, 9, 10] (fun t g x => ∃ i : Nat, i ≤ q ∧ x = .int .i64 i ∧ t = .int .i64 (cnt L i : Int) ∧ g = .int .i64 (len0 L i : Int)) (fun _ _ x => ll - (intOf x).toNat)
      case atStart => exact ⟨0, Nat.zero_le _, rfl, rfl, rfl⟩
      case round =>
        obtain ⟨i, hil, rfl, rfl, rfl⟩ := hrel
        have hlt : i < ll := by omega
        obtain ⟨b, off, rfl, hcl⟩ := HL.out.at_ (by omega)
        have ck := hcl i hlt
        have j1 : (0 : Int) ≤ (i : Int) := by omega
        have j2 : (i : Int) < (ll : Int) := by omega
        have hcb := cnt_le L i
        by_cases hiq : i < q
        · have hg1 := goodTo_le HG.out (show i + 1 ≤ q by omega)
          by_cases hz : L i = 0
          · have hall := goodTo_zero hg1 hz
            rw [hz] at ck
            have HS : Hid (cnt L (i + 1) = cnt L i ∧ len0 L (i + 1) = len0 L i) := ⟨cnt_skip hz, len0_skip hz⟩
            subst hall
            clear hcl hz hg1
            go_wp2
            go_round
            case rel => exact ⟨i + 1, by omega, by go_num, by rw [HS.out.1], by rw [HS.out.2]⟩
            case measure => simp [intOf]; omega
          · obtain ⟨hle, heq⟩ := goodTo_cell hg1 hz
            have HS : Hid (cnt L (i + 1) = cnt L i + 1 ∧ len0 L (i + 1) = L i) := ⟨cnt_take hz, heq.symm⟩
            have hlp : 0 < L i := by omega
            rcases len0_sel L i with ⟨g1, g2⟩ | ⟨g1, g2, g3⟩
            · rw [g1, g2]
              have HC : Hid (cnt L i = 0) := g1
              clear hcl hz hg1 heq g1 g2
              go_wp2
              go_round
              case rel => exact ⟨i + 1, by omega, by go_num, by rw [HS.out.1, HC.out]; rfl, by rw [HS.out.2]⟩
              case measure => simp [intOf]; omega
            · have hLe : L i = len0 L i := by rw [heq, len0, if_neg g3]
              rw [← hLe]
              have hbn : ((L i : Int) != (L i : Int)) = false := by simp
              have hcp : (0 : Int) < (cnt L i : Int) := by omega
              clear hcl hz hg1 heq g2 g3 hLe
              go_wp2
              go_round
              case rel => exact ⟨i + 1, by omega, by go_num, by rw [HS.out.1]; go_num, by rw [HS.out.2]⟩
              case measure => simp [intOf]; omega
        · obtain rfl : i = q := by omega
          rcases HN.out with ⟨hz, hall⟩ | ⟨hz, hbig | ⟨hc0, hne⟩⟩
          · rw [hz] at ck
            subst hall
            clear hcl hz
            go_wp2
            go_ret2
            exact ⟨by rw [HOK.out]; rfl, rfl⟩
          · have hlp : 0 < L i := by omega
            clear hcl hz
            go_wp2
            go_ret2
            exact ⟨by rw [HOK.out]; rfl, rfl⟩
          · have hlp : 0 < L i := by omega
            have hcp : (0 : Int) < (cnt L i : Int) := by omega
            have hbn : ((L i : Int) != (len0 L i : Int)) = true := by simp; omega
            clear hcl hz hne
            by_cases hle : L i ≤ 65536
            · go_wp2
              go_ret2
              exact ⟨by rw [HOK.out]; rfl, rfl⟩
            · have hbig : 65536 < L i := by omega
              go_wp2
              go_ret2
              exact ⟨by rw [HOK.out]; rfl, rfl⟩
  · have hbq : ((ll : Int) != many) = true := by simp [hmany]
    have HOK : Hid (okA ll L many all = false) := by show _ = _; unfold okA okC; rw [decide_eq_false hmany]; rfl
    clear hmany
    go_enter Try.func32, Try.ntmps32
    go_wp2
    go_ret2
    exact ⟨by rw [HOK.out]; rfl, rfl⟩


theorem okA_enc (ll : Nat) (L : Nat → Nat) (k : Int) : okA ll L k true = (okC ll L k && decide (k ≤ (cnt L ll : Int))) := by
  unfold okA
  cases h : okC ll L k
  · rfl
  · obtain ⟨h1, _⟩ := okC_true h
    have := cnt_le L ll
    simp only [Bool.true_and, Bool.not_true, Bool.false_or]
    apply decide_eq_decide.2
    omega
theorem okA_dec (ll : Nat) (L : Nat → Nat) (k : Int) : okA ll L k false = okC ll L k := by unfold okA; simp

set_option maxHeartbeats 1000000 in
set_option maxRecDepth 100000 in
theorem rEncode_any (w : World) (k r : Int) (lo : Option Addr) (ll cl : Nat) (A : Nat → Option Addr) (C L : Nat → Nat) (H : M) (hl : Lst w lo ll A C L H) :
    Calls Try.prog 16 #[.int .i64 k, .int .i64 r, .slice lo ll cl] w (Out w (okEnc ll L k r) (errE (mayB k r) (okEnc ll L k r)) r.toNat (len0 L ll) (par k.toNat H)) := by
  have HM := rmay_any w k r
  cases hmay : mayB k r
  · rw [show okEnc ll L k r = false by unfold okEnc; rw [hmay]; rfl]
    rw [hmay] at HM
    clear hmay
    go_enter Try.func16, Try.ntmps16
    go_wp2_with (go_at_call 30; refine HM.mono ?_; rintro e w' ⟨rfl, rfl⟩)
    go_ret2
    exact Out.no (Below.refl _ _)
  · obtain ⟨h1, h2, h3, h4⟩ := mayB_true hmay
    rw [hmay] at HM
    have HT := ralike_any w lo ll cl A C L H k true (by omega) hl
    unfold Alike at HT
    have hE : okEnc ll L k r = okA ll L k true := by unfold okEnc; rw [hmay, Bool.true_and, okA_enc]
    cases hoa : okA ll L k true
    · have HOK : Hid (okEnc ll L k r = false) := by show _ = _; rw [hE, hoa]
      rw [hoa] at HT
      clear hmay hoa hl hE
      go_enter Try.func16, Try.ntmps16
      go_wp2_with (first | (go_at_call 30; refine HM.mono ?_; rintro e w' ⟨rfl, hw'⟩; obtain rfl := hw'.symm) | (go_at_call 32; refine HT.mono ?_; rintro e w' ⟨rfl, hw'⟩; obtain rfl := hw'.symm))
      go_ret2
      rw [HOK.out]
      exact Out.no (Below.refl _ _)
    · have hok : okEnc ll L k r = true := by rw [hE, hoa]
      have HOK : Hid (okEnc ll L k r = true) := hok
      rw [hoa] at HT
      obtain ⟨_, q2, q3⟩ := okEnc_true hok
      obtain ⟨hll, hokT⟩ := okC_true q2
      subst hll
      obtain ⟨r, rfl⟩ := Int.eq_ofNat_of_zero_le h3
      obtain ⟨m1, m2, m3⟩ := alike_of hokT (by omega)
      have hLm : ∀ i, i < ll → L i = len0 L ll := fun i hi => (m3 i hi).resolve_left (all_there (by omega) i hi)
      have HMD := rmade_any w ll r ll r (len0 L ll) lo cl A C L H (by omega) (by omega) (by omega) m1 m2 (by omega) hl hLm
      rw [Int.toNat_natCast, Int.toNat_natCast]
      clear hmay hoa hl hE hok q2 q3 hokT m3 hLm
      go_enter Try.func16, Try.ntmps16
      go_wp2_with (first | (go_at_call 30; refine HM.mono ?_; rintro e w' ⟨rfl, hw'⟩; obtain rfl := hw'.symm) | (go_at_call 32; refine HT.mono ?_; rintro e w' ⟨rfl, hw'⟩; obtain rfl := hw'.symm) | (go_at_call 33; refine HMD.mono ?_; rintro e w2 ⟨ao2, cap2, T, U, rfl, hcop, b2⟩))
      go_ret2
      rw [HOK.out]
      exact ⟨ao2, cap2, T, U, rfl, hcop, b2⟩

set_option maxHeartbeats 4000000 in
set_option maxRecDepth 100000 in
theorem rDecode_any (w : World) (k r : Int) (lo : Option Addr) (ll cl : Nat) (A : Nat → Option Addr) (C L : Nat → Nat) (H : M) (hl : Lst w lo ll A C L H) :
    Calls Try.prog 17 #[.int .i64 k, .int .i64 r, .slice lo ll cl] w (Out w (okDec ll L k r) (errD (mayB k r) (okC ll L (k + r)) (okDec ll L k r)) (k.toNat + r.toNat) (len0 L ll) (enc k.toNat (dec k.toNat (sel L ll) H))) := by
  have HM := rmay_any w k r
  cases hmay : mayB k r
  · rw [show okDec ll L k r = false by unfold okDec; rw [hmay]; rfl]
    rw [hmay] at HM
    clear hmay
    go_enter Try.func17, Try.ntmps17
    go_wp2_with (go_at_call 30; refine HM.mono ?_; rintro e w' ⟨rfl, rfl⟩)
    go_ret2
    exact Out.no (Below.refl _ _)
  · obtain ⟨h1, h2, h3, h4⟩ := mayB_true hmay
    rw [hmay] at HM
    have HT := ralike_any w lo ll cl A C L H (k + r) false (by omega) hl
    unfold Alike at HT
    rw [okA_dec] at HT
    cases hoc : okC ll L (k + r)
    · have HOK : Hid (okDec ll L k r = false) := by show _ = _; unfold okDec; rw [hoc, Bool.false_and, Bool.and_false]
      rw [hoc] at HT
      clear hmay hoc hl
      go_enter Try.func17, Try.ntmps17
      go_wp2_with (first | (go_at_call 30; refine HM.mono ?_; rintro e w' ⟨rfl, hw'⟩; obtain rfl := hw'.symm) | (go_at_call 32; refine HT.mono ?_; rintro e w' ⟨rfl, hw'⟩; obtain rfl := hw'.symm))
      go_ret2
      rw [HOK.out]
      exact Out.no (Below.refl _ _)
    · obtain ⟨hll, hokT⟩ := okC_true hoc
      obtain ⟨k, rfl⟩ := Int.eq_ofNat_of_zero_le (show 0 ≤ k by omega)
      obtain ⟨r, rfl⟩ := Int.eq_ofNat_of_zero_le h3
      obtain rfl : ll = k + r := by omega
      clear hll
      rw [Int.toNat_natCast, Int.toNat_natCast]
      rw [hoc] at HT
      obtain ⟨cn, hcn⟩ : ∃ cn, cn = cnt L (k + r) := ⟨_, rfl⟩
      rw [← hcn, show lenB true cn = cn from rfl] at HT
      by_cases hck : cn < k
      · have HOK : Hid (okDec (k + r) L k r = false) := by show _ = _; unfold okDec; rw [show decide ((k : Int) ≤ (cnt L (k + r) : Int)) = false from decide_eq_false (by omega), Bool.and_false, Bool.and_false]
        have hci : (cn : Int) < (k : Int) := by omega
        clear hmay hoc hl hokT hcn
        go_enter Try.func17, Try.ntmps17
        go_wp2_with (first | (go_at_call 30; refine HM.mono ?_; rintro e w' ⟨rfl, hw'⟩; obtain rfl := hw'.symm) | (go_at_call 32; refine HT.mono ?_; rintro e w' ⟨rfl, hw'⟩; obtain rfl := hw'.symm))
        go_ret2
        rw [HOK.out]
        exact Out.no (Below.refl _ _)
      · have HOK : Hid (okDec (k + r) L k r = true) := by show _ = _; unfold okDec; rw [hmay, hoc, show decide ((k : Int) ≤ (cnt L (k + r) : Int)) = true from decide_eq_true (by omega)]; rfl
        obtain ⟨m1, m2, m3⟩ := alike_of hokT (by omega)
        obtain ⟨m, hm⟩ : ∃ m, m = len0 L (k + r) := ⟨_, rfl⟩
        rw [← hm] at m1 m2 m3 ⊢
        have HLm : Hid (∀ i, i < k + r → L i = 0 ∨ L i = m) := m3
        have HSEL : Hid (Sel L (k + r) cn (sel L (k + r))) := by rw [hcn]; exact sel_is L (k + r)
        have HAT : Hid (∀ i, i < k + r → L i ≠ 0 → sel L (k + r) (cnt L i) = i) := fun i hi hz => sel_at hi hz
        have HCN : Hid (cnt L (k + r) = cn) := hcn.symm
        obtain ⟨R, hR⟩ : ∃ R, R = sel L (k + r) := ⟨_, rfl⟩
        rw [← hR] at HSEL HAT ⊢
        obtain ⟨j0, hj, hj0, hj1, hj2⟩ := info_parts info23c
        have HL : Hid (Lst w lo (k + r) A C L H) := hl
        obtain ⟨bl, ol, rfl, hcl⟩ := hl.at_ (by omega)
        have HCL : Hid (∀ i, i < k + r → w.cell? ⟨bl, ol + i, none⟩ = some (.slice (A i) (L i) (C i))) := hcl
        have hci : ¬ ((cn : Int) < (k : Int)) := by omega
        clear hmay hoc hl hokT m3 hcn hm hR hcl
        go_enter Try.func17, Try.ntmps17
        go_wp2_with (first | (go_at_call 30; refine HM.mono ?_; rintro e w' ⟨rfl, hw'⟩; obtain rfl := hw'.symm) | (go_at_call 32; refine HT.mono ?_; rintro e w' ⟨rfl, hw'⟩; obtain rfl := hw'.symm))
        go_loopw [10, 11, 12] (fun v u x wr => ∃ i : Nat, i ≤ k + r ∧ x = .int .i64 i ∧ cnt L i ≤ k ∧ (∃ a1 c1, v = .slice a1 (cnt L i) c1) ∧ (∃ a2 c2, u = .slice a2 (cnt L i) c2) ∧ Hid (∃ G U, Picked wr w.heap.size k m (cnt L i) v u G U A C R) ∧ Hid (Below w.heap.size w wr)) (fun _ _ x _ => k + r - (intOf x).toNat)
        case atStart => exact ⟨0, Nat.zero_le _, rfl, Nat.zero_le _, ⟨none, 0, rfl⟩, ⟨none, 0, rfl⟩, ⟨_, _, Picked.start _ _ _ _ _ _ _⟩, Below.refl _ _⟩
        case round =>
          obtain ⟨i, hil, rfl, hck2, ⟨a1, c1, rfl⟩, ⟨a2, c2, rfl⟩, hpick, hbel⟩ := hrel
          obtain ⟨t, ht⟩ : ∃ t, t = cnt L i := ⟨_, rfl⟩
          rw [← ht] at hpick hck2 ⊢
          by_cases hgo : i < k + r ∧ t < k
          · obtain ⟨hg1, hg2⟩ := hgo
            have hws := hbel.out.size
            have ck := held (HCL.out i hg1) hbel.out
            have i1 : (0 : Int) ≤ (i : Int) := by omega
            have i2 : (i : Int) < (k : Int) + (r : Int) := by omega
            have i3 : (t : Int) < (k : Int) := by omega
            by_cases hz : L i = 0
            · rw [hz] at ck
              have HCT : Hid (cnt L (i + 1) = t) := by show _ = _; rw [cnt_skip hz, ht]
              clear hz ht
              go_wp2
              go_roundw
              case rel => exact ⟨i + 1, by omega, by go_num, by rw [HCT.out]; omega, ⟨a1, c1, by rw [HCT.out]⟩, ⟨a2, c2, by rw [HCT.out]⟩, by rw [HCT.out]; exact hpick, hbel⟩
              case measure => simp [intOf]; omega
            · have HCT : Hid (cnt L (i + 1) = t + 1) := by show _ = _; rw [cnt_take hz, ht]
              have hLi : L i = m := (HLm.out i hg1).resolve_left hz
              have HRT : Hid (R t = i) := by show _ = _; rw [ht]; exact HAT.out i hg1 hz
              have hmp : (0 : Int) < (m : Int) := by omega
              rw [hLi] at ck
              obtain ⟨G, U, hp⟩ := hpick.out
              have HP : Hid (Picked wr w.heap.size k m t (.slice a1 t c1) (.slice a2 t c2) G U A C R) := hp
              have HR := rrow_good wr k r i (by omega) (by omega) (by omega) hg1
              obtain ⟨XS, hXS⟩ : ∃ X, X = rowsOf t (fun s => some ⟨G s, 0, none⟩) (fun _ => k) U := ⟨_, rfl⟩
              have HXS : Hid (rowsOf t (fun s => some ⟨G s, 0, none⟩) (fun _ => k) U = XS) := hXS.symm
              obtain ⟨YS, hYS⟩ : ∃ Y, Y = rowsOf t (fun s => A (R s)) (fun _ => m) (fun s => C (R s)) := ⟨_, rfl⟩
              have HYS : Hid (rowsOf t (fun s => A (R s)) (fun _ => m) (fun s => C (R s)) = YS) := hYS.symm
              have dq := HCL.out i hg1
              rw [hLi] at dq
              clear hz ht hLi hpick hp hXS hYS
              go_wp2_with (first
                | (go_at_call 15; refine HR.mono ?_; rintro e w1 ⟨g, u, rfl, hg, ho, bb1⟩
                   have S1 : Hid (Stay wr w1) := Stay.of_below bb1
                   have HP1 : Hid (Picked w1 w.heap.size k m t (.slice a1 t c1) (.slice a2 t c2) G U A C R) := HP.out.stay S1.out
                   have HO1 : Hid (Own w1 g k u (gen k (R t))) := (by rw [HRT.out]; exact ho)
                   have HB1 : Hid (Below w.heap.size w w1) := below_step hbel.out bb1 hws
                   have HOV : Hid (w1.ownsRow w.heap.size 23 1 (.slice a1 t c1) t XS) := (by rw [← HXS.out]; exact HP1.out.rows)
                   have HOU : Hid (w1.ownsRow w.heap.size 23 1 (.slice a2 t c2) t YS) := (by rw [← HYS.out]; exact HP1.out.cells)
                   have hs1 : w.heap.size ≤ w1.heap.size := HB1.out.size
                   clear hg ho bb1)
                | (at_builtin; refine wpList_append_lies _ (by rfl) (.tmp 64) (.tmp 66) 24 (by rfl) w.heap.size 23 j0 (.slice none 0 0) 1 24 Try.underlying24 hj hj0 hj1 hj2 (by rfl) (by decide) (.slice a1 t c1) t XS (by rfl) (HOV.out.alloc _) ⟨w1.heap.size, 0, none⟩ 1 1 [.slice (some ⟨g, 0, none⟩) k u] (by rfl) (by rfl) (World.news_of_block (heap_alloc_new w1 _)) (by simp [Value.oneCell']) (by decide) (by unfold maxLen; omega) (by omega) (by simp; omega) (w1.heap.size + 1) (by simp) ?_; intro g2 cap2 w2 hown2 hgrow2 hwh2 _
                   have HG2 : Hid ((w1.alloc (.cells #[.slice (some ⟨g, 0, none⟩) k u] 23)).grownBy w2 (Value.slice a1 t c1).ownBlock) := hgrow2
                   have HW2 : Hid (w2.ownsRow w.heap.size 23 1 (.slice (some ⟨g2, 0, none⟩) (t + 1) cap2) (t + 1) (XS ++ [.slice (some ⟨g, 0, none⟩) k u])) := hown2
                   have HH2 : Hid ((Value.slice a1 t c1).ownBlock = some g2 ∨ g2 = w1.heap.size + 1) := hwh2
                   have HB2 : Hid (Below w.heap.size w w2) := (HB1.out.alloc hs1 _).grown hgrow2 (by simp; omega) (fun q hq => (HOV.out.lt q hq).1)
                   have d2 : w2.cell? ⟨bl, ol + i, none⟩ = some (.slice (A i) m (C i)) := held dq HB2.out
                   have HOU2 : Hid (w2.ownsRow w.heap.size 23 1 (.slice a2 t c2) t YS) := (HOU.out.alloc _).kept hgrow2 (apart_or HP1.out.apart)
                   have hs2 : w.heap.size ≤ w2.heap.size := HB2.out.size
                   clear hown2 hgrow2 hwh2)
                | (at_builtin; refine wpList_append_lies _ (by rfl) (.tmp 68) (.tmp 73) 24 (by rfl) w.heap.size 23 j0 (.slice none 0 0) 1 24 Try.underlying24 hj hj0 hj1 hj2 (by rfl) (by decide) (.slice a2 t c2) t YS (by rfl) (HOU2.out.alloc _) ⟨w2.heap.size, 0, none⟩ 1 1 [.slice (A i) m (C i)] (by rfl) (by rfl) (World.news_of_block (heap_alloc_new w2 _)) (by simp [Value.oneCell']) (by decide) (by unfold maxLen; omega) (by omega) (by simp; omega) (w2.heap.size + 1) (by simp) ?_; intro g3 cap3 w3 hown3 hgrow3 hwh3 _))
              have HP3 : Hid (∃ G U, Picked w3 w.heap.size k m (t + 1) (.slice (some ⟨g2, 0, none⟩) (t + 1) cap2) (.slice (some ⟨g3, 0, none⟩) (t + 1) cap3) G U A C R) :=
                ⟨_, _, HP1.out.step HO1.out HG2.out (by rw [HXS.out]; exact HW2.out) HH2.out hgrow3 (by rw [HYS.out, HRT.out]; exact hown3) hwh3⟩
              have HB3 : Hid (Below w.heap.size w w3) := (HB2.out.alloc hs2 _).grown hgrow3 (by simp; omega) (fun q hq => (HOU2.out.lt q hq).1)
              clear hown3 hgrow3 hwh3
              go_roundw
              case rel => exact ⟨i + 1, by omega, by go_num, by rw [HCT.out]; omega, ⟨_, _, by rw [HCT.out]⟩, ⟨_, _, by rw [HCT.out]⟩, by rw [HCT.out]; exact HP3, HB3⟩
              case measure => simp [intOf]; omega
          · have htk : t = k := by
              by_cases e : i < k + r
              · have : ¬ t < k := fun g => hgo ⟨e, g⟩
                omega
              · obtain rfl : i = k + r := by omega
                have := HCN.out
                omega
            subst htk
            obtain ⟨G, U, hp⟩ := hpick.out
            have HI := rinverse_any wr a1 t c1 _ _ _ _ hp.lst1
            rw [okInv_of (by omega) (by omega) (rows_inv (by omega) (show t + r ≤ 16 by omega) (fun s hs => HSEL.out.lt s (by omega)) (fun s s' h1 h2 => HSEL.out.rise s s' h1 (by omega)))] at HI
            have HF : Hid (Lst wr a2 t (fun s => A (R s)) (fun s => C (R s)) (fun _ => m) (fun s => H (R s))) := hp.lst2 fun s hs => by
              have hqn := HSEL.out.lt s (by omega)
              have := (HL.out.rd (R s) hqn).below hbel.out
              rcases HLm.out (R s) hqn with e | e
              · exact absurd e (HSEL.out.there s (by omega))
              · rwa [e] at this
            have HII : Hid (Calls Try.prog 34 #[.slice a1 t c1] wr (Made wr true (errM (okSq t fun _ => t) 5) t t (invOf t (rowsR t R)))) := HI
            have HB : Hid (Below w.heap.size w wr) := hbel.out
            obtain ⟨wm, rfl⟩ : ∃ x, x = wr := ⟨wr, rfl⟩
            have hnk : ¬ ((t : Int) < (t : Int)) := by omega
            have hcase : i < t + r ∨ ¬ i < t + r := by omega
            clear hpick hp HI hgo ht hck2 hbel
            rcases hcase with hi2 | hi2
            all_goals
              go_wp2_with fail
              refine HII.out.mono ?_
              intro e wi hh
              obtain ⟨lb, cb, Gb, Ub, rfl, hmb, hbi⟩ := mat_of hh (by omega)
              have HMB : Hid (Mat wi wm.heap.size wi.heap.size lb cb t t Gb Ub (invOf t (rowsR t R))) := hmb
              have HFI : Hid (Lst wi a2 t (fun s => A (R s)) (fun s => C (R s)) (fun _ => m) (fun s => H (R s))) := HF.out.below hbi
              have HBI : Hid (Below w.heap.size w wi) := below_step HB.out hbi HB.out.size
              clear hh hmb hbi HII
              go_wp2_with fail
              go_loopw [17, 18] (fun v x wr => ∃ i : Nat, i ≤ t ∧ x = .int .i64 i ∧ (∃ ao cap, v = .slice ao i cap) ∧ Hid (∃ T U, Copied wr wi.heap.size i v T (fun _ => m) U (dec t R H)) ∧ Hid (Below wi.heap.size wi wr)) (fun _ x _ => t - (intOf x).toNat)
              case atStart => exact ⟨0, Nat.zero_le _, rfl, ⟨none, 0, rfl⟩, ⟨fun _ => none, fun _ => 0, Copied.start _ _ _ _ _ _⟩, Below.refl _ _⟩
              case round =>
                obtain ⟨i, hit, rfl, ⟨ao, cap, rfl⟩, hcop, hbel⟩ := hrel
                by_cases hlt : i < t
                · obtain ⟨T, U', hcp⟩ := hcop.out
                  have HCP : Hid (Copied wr wi.heap.size i (.slice ao i cap) T (fun _ => m) U' (dec t R H)) := hcp
                  have hbw := hbel.out.size
                  obtain ⟨XS, hXS⟩ : ∃ X, X = rowsOf i T (fun _ => m) U' := ⟨_, rfl⟩
                  have HXS : Hid (rowsOf i T (fun _ => m) U' = XS) := hXS.symm
                  have i1 : (0 : Int) ≤ (i : Int) := by omega
                  have i3 : (i : Int) < (t : Int) := by omega
                  have d2 := held (HMB.out.cell_l hlt) hbel.out
                  have HS := rdot_k wr (some ⟨Gb i, 0, none⟩) a2 t (Ub i) c2 m (invOf t (rowsR t R) i) _ _ _ _ (by omega) (by omega) m1 m2 ((HMB.out.row i hlt).below hbel.out).rd (HFI.out.below hbel.out) (fun _ _ => rfl)
                  have HSS : Hid (Calls Try.prog 35 #[.slice (some ⟨Gb i, 0, none⟩) t (Ub i), .slice a2 t c2] wr (New wr m (dec t R H i))) := HS
                  clear hcop hcp hXS HS
                  go_wp2_with (first
                    | (go_at_call 35; refine HSS.out.mono ?_; rintro e w2 ⟨g2, rfl, hg2, ho2, hb2⟩
                       have HO2 : Hid (Own w2 g2 m m (dec t R H i)) := ho2
                       have HB2 : Hid (Below wr.heap.size wr w2) := hb2
                       have HC2 : Hid (Copied w2 wi.heap.size i (.slice ao i cap) T (fun _ => m) U' (dec t R H)) := HCP.out.stay (Stay.of_below hb2)
                       have HOV : Hid (w2.ownsRow wi.heap.size 23 1 (.slice ao i cap) i XS) := (by rw [← HXS.out]; exact HC2.out.out)
                       have hs2 : wi.heap.size ≤ w2.heap.size := Nat.le_trans hbw hb2.size
                       clear ho2 hb2 HSS)
                    | (at_builtin; refine wpList_append_lies _ (by rfl) (.tmp 94) (.tmp 96) 24 (by rfl) wi.heap.size 23 j0 (.slice none 0 0) 1 24 Try.underlying24 hj hj0 hj1 hj2 (by rfl) (by decide) (.slice ao i cap) i XS (by rfl) (HOV.out.alloc _) ⟨w2.heap.size, 0, none⟩ 1 1 [.slice (some ⟨g2, 0, none⟩) m m] (by rfl) (by rfl) (World.news_of_block (heap_alloc_new w2 _)) (by simp [Value.oneCell']) (by decide) (by unfold maxLen; omega) (by omega) (by simp; omega) (w2.heap.size + 1) (by simp) ?_; intro g3 cap3 w3 hown3 hgrow3 _ _))
                  have HC3 : Hid (∃ T U, Copied w3 wi.heap.size (i + 1) (.slice (some ⟨g3, 0, none⟩) (i + 1) cap3) T (fun _ => m) U (dec t R H)) := by
                    have hp := HC2.out.push (owns_base (own_owns HO2.out) (by omega)) (fun x a b hx ea eb => by
                      have := HCP.out.old hx ea
                      cases eb
                      show a.block ≠ g2
                      omega) hgrow3 (by rw [HXS.out]; exact hown3)
                    exact ⟨_, _, hp.congr (fun _ _ => rfl) (fun x _ => put_self i x (fun _ => m)) (fun _ _ => rfl) (fun x _ => put_self i x (dec t R H))⟩
                  have HB3 : Hid (Below wi.heap.size wi w3) := ((below_step hbel.out HB2.out hbw).alloc hs2 _).grown hgrow3 (by simp; omega) (fun q hq => (HOV.out.lt q hq).1)
                  clear hown3 hgrow3
                  go_roundw
                  case rel => exact ⟨i + 1, by omega, by go_num, ⟨_, _, rfl⟩, HC3, HB3⟩
                  case measure => simp [intOf]; omega
                · obtain rfl : i = t := by omega
                  obtain ⟨T, U', hcp⟩ := hcop.out
                  have HMD0 := rmade_any wr i r 0 (i + r) m ao cap T U' (fun _ => m) (dec i R H) (by omega) (by omega) (by omega) m1 m2 (by omega) hcp.lst (fun _ _ => rfl)
                  rw [show ((0 : Nat) : Int) = 0 from rfl, Int.zero_add, Int.natCast_add] at HMD0
                  have HMD : Hid (Calls Try.prog 33 #[.int .i64 (i : Int), .int .i64 (r : Int), .int .i64 0, .int .i64 ((i : Int) + (r : Int)), .slice ao i cap] wr fun e w' => ∃ ao cap T U, e = .returned (.slice ao (i + r) cap) ∧ Copied w' wr.heap.size (i + r) (.slice ao (i + r) cap) T (fun _ => m) U (fun x => enc i (dec i R H) (0 + x)) ∧ Below wr.heap.size wr w') := HMD0
                  have HBW : Hid (Below w.heap.size w wr) := below_step HBI.out hbel.out HBI.out.size
                  clear hcop hcp HMD0
                  go_wp2_with (go_at_call 33; refine HMD.out.mono ?_; rintro e w9 ⟨ao9, cap9, T9, U9, rfl, hc9, b9⟩)
                  go_ret2
                  rw [HOK.out]
                  exact ⟨ao9, cap9, T9, U9, rfl, (hc9.congr (fun _ _ => rfl) (fun _ _ => rfl) (fun _ _ => rfl) (fun x _ => by rw [Nat.zero_add])).base HBW.out.size, below_step HBW.out b9 HBW.out.size⟩

set_option maxHeartbeats 1000000 in
set_option maxRecDepth 100000 in
theorem sameAll_eq (w : World) (ao bo : Option Addr) (ll ca cb n : Nat) (A B : Nat → Option Addr) (C D L L' : Nat → Nat) (H H' : M) (hll : ll ≤ 1000000) (ha : Lst w ao ll A C L H) (hb : Lst w bo ll B D L' H') (hL : ∀ i, i < ll → L i = n) (hL' : ∀ i, i < ll → L' i = n) :
    Calls Try.prog 19 #[.slice ao ll ca, .slice bo ll cb] w fun e w' => e = .returned (.bool (eqAll ll n H H')) ∧ Below w.heap.size w w' := by
  by_cases hall : ∀ i, i < ll → eqB n (H i) (H' i) = true
  · rw [show eqAll ll n H H' = true from decide_eq_true hall]
    have h1 := ha.len' hL
    have h2 := hb.len' hL'
    exact Ker.sameAll_any w ao bo ll ca cb A B C D (fun _ => n) _ hll (lst_ker h1) (lst_ker (h2.congr fun i j hi hj => (eqB_true.1 (hall i hi) j hj).symm))
  · rw [show eqAll ll n H H' = false from decide_eq_false hall]
    obtain ⟨q, hq, hne, heq⟩ := first_not hall
    have HEQ : Hid (∀ i, i < q → eqB n (H i) (H' i) = true) := heq
    have HNE : Hid (¬ str n (H q) = str n (H' q)) := fun e => hne (eqB_true.2 fun i hi => str_inj e i hi)
    have HNL : Hid (eqB n (H q) (H' q) = false) := by show _ = _; simpa using hne
    have HA : Hid (Lst w ao ll A C (fun _ => n) H) := ha.len' hL
    have HB : Hid (Lst w bo ll B D (fun _ => n) H') := hb.len' hL'
    have hbq : ((ll : Int) == (ll : Int)) = true := by simp
    clear hall hne heq ha hb hL hL'
    go_enter Try.func19, Try.ntmps19
    go_wp2
    go_loopw [5] (fun x wr => ∃ i : Nat, i ≤ q ∧ x = .int .i64 i ∧ Hid (∃ z, wr = w.drewN z)) (fun x _ => ll - (intOf x).toNat)
    case atStart => exact ⟨0, Nat.zero_le _, rfl, 0, rfl⟩
    case round =>
      obtain ⟨i, hi, rfl, hdr⟩ := hrel
      have hlt : i < ll := by omega
      have hbel : Below w.heap.size w wr := drewN_below hdr.out
      obtain ⟨b, off, rfl, hca⟩ := (HA.out.below hbel).at_ (by omega)
      obtain ⟨b', off', rfl, hcb⟩ := (HB.out.below hbel).at_ (by omega)
      have c1 := hca i hlt
      have c2 := hcb i hlt
      have i1 : (0 : Int) ≤ (i : Int) := by omega
      have i2 : (i : Int) < (ll : Int) := by omega
      have v1 : ∀ z, (convert 23 9 (.slice (A i) n (C i))).run Try.prog (wr.drewN z) = .ok (.string (str n (H i))) (wr.drewN z) := fun z => conv_any (w := wr.drewN z) ((HA.out.below hbel).rd i hlt) (C i)
      by_cases hiq : i < q
      · have v2 : ∀ z, (convert 23 9 (.slice (B i) n (D i))).run Try.prog (wr.drewN z) = .ok (.string (str n (H i))) (wr.drewN z) := fun z => by
          rw [str_congr (eqB_true.1 (HEQ.out i hiq))]
          exact conv_any (w := wr.drewN z) ((HB.out.below hbel).rd i hlt) (D i)
        clear hca hcb hbel
        go_wp2
        go_quiet (fail)
        go_wp2
        go_roundw
        case rel =>
          obtain ⟨z, hz⟩ := hdr.out
          exact ⟨i + 1, by omega, by go_num, z + nq, by rw [hz]; simp [World.drewN, Nat.add_assoc]⟩
        case measure => simp [intOf]; omega
      · obtain rfl : i = q := by omega
        have v2 : ∀ z, (convert 23 9 (.slice (B i) n (D i))).run Try.prog (wr.drewN z) = .ok (.string (str n (H' i))) (wr.drewN z) := fun z => conv_any (w := wr.drewN z) ((HB.out.below hbel).rd i hlt) (D i)
        have hsn : ((str n (H i)).toList == (str n (H' i)).toList) = false := HNL.out
        generalize str n (H i) = s1 at v1 hsn
        generalize str n (H' i) = s2 at v2 hsn
        have hsn2 : ((s1.toList != s2.toList) = true) := by show (!(s1.toList == s2.toList)) = true; rw [hsn]; rfl
        clear hca hcb
        go_wp2
        go_quiet (fail)
        go_wp2
        go_ret
        exact ⟨rfl, below_step hbel (below_drewN _ _ _) hbel.size⟩


set_option maxHeartbeats 400000 in
set_option maxRecDepth 100000 in
theorem rVerify_any (w : World) (k r : Int) (lo : Option Addr) (ll cl : Nat) (A : Nat → Option Addr) (C L : Nat → Nat) (H : M) (hl : Lst w lo ll A C L H) (hcl : ll ≤ cl) :
    Calls Try.prog 18 #[.int .i64 k, .int .i64 r, .slice lo ll cl] w (Told2 w (okVer ll L k r && verB k.toNat r.toNat (len0 L ll) H) (errE (mayB k r) (okVer ll L k r))) := by
  have HM := rmay_any w k r
  cases hmay : mayB k r
  · rw [show okVer ll L k r = false by unfold okVer; rw [hmay]; rfl]
    rw [hmay] at HM
    clear hmay
    go_enter Try.func18, Try.ntmps18
    go_wp2_with (go_at_call 30; refine HM.mono ?_; rintro e w' ⟨rfl, rfl⟩)
    go_ret2
    exact ⟨rfl, Below.refl _ _⟩
  · obtain ⟨h1, h2, h3, h4⟩ := mayB_true hmay
    rw [hmay] at HM
    have HT := ralike_any w lo ll cl A C L H (k + r) true (by omega) hl
    unfold Alike at HT
    have hE : okVer ll L k r = okA ll L (k + r) true := by unfold okVer; rw [hmay, Bool.true_and, okA_enc]
    cases hoa : okA ll L (k + r) true
    · have HOK : Hid (okVer ll L k r = false) := by show _ = _; rw [hE, hoa]
      rw [hoa] at HT
      clear hmay hoa hl hE
      go_enter Try.func18, Try.ntmps18
      go_wp2_with (first | (go_at_call 30; refine HM.mono ?_; rintro e w' ⟨rfl, hw'⟩; obtain rfl := hw'.symm) | (go_at_call 32; refine HT.mono ?_; rintro e w' ⟨rfl, hw'⟩; obtain rfl := hw'.symm))
      go_ret2
      rw [HOK.out]
      exact ⟨rfl, Below.refl _ _⟩
    · have HOK : Hid (okVer ll L k r = true) := by show _ = _; rw [hE, hoa]
      rw [hoa] at HT
      have hoo := hoa
      rw [okA_enc, Bool.and_eq_true, decide_eq_true_eq] at hoo
      obtain ⟨hll, hokT⟩ := okC_true hoo.1
      have hq3 := hoo.2
      obtain ⟨k, rfl⟩ := Int.eq_ofNat_of_zero_le (show 0 ≤ k by omega)
      obtain ⟨r, rfl⟩ := Int.eq_ofNat_of_zero_le h3
      obtain rfl : ll = k + r := by omega
      clear hll hoo
      rw [Int.toNat_natCast, Int.toNat_natCast]
      obtain ⟨m1, m2, m3⟩ := alike_of hokT (by omega)
      obtain ⟨m, hm⟩ : ∃ m, m = len0 L (k + r) := ⟨_, rfl⟩
      rw [← hm] at m1 m2 m3 ⊢
      have HLm : Hid (∀ i, i < k + r → L i = m) := fun i hi => (m3 i hi).resolve_left (all_there (by omega) i hi)
      have HL : Hid (Lst w lo (k + r) A C L H) := hl
      obtain ⟨bl, ol, rfl, _⟩ := hl.at_ (by omega)
      have i1 : (k : Int) ≤ (cl : Int) := by omega
      have i2 : (k : Int) ≤ (k : Int) + (r : Int) := by omega
      have i3 : (k : Int) + (r : Int) ≤ (cl : Int) := by omega
      have hwr : IntKind.i64.wrap ((k : Int) + (r : Int)) = (k : Int) + (r : Int) := by rw [IntKind.wrap_i64]; omega
      clear hmay hoa hl hokT m3 hm hE hq3
      go_enter Try.func18, Try.ntmps18
      go_wp2_with (first
        | (go_at_call 30; refine HM.mono ?_; rintro e w' ⟨rfl, hw'⟩; obtain rfl := hw'.symm)
        | (go_at_call 32; refine HT.mono ?_; rintro e w' ⟨rfl, hw'⟩; obtain rfl := hw'.symm))
      have HP := rmade_any w.drew k r k r m (some ⟨bl, ol, none⟩) cl A C L H (by omega) (by omega) (by omega) m1 m2 (by omega) (HL.out.below (below_drew _ w)).upto (fun i hi => HLm.out i (by omega))
      by_cases hcap : cl = k
      · have HR0 : Hid (r = 0) := by show _ = _; omega
        have HZ : Hid (∀ w2, Lst w2 (some ⟨bl, ol, none⟩) r (fun _ => none) (fun _ => 0) (fun _ => m) (fun i => H (k + i))) := fun w2 => ⟨fun i hi => absurd hi (by have := HR0.out; omega), fun hp => absurd hp (by have := HR0.out; omega)⟩
        subst hcap
        go_region_held3 (fun _ => True) (trivial) (first
          | (go_at_call 33; refine HP.mono ?_; rintro e w2 ⟨ao2, cap2, T, U, rfl, hcop, bw2⟩
             have HE : Calls Try.prog 19 #[.slice ao2 r cap2, .slice (some ⟨bl, ol, none⟩) 0 0] w2 fun e w' => e = .returned (.bool (eqAll r m (par cl H) fun i => H (cl + i))) ∧ Below w2.heap.size w2 w' := (by have h0 := HR0.out; have hz := HZ.out w2; have hc := hcop.lst; rw [h0] at hz hc ⊢; exact sameAll_eq w2 ao2 (some ⟨bl, ol, none⟩) 0 cap2 0 m T (fun _ => none) U (fun _ => 0) (fun _ => m) (fun _ => m) (par cl H) (fun i => H (cl + i)) (by omega) hc hz (fun _ _ => rfl) (fun _ _ => rfl)))
          | (go_at_call 19; refine HE.mono ?_; rintro e w3 ⟨rfl, b3⟩))
        go_wp2
        go_ret2
        rw [HOK.out]
        exact ⟨rfl, below_step (below_step (below_drew _ w) bw2 (Nat.le_refl _)) b3 (Nat.le_trans (Nat.le_refl _) bw2.size)⟩
      · have hkc : ¬ k = cl := fun e => hcap e.symm
        go_region_held3 (fun _ => True) (trivial) (first
          | (go_at_call 33; refine HP.mono ?_; rintro e w2 ⟨ao2, cap2, T, U, rfl, hcop, bw2⟩
             have HE := sameAll_eq w2 ao2 (some ⟨bl, ol + k, none⟩) r cap2 (cl - k) m T _ U _ (fun _ => m) _ (par k H) _ (by omega) hcop.lst ((HL.out.below (below_drew _ w)).below bw2).from (fun _ _ => rfl) (fun i hi => HLm.out (k + i) (by omega)))
          | (go_at_call 19; refine HE.mono ?_; rintro e w3 ⟨rfl, b3⟩))
        go_wp2
        go_ret2
        rw [HOK.out]
        exact ⟨rfl, below_step (below_step (below_drew _ w) bw2 (Nat.le_refl _)) b3 (Nat.le_trans (Nat.le_refl _) bw2.size)⟩

theorem spoil_zero (w : World) (ao : Option Addr) (cap : Nat) : Calls Try.prog 20 #[.slice ao 0 cap] w fun e w' => e = .returned (.tuple #[]) ∧ w' = w := by
  go_enter Try.func20, Try.ntmps20
  go_wp2
  go_loop [2] (fun i => i = .int .i64 0) (fun i => 0)
  case atStart => rfl
  case round =>
    obtain rfl := hrel
    go_wp2
    go_end0
    exact ⟨rfl, rfl⟩
/-- Cells that were answered are written over: only their own memory changes. -/
theorem spoil_out (w : World) (B T n m cap : Nat) (ao : Option Addr) (U : Nat → Nat) (H : M) (hn : n ≤ 1000) (hm : 0 < n → 1 ≤ m ∧ m ≤ 100000) (h : 0 < n → ∃ l G, ao = some ⟨l, 0, none⟩ ∧ Mat w B T l cap n m G U H) :
    Calls Try.prog 20 #[.slice ao n cap] w fun e w' => e = .returned (.tuple #[]) ∧ Keeps B T w w' := by
  rcases Nat.eq_zero_or_pos n with e | e
  · subst e
    refine (spoil_zero w ao cap).mono ?_
    rintro e w' ⟨rfl, rfl⟩
    exact ⟨rfl, Keeps.refl _ _ _⟩
  · obtain ⟨l, G, rfl, hmat⟩ := h e
    exact spoil_mat w B T l cap n m G U H hn (hm e).2 hmat
set_option maxHeartbeats 1000000 in
set_option maxRecDepth 100000 in
/-- A list of one slice that is not there. -/
theorem spoil_nil (w : World) (l : Nat) (hl : w.cell? ⟨l, 0, none⟩ = some (.slice none 0 0)) : Calls Try.prog 20 #[.slice (some ⟨l, 0, none⟩) 1 1] w fun e w' => e = .returned (.tuple #[]) ∧ Below w.heap.size w w' := by
  obtain ⟨i0, hi, hz0, hz1, hz2⟩ := info_parts info5c
  go_enter Try.func20, Try.ntmps20
  go_wp2
  go_loopw [2] (fun x wr => (x = .int .i64 0 ∧ wr = w) ∨ (x = .int .i64 1 ∧ Hid (Below w.heap.size w wr))) (fun x _ => 1 - (intOf x).toNat)
  case atStart => exact .inl ⟨rfl, rfl⟩
  case round =>
    rcases hrel with ⟨rfl, hw⟩ | ⟨rfl, hb⟩
    · obtain rfl := hw
      go_wp2
      go_loop [3] (fun i => i = .int .i64 0) (fun i => 0)
      case atStart => rfl
      case round =>
        obtain rfl := hrel
        go_wp2_with (at_builtin; refine wpList_append_lies _ (by rfl) (.tmp 37) (.tmp 38) 23 (by rfl) wr.heap.size 5 i0 (.int .u8 0) 1 1 Try.underlying23 hi hz0 hz1 hz2 (by rfl) (by decide) (.slice none 0 0) 0 [] (by rfl) (World.ownsRow_nil _ _ _ _) ⟨wr.heap.size, 0, none⟩ 8 8 eight (by rfl) (by rfl) (World.news_of_block (heap_alloc_new wr _)) (by simp [eight, Value.oneCell']) (by decide) (by unfold maxLen; omega) (by omega) (by simp) (wr.heap.size + 1) (by simp) ?_; intro g5 cap5 w5 hown5 hgrow5 hwh5 hlt5
                     obtain ⟨v5, c5, z5⟩ := owns_first hown5 (by omega)
                     have hg5 : wr.heap.size ≤ g5 := (hown5.lt g5 rfl).1
                     have HB5 : Hid (Below wr.heap.size wr w5) := (below_alloc wr _).trans (grown_below hgrow5 (by simp) (fun q hq => by cases hq))
                     clear hown5 hgrow5 hwh5)
        have HB6 : Hid (Below wr.heap.size wr (w5.setCell ⟨g5, 0, none⟩ (.int .u8 9))) := HB5.out.trans (((Keeps.refl g5 (g5 + 1) w5).setCell (Nat.le_refl _) (by omega) 0 _).below HB5.out.size hg5)
        go_wp2_with fail
        go_roundw
        case rel => exact .inr ⟨rfl, HB6⟩
        case measure => simp [intOf]
    · go_wp2
      go_end0
      exact ⟨rfl, hb.out⟩
end Go.Proofs.Ythkikocacbbhkaa
