/- What the document's own answers come to: whether a code may be, rows, whether cells are alike, the cells that data cells make. -/
import Derived.Test.YtgflgmkaaidfnaaCodL
namespace Go.Proofs.Ytgflgmkaaidfnaa
open Go.RowKit

theorem rmay_any (w : World) (k r : Int) : Calls Try.prog 40 #[.int .i64 k, .int .i64 r] w fun e w' => e = .returned (.bool (mayB k r)) ∧ w' = w := by
  by_cases h1 : 1 ≤ k
  · by_cases h2 : k ≤ 12
    · by_cases h3 : 0 ≤ r
      · by_cases h4 : r ≤ 4
        · rw [show mayB k r = true from decide_eq_true ⟨h1, h2, h3, h4⟩]
          go_enter Try.func40, Try.ntmps40
          go_wp2
          go_ret
          exact ⟨by simp, rfl⟩
        · rw [show mayB k r = false from decide_eq_false fun h => h4 h.2.2.2]
          go_enter Try.func40, Try.ntmps40
          go_wp2
          go_ret
          exact ⟨by simp, rfl⟩
      · rw [show mayB k r = false from decide_eq_false fun h => h3 h.2.2.1]
        go_enter Try.func40, Try.ntmps40
        go_wp2
        go_ret
        exact ⟨by simp, rfl⟩
    · rw [show mayB k r = false from decide_eq_false fun h => h2 h.2.1]
      go_enter Try.func40, Try.ntmps40
      go_wp2
      go_ret
      exact ⟨by simp, rfl⟩
  · rw [show mayB k r = false from decide_eq_false fun h => h1 h.1]
    go_enter Try.func40, Try.ntmps40
    go_wp2
    go_ret
    exact ⟨by simp, rfl⟩

set_option maxHeartbeats 1000000 in
set_option maxRecDepth 100000 in
theorem rRow_any (w : World) (k r c : Int) : Calls Try.prog 30 #[.int .i64 k, .int .i64 r, .int .i64 c] w (OneAns w (okRow k r c) 2 k.toNat (gen k.toNat c.toNat)) := by
  have HM := rmay_any w k r
  have bad : OneAns w false 2 k.toNat (gen k.toNat c.toNat) (.returned (.tuple #[.slice none 0 0, .int .i64 2])) w := ⟨none, 0, rfl, .inl ⟨rfl, rfl, rfl⟩, Below.refl _ _⟩
  cases hmay : mayB k r
  · rw [show okRow k r c = false by unfold okRow; rw [hmay]; rfl]
    rw [hmay] at HM
    clear hmay
    go_enter Try.func30, Try.ntmps30
    go_wp2_with (go_at_call 40; refine HM.mono ?_; rintro e w' ⟨rfl, rfl⟩)
    go_ret2
    exact bad
  · obtain ⟨h1, h2, h3, h4⟩ := mayB_true hmay
    rw [hmay] at HM
    by_cases h5 : 0 ≤ c
    · by_cases h6 : c < k + r
      · rw [show okRow k r c = true by unfold okRow; rw [hmay]; simp [h5, h6]]
        clear hmay bad
        obtain ⟨k, rfl⟩ := Int.eq_ofNat_of_zero_le (show 0 ≤ k by omega)
        obtain ⟨r, rfl⟩ := Int.eq_ofNat_of_zero_le (show 0 ≤ r by omega)
        obtain ⟨c, rfl⟩ := Int.eq_ofNat_of_zero_le h5
        rw [Int.toNat_natCast, Int.toNat_natCast]
        by_cases hck : c < k
        · have hmk := run_make_row' (P := Try.prog) 23 5 (.int .u8 0) 1 Try.underlying23 info5c rfl .i64 .i64 k (by omega) (by omega)
          have HO : Hid (Own (w.alloc (.cells (madeCells #[.int .u8 0] k) 5)) w.heap.size k k (fun _ => 0)) := ⟨Nat.le_refl _, by unfold maxLen; omega, _, row_made w 5 k _, fun i _ => rfl⟩
          obtain ⟨wa, hwa⟩ : ∃ wa, wa = w.alloc (.cells (madeCells #[.int .u8 0] k) 5) := ⟨_, rfl⟩
          have hmk2 := hmk w
          rw [← hwa] at hmk2 HO
          have ba : Below w.heap.size w wa := by rw [hwa]; exact below_alloc _ _
          have c1 := HO.out.cell (i := c) hck
          have z1 := HO.out.frozen c
          clear hwa hmk
          have i1 : (0 : Int) ≤ (c : Int) := by omega
          have i2 : (c : Int) < (k : Int) := by omega
          go_enter Try.func30, Try.ntmps30
          go_wp2_with (go_at_call 40; refine HM.mono ?_; rintro e w' ⟨rfl, hw'⟩; obtain rfl := hw'.symm)
          go_ret2
          have ho := HO.out.set c 1
          refine ⟨_, _, rfl, .inr ⟨w.heap.size, rfl, Nat.le_refl _, ho.lt, ho.congr fun i hi => ?_⟩, ba.trans (((Keeps.refl w.heap.size (w.heap.size + 1) wa).setCell (Nat.le_refl _) (by omega) c _).below ba.size (Nat.le_refl _))⟩
          rw [gen_one hck]
          unfold one
          by_cases e : i = c
          · rw [if_pos e, if_pos e.symm]
          · rw [if_neg e, if_neg (Ne.symm e)]
        · have CY := rcauchy_any w (k : Int) (r : Int)
          rw [show okN (k : Int) 12 = true from decide_eq_true (by omega), show okN (r : Int) 4 = true from decide_eq_true (by omega), Int.toNat_natCast, Int.toNat_natCast] at CY
          go_enter Try.func30, Try.ntmps30
          go_wp2_with fail
          refine HM.mono ?_
          rintro e w' ⟨rfl, hw'⟩
          obtain rfl := hw'.symm
          go_wp2_with fail
          refine CY.mono ?_
          intro e w2 hh
          obtain ⟨l, cl, G, U, rfl, hm, b2⟩ := mat_of hh (by omega)
          obtain ⟨q, hq⟩ : ∃ q, c = k + q := ⟨c - k, by omega⟩
          have HQ : Hid (c = k + q) := hq
          have hqr : q < r := by omega
          have ck := hm.cell_l hqr
          have i1 : (0 : Int) ≤ (c : Int) - (k : Int) := by omega
          have i2 : (c : Int) - (k : Int) < (r : Int) := by omega
          have i3 : ((c : Int) - (k : Int)).toNat = q := by omega
          have HO : Hid (Own w2 (G q) k (U q) (cau k q) ∧ w.heap.size ≤ G q) := ⟨hm.row q hqr, hm.los q hqr⟩
          clear hm hh CY hq
          go_wp2_with fail
          go_ret2
          refine ⟨_, _, rfl, .inr ⟨G q, rfl, HO.out.2, HO.out.1.lt, HO.out.1.congr fun i _ => ?_⟩, b2⟩
          rw [HQ.out, gen_cau]
      · rw [show okRow k r c = false by unfold okRow; simp [h6]]
        clear hmay
        go_enter Try.func30, Try.ntmps30
        go_wp2_with (go_at_call 40; refine HM.mono ?_; rintro e w' ⟨rfl, rfl⟩)
        go_ret2
        exact bad
    · rw [show okRow k r c = false by unfold okRow; simp [h5]]
      clear hmay
      go_enter Try.func30, Try.ntmps30
      go_wp2_with (go_at_call 40; refine HM.mono ?_; rintro e w' ⟨rfl, rfl⟩)
      go_ret2
      exact bad
theorem rrow_good (w : World) (k r c : Nat) (hk1 : 1 ≤ k) (hk : k ≤ 12) (hr : r ≤ 4) (hc : c < k + r) :
    Calls Try.prog 30 #[.int .i64 (k : Int), .int .i64 (r : Int), .int .i64 (c : Int)] w fun e w' => ∃ g u, e = .returned (.tuple #[.slice (some ⟨g, 0, none⟩) k u, .int .i64 0]) ∧ w.heap.size ≤ g ∧ Own w' g k u (gen k c) ∧ Below w.heap.size w w' := by
  have HR := rRow_any w k r c
  have h1 : okRow k r c = true := by
    unfold okRow
    rw [show mayB k r = true from decide_eq_true (by omega)]
    simp; omega
  rw [h1, Int.toNat_natCast, Int.toNat_natCast] at HR
  refine HR.mono ?_
  rintro e w' ⟨ao, cap, rfl, hs, hb⟩
  rcases hs with ⟨_, h0, _⟩ | ⟨g, rfl, hg, _, ho⟩
  · exact absurd (show k = 0 from h0) (by omega)
  · exact ⟨g, cap, rfl, hg, ho, hb⟩

/-- The first n are good: alike, and none missing if none may be. -/
def goodTo (all : Bool) (L : Nat → Nat) (n : Nat) : Prop := okT L n = true ∧ (all = true → cnt L n = n)
theorem goodTo_first {all : Bool} {L : Nat → Nat} {n : Nat} (h : ¬ goodTo all L n) : ∃ q, q < n ∧ goodTo all L q ∧ ¬ goodTo all L (q + 1) := by
  induction n with
  | zero => exact absurd ⟨rfl, fun _ => rfl⟩ h
  | succ n ih =>
    by_cases g : goodTo all L n
    · exact ⟨n, by omega, g, h⟩
    · obtain ⟨q, h1, h2⟩ := ih g
      exact ⟨q, by omega, h2⟩
theorem goodTo_le {all : Bool} {L : Nat → Nat} {i n : Nat} (h : goodTo all L n) (hi : i ≤ n) : goodTo all L i := by
  refine ⟨okT_le h.1 hi, fun ha => ?_⟩
  have h1 := h.2 ha
  exact cnt_full fun j hj => fun e => by have := cnt_lt (show j < n by omega) e; omega
theorem goodTo_cell {all : Bool} {L : Nat → Nat} {i : Nat} (h : goodTo all L (i + 1)) (hz : L i ≠ 0) : L i ≤ 65536 ∧ L i = len0 L (i + 1) := okT_step h.1 (by omega) hz
theorem goodTo_zero {all : Bool} {L : Nat → Nat} {i : Nat} (h : goodTo all L (i + 1)) (hz : L i = 0) : all = false := by
  cases all
  · rfl
  · have := h.2 rfl; have := cnt_lt (show i < i + 1 by omega) hz; omega
theorem not_good {all : Bool} {L : Nat → Nat} {q : Nat} (h : goodTo all L q) (hn : ¬ goodTo all L (q + 1)) : (L q = 0 ∧ all = true) ∨ (L q ≠ 0 ∧ (65536 < L q ∨ (0 < cnt L q ∧ L q ≠ len0 L q))) := by
  by_cases hz : L q = 0
  · left
    refine ⟨hz, ?_⟩
    cases all
    · exact absurd ⟨okT_succ h.1 (.inl hz), fun e => by cases e⟩ hn
    · rfl
  · right
    refine ⟨hz, ?_⟩
    by_cases h1 : L q ≤ 65536
    · right
      by_cases h2 : L q = len0 L (q + 1)
      · exact absurd ⟨okT_succ h.1 (.inr ⟨h1, h2⟩), fun e => by rw [cnt_take hz, h.2 e]⟩ hn
      · rcases len0_sel L q with ⟨g1, g2⟩ | ⟨g1, g2, g3⟩
        · exact absurd (by rw [len0, if_pos g2]) h2
        · exact ⟨g1, fun e => h2 (by rw [len0, if_neg g3]; exact e)⟩
    · exact .inl (by omega)
theorem len0_skip {L : Nat → Nat} {n : Nat} (h : L n = 0) : len0 L (n + 1) = len0 L n := by
  rw [len0]
  by_cases e : len0 L n = 0
  · rw [if_pos e, h, e]
  · rw [if_neg e]
def okA (ll : Nat) (L : Nat → Nat) (many : Int) (all : Bool) : Bool := okC ll L many && (!all || decide (cnt L ll = ll))
def Alike (w : World) (ll : Nat) (L : Nat → Nat) (many : Int) (all : Bool) (e : Ending) (w' : World) : Prop := e = .returned (.tuple #[.int .i64 ((lenB (okA ll L many all) (cnt L ll) : Nat) : Int), .bool (okA ll L many all)]) ∧ w' = w
theorem okA_good {ll : Nat} {L : Nat → Nat} {all : Bool} : okA ll L (ll : Int) all = true ↔ goodTo all L ll := by
  unfold okA okC goodTo
  cases all <;> simp

theorem okA_enc (ll : Nat) (L : Nat → Nat) (k : Int) : okA ll L k true = (okC ll L k && decide (k ≤ (cnt L ll : Int))) := by
  unfold okA
  cases h : okC ll L k
  · rfl
  · obtain ⟨h1, _⟩ := okC_true h
    have := cnt_le L ll
    simp only [Bool.true_and, Bool.not_true, Bool.false_or]
    apply decide_eq_decide.2
    omega
theorem okA_dec (ll : Nat) (L : Nat → Nat) (k : Int) : okA ll L k false = okC ll L k := by unfold okA; simp

set_option maxHeartbeats 1000000 in
set_option maxRecDepth 100000 in
theorem sameAll_eq (w : World) (ao bo : Option Addr) (ll ca cb n : Nat) (A B : Nat → Option Addr) (C D L L' : Nat → Nat) (H H' : M) (hll : ll ≤ 1000000) (ha : Lst w ao ll A C L H) (hb : Lst w bo ll B D L' H') (hL : ∀ i, i < ll → L i = n) (hL' : ∀ i, i < ll → L' i = n) :
    Calls Try.prog 17 #[.slice ao ll ca, .slice bo ll cb] w fun e w' => e = .returned (.bool (eqAll ll n H H')) ∧ Below w.heap.size w w' := by
  by_cases hall : ∀ i, i < ll → eqB n (H i) (H' i) = true
  · rw [show eqAll ll n H H' = true from decide_eq_true hall]
    have h1 := ha.len' hL
    have h2 := hb.len' hL'
    exact Ker.sameAll_any w ao bo ll ca cb A B C D (fun _ => n) _ hll (lst_ker h1) (lst_ker (h2.congr fun i j hi hj => (eqB_true.1 (hall i hi) j hj).symm))
  · rw [show eqAll ll n H H' = false from decide_eq_false hall]
    obtain ⟨q, hq, hne, heq⟩ := first_not hall
    have HEQ : Hid (∀ i, i < q → eqB n (H i) (H' i) = true) := heq
    have HNE : Hid (¬ str n (H q) = str n (H' q)) := fun e => hne (eqB_true.2 fun i hi => str_inj e i hi)
    have HNL : Hid (eqB n (H q) (H' q) = false) := by show _ = _; simpa using hne
    have HA : Hid (Lst w ao ll A C (fun _ => n) H) := ha.len' hL
    have HB : Hid (Lst w bo ll B D (fun _ => n) H') := hb.len' hL'
    have hbq : ((ll : Int) == (ll : Int)) = true := by simp
    clear hall hne heq ha hb hL hL'
    go_enter Try.func17, Try.ntmps17
    go_wp2
    go_loopw [5] (fun x wr => ∃ i : Nat, i ≤ q ∧ x = .int .i64 i ∧ Hid (∃ z, wr = w.drewN z)) (fun x _ => ll - (intOf x).toNat)
    case atStart => exact ⟨0, Nat.zero_le _, rfl, 0, rfl⟩
    case round =>
      obtain ⟨i, hi, rfl, hdr⟩ := hrel
      have hlt : i < ll := by omega
      have hbel : Below w.heap.size w wr := drewN_below hdr.out
      obtain ⟨b, off, rfl, hca⟩ := (HA.out.below hbel).at_ (by omega)
      obtain ⟨b', off', rfl, hcb⟩ := (HB.out.below hbel).at_ (by omega)
      have c1 := hca i hlt
      have c2 := hcb i hlt
      have i1 : (0 : Int) ≤ (i : Int) := by omega
      have i2 : (i : Int) < (ll : Int) := by omega
      have v1 : ∀ z, (convert 23 9 (.slice (A i) n (C i))).run Try.prog (wr.drewN z) = .ok (.string (str n (H i))) (wr.drewN z) := fun z => conv_any (w := wr.drewN z) ((HA.out.below hbel).rd i hlt) (C i)
      by_cases hiq : i < q
      · have v2 : ∀ z, (convert 23 9 (.slice (B i) n (D i))).run Try.prog (wr.drewN z) = .ok (.string (str n (H i))) (wr.drewN z) := fun z => by
          rw [str_congr (eqB_true.1 (HEQ.out i hiq))]
          exact conv_any (w := wr.drewN z) ((HB.out.below hbel).rd i hlt) (D i)
        clear hca hcb hbel
        go_wp2
        go_quiet (fail)
        go_wp2
        go_roundw
        case rel =>
          obtain ⟨z, hz⟩ := hdr.out
          exact ⟨i + 1, by omega, by go_num, z + nq, by rw [hz]; simp [World.drewN, Nat.add_assoc]⟩
        case measure => simp [intOf]; omega
      · obtain rfl : i = q := by omega
        have v2 : ∀ z, (convert 23 9 (.slice (B i) n (D i))).run Try.prog (wr.drewN z) = .ok (.string (str n (H' i))) (wr.drewN z) := fun z => conv_any (w := wr.drewN z) ((HB.out.below hbel).rd i hlt) (D i)
        have hsn : ((str n (H i)).toList == (str n (H' i)).toList) = false := HNL.out
        generalize str n (H i) = s1 at v1 hsn
        generalize str n (H' i) = s2 at v2 hsn
        have hsn2 : ((s1.toList != s2.toList) = true) := by show (!(s1.toList == s2.toList)) = true; rw [hsn]; rfl
        clear hca hcb
        go_wp2
        go_quiet (fail)
        go_wp2
        go_ret
        exact ⟨rfl, below_step hbel (below_drewN _ _ _) hbel.size⟩


theorem spoil_zero (w : World) (ao : Option Addr) (cap : Nat) : Calls Try.prog 18 #[.slice ao 0 cap] w fun e w' => e = .returned (.tuple #[]) ∧ w' = w := by
  go_enter Try.func18, Try.ntmps18
  go_wp2
  go_loop [2] (fun i => i = .int .i64 0) (fun i => 0)
  case atStart => rfl
  case round =>
    obtain rfl := hrel
    go_wp2
    go_end0
    exact ⟨rfl, rfl⟩
/-- Cells that were answered are written over: only their own memory changes. -/
theorem spoil_out (w : World) (B T n m cap : Nat) (ao : Option Addr) (U : Nat → Nat) (H : M) (hn : n ≤ 1000) (hm : 0 < n → 1 ≤ m ∧ m ≤ 100000) (h : 0 < n → ∃ l G, ao = some ⟨l, 0, none⟩ ∧ Mat w B T l cap n m G U H) :
    Calls Try.prog 18 #[.slice ao n cap] w fun e w' => e = .returned (.tuple #[]) ∧ Keeps B T w w' := by
  rcases Nat.eq_zero_or_pos n with e | e
  · subst e
    refine (spoil_zero w ao cap).mono ?_
    rintro e w' ⟨rfl, rfl⟩
    exact ⟨rfl, Keeps.refl _ _ _⟩
  · obtain ⟨l, G, rfl, hmat⟩ := h e
    exact spoil_mat w B T l cap n m G U H hn (hm e).2 hmat
set_option maxHeartbeats 1000000 in
set_option maxRecDepth 100000 in
/-- A list of one slice that is not there. -/
theorem spoil_nil (w : World) (l : Nat) (hl : w.cell? ⟨l, 0, none⟩ = some (.slice none 0 0)) : Calls Try.prog 18 #[.slice (some ⟨l, 0, none⟩) 1 1] w fun e w' => e = .returned (.tuple #[]) ∧ Below w.heap.size w w' := by
  obtain ⟨i0, hi, hz0, hz1, hz2⟩ := info_parts info5c
  go_enter Try.func18, Try.ntmps18
  go_wp2
  go_loopw [2] (fun x wr => (x = .int .i64 0 ∧ wr = w) ∨ (x = .int .i64 1 ∧ Hid (Below w.heap.size w wr))) (fun x _ => 1 - (intOf x).toNat)
  case atStart => exact .inl ⟨rfl, rfl⟩
  case round =>
    rcases hrel with ⟨rfl, hw⟩ | ⟨rfl, hb⟩
    · obtain rfl := hw
      go_wp2
      go_loop [3] (fun i => i = .int .i64 0) (fun i => 0)
      case atStart => rfl
      case round =>
        obtain rfl := hrel
        go_wp2_with (at_builtin; refine wpList_append_lies _ (by rfl) (.tmp 37) (.tmp 38) 23 (by rfl) wr.heap.size 5 i0 (.int .u8 0) 1 1 Try.underlying23 hi hz0 hz1 hz2 (by rfl) (by decide) (.slice none 0 0) 0 [] (by rfl) (World.ownsRow_nil _ _ _ _) ⟨wr.heap.size, 0, none⟩ 8 8 eight (by rfl) (by rfl) (World.news_of_block (heap_alloc_new wr _)) (by simp [eight, Value.oneCell']) (by decide) (by unfold maxLen; omega) (by omega) (by simp) (wr.heap.size + 1) (by simp) ?_; intro g5 cap5 w5 hown5 hgrow5 hwh5 hlt5
                     obtain ⟨v5, c5, z5⟩ := owns_first hown5 (by omega)
                     have hg5 : wr.heap.size ≤ g5 := (hown5.lt g5 rfl).1
                     have HB5 : Hid (Below wr.heap.size wr w5) := (below_alloc wr _).trans (grown_below hgrow5 (by simp) (fun q hq => by cases hq))
                     clear hown5 hgrow5 hwh5)
        have HB6 : Hid (Below wr.heap.size wr (w5.setCell ⟨g5, 0, none⟩ (.int .u8 9))) := HB5.out.trans (((Keeps.refl g5 (g5 + 1) w5).setCell (Nat.le_refl _) (by omega) 0 _).below HB5.out.size hg5)
        go_wp2_with fail
        go_roundw
        case rel => exact .inr ⟨rfl, HB6⟩
        case measure => simp [intOf]
    · go_wp2
      go_end0
      exact ⟨rfl, hb.out⟩
end Go.Proofs.Ytgflgmkaaidfnaa

/- The walk of the statement that coding and decoding of any cells come to what the document says, and nothing that is handed in changes. -/
namespace Go.Proofs.Ytgflgmkaaidfnaa
open Go.RowKit

set_option maxHeartbeats 2000000 in
set_option maxRecDepth 100000 in
/-- Rows are written over: all else stays. -/
theorem spoil_rows (w : World) (B T l cl rows cols : Nat) (G U : Nat → Nat) (H : M) (hr : rows ≤ 1000) (hc : cols ≤ 100000) (hlst : ∃ h : Nat → Value, w.rowIs l 23 cl h ∧ ∀ i, i < rows → h i = .slice (some ⟨G i, 0, none⟩) cols (U i)) (hrows : ∀ i, i < rows → Own w (G i) cols (U i) (H i)) (hG : (∀ i, i < rows → B ≤ G i ∧ G i < T ∧ G i ≠ l) ∧ ∀ i j, i < rows → j < rows → i ≠ j → G i ≠ G j) (hroom : rows ≤ cl) :
    Calls Try.prog 18 #[.slice (some ⟨l, 0, none⟩) rows cl] w fun e w' => e = .returned (.tuple #[]) ∧ Keeps B T w w' := by
  obtain ⟨i0, hi, hz0, hz1, hz2⟩ := info_parts info5'
  have HM : Hid ((∃ h : Nat → Value, w.rowIs l 23 cl h ∧ ∀ i, i < rows → h i = .slice (some ⟨G i, 0, none⟩) cols (U i)) ∧ ∀ i, i < rows → Own w (G i) cols (U i) (H i)) := ⟨hlst, hrows⟩
  have HG : Hid ((∀ i, i < rows → B ≤ G i ∧ G i < T ∧ G i ≠ l) ∧ ∀ i j, i < rows → j < rows → i ≠ j → G i ≠ G j) := hG
  clear hlst hrows hG
  go_enter Try.func18, Try.ntmps18
  go_wp2
  go_loopw [2] (fun i wr => ∃ k : Nat, k ≤ rows ∧ i = .int .i64 k ∧ Hid (Rest wr B T l cl rows cols k G U H) ∧ Hid (Keeps B T w wr)) (fun i _ => rows - (intOf i).toNat)
  case atStart => exact ⟨0, Nat.zero_le _, rfl, ⟨HM.out.1, fun i _ hi => HM.out.2 i hi⟩, Keeps.refl _ _ _⟩
  case round =>
    obtain ⟨k, hk, rfl, hrest, hkeep⟩ := hrel
    by_cases hlt : k < rows
    · obtain ⟨c, hrow, hc'⟩ := hrest.out.lst
      have c1 := hrow.cell (i := k) (by omega)
      rw [hc' k hlt] at c1
      have HO : Hid (Own wr (G k) cols (U k) (H k)) := hrest.out.row k (Nat.le_refl _) hlt
      have hg1 := (HG.out.1 k hlt).1
      have hg2 := (HG.out.1 k hlt).2.1
      have hg3 := (HG.out.1 k hlt).2.2
      clear hrow hc'
      have i1 : (0 : Int) ≤ (k : Int) := by omega
      have i2 : (k : Int) < (rows : Int) := by omega
      obtain ⟨wm, rfl⟩ : ∃ x, x = wr := ⟨wr, rfl⟩
      go_wp2
      go_loopw [3] (fun i wx => ∃ j : Nat, j ≤ cols ∧ i = .int .i64 j ∧ Hid (Own wx (G k) cols (U k) (upto j (fun y => (K.add (H k y) (K.of 85))) (H k))) ∧ Hid (Keeps (G k) (G k + 1) wm wx)) (fun i _ => cols - (intOf i).toNat)
      case atStart => exact ⟨0, Nat.zero_le _, rfl, by rw [upto_zero]; exact HO.out, Keeps.refl _ _ _⟩
      case round =>
        obtain ⟨j, hj, rfl, hown, hk2⟩ := hrel
        have d1 : wr.cell? ⟨l, k, none⟩ = some (.slice (some ⟨G k, 0, none⟩) cols (U k)) := hk2.out.cell c1 (by simp only; omega)
        by_cases hjc : j < cols
        · have d2 : wr.cell? ⟨G k, j, none⟩ = some (.int .u8 ((H k j).n : Int)) := by have := hown.out.cell hjc; rwa [upto_at] at this
          have z2 := hown.out.frozen j
          have HX : Hid (bits .xor .u8 ((H k j).n : Int) 85 = ((((K.add (H k j) (K.of 85))).n : Nat) : Int)) := xor_k (H k j) (K.of 85)
          have i3 : (0 : Int) ≤ (j : Int) := by omega
          have i4 : (j : Int) < (cols : Int) := by omega
          go_wp2
          refine wp_region_still_tail 14 (by kernel_rfl) (by kernel_rfl) ?_
          simp only [List.take_succ_cons, List.take_zero, List.drop_succ_cons, List.drop_zero]
          repeat still_step
          refine wpStill_nil ?_
          go_wp2
          go_roundw
          case rel => exact ⟨j + 1, by omega, by go_num, by rw [HX.out]; exact (hown.out.store (f := fun y => (K.add (H k y) (K.of 85)))).below (below_drew _ _), (hk2.out.setCell (Nat.le_refl _) (by omega) j _).drew⟩
          case measure => simp [intOf]; omega
        · obtain rfl : j = cols := by omega
          obtain ⟨f, hf⟩ : ∃ f : Nat → K, f = fun y => (K.add (H k y) (K.of 85)) := ⟨_, rfl⟩
          have HOF : Hid (Own wr (G k) j (U k) f) := by rw [hf]; exact hown.out.all
          have HKW : Hid (Keeps B T w wr) := hkeep.out.trans (hk2.out.mono hg1 hg2)
          have hws := HKW.out.size
          have HRS : Hid (Rest wr B T l cl rows j (k + 1) G U H) := by
            obtain ⟨c, hrow, hc'⟩ := hrest.out.lst
            refine ⟨⟨c, hrow.of_block (hk2.out.block l hrow.lt (by omega)), hc'⟩, fun i h1 h2 => ?_⟩
            have := HG.out.2 i k h2 hlt (by omega)
            exact (hrest.out.row i (by omega) h2).keeps hk2.out (by omega)
          obtain ⟨XS, hXS⟩ : ∃ XS, XS = cellsOf j f := ⟨_, rfl⟩
          have HXS : Hid (XS = cellsOf j f) := hXS
          have HOW : Hid (∀ o, (wr.alloc o).ownsRow (G k) 5 1 (.slice (some ⟨G k, 0, none⟩) j (U k)) j XS) := fun o => by rw [hXS]; exact (own_owns HOF.out).alloc o
          have hgl : G k < wr.heap.size := HOF.out.lt
          clear hf hXS hown hk2
          go_wp2_with (at_builtin; refine wpList_append_lies _ (by rfl) (.tmp 37) (.tmp 38) 23 (by rfl) (G k) 5 i0 (.int .u8 0) 1 1 Try.underlying23 hi hz0 hz1 hz2 (by rfl) (by decide) (.slice (some ⟨G k, 0, none⟩) j (U k)) j XS (by rfl) (HOW.out _) ⟨wr.heap.size, 0, none⟩ 8 8 eight (by rfl) (by rfl) (World.news_of_block (heap_alloc_new wr _)) (by simp [eight, Value.oneCell']) (by decide) (by unfold maxLen; omega) (by omega) (by simp; omega) (wr.heap.size + 1) (by simp) ?_; intro g5 cap5 w5 hown5 hgrow5 hwh5 hlt5
                       obtain ⟨v5, c5, z5⟩ := owns_first hown5 (by omega)
                       have HG5 : Hid ((wr.alloc (.cells #[.int .u8 1, .int .u8 2, .int .u8 3, .int .u8 4, .int .u8 5, .int .u8 6, .int .u8 7, .int .u8 8] 5)).grownBy w5 (some (G k))) := hgrow5
                       have HW5 : Hid (g5 = G k ∨ g5 = wr.heap.size + 1) := (by rcases hwh5 with e | e; exact .inl (Option.some.inj e).symm; exact .inr e)
                       clear hown5 hgrow5 hwh5)
          have HK6 : Hid (Keeps B T w (w5.setCell ⟨g5, 0, none⟩ (.int .u8 9))) := by
            refine Keeps.setNew ⟨HG5.out.os.trans HKW.out.os, HG5.out.tape.trans HKW.out.tape, HG5.out.output.trans HKW.out.output, Nat.le_trans hws (Nat.le_trans (by simp) HG5.out.size), fun x hx hb => ?_⟩ (by have := HW5.out; omega) 0 _
            rw [HG5.out.block x (by simp; omega) (fun e => by have := Option.some.inj e; omega), Below.heap_alloc _ _ _ (by omega)]
            exact HKW.out.block x hx hb
          have HR6 : Hid (Rest (w5.setCell ⟨g5, 0, none⟩ (.int .u8 9)) B T l cl rows j (k + 1) G U H) := by
            have bl : ∀ x, x < wr.heap.size → x ≠ G k → (w5.setCell ⟨g5, 0, none⟩ (.int .u8 9)).heap[x]? = wr.heap[x]? := fun x hx hne => by
              have := HW5.out
              rw [Below.heap_setCell _ _ _ _ (by simp; omega), HG5.out.block x (by simp; omega) (fun e => hne (Option.some.inj e)), Below.heap_alloc _ _ _ hx]
            obtain ⟨c, hrow, hc'⟩ := HRS.out.lst
            refine ⟨⟨c, hrow.of_block (bl l hrow.lt (Ne.symm hg3)), hc'⟩, fun i h1 h2 => ?_⟩
            have hr := HRS.out.row i h1 h2
            exact hr.of_block (bl (G i) hr.lt (HG.out.2 i k h2 hlt (by omega)))
          go_wp2_with fail
          go_roundw
          case rel => exact ⟨k + 1, by omega, by go_num, HR6.out, HK6.out⟩
          case measure => simp [intOf]; omega
    · go_wp2
      go_end0
      exact ⟨rfl, hkeep.out⟩

/-- Bytes that were answered, in a list of one, are written over. -/
theorem spoil_row (w : World) (B T n cap : Nat) (ao : Option Addr) (f : Nat → K) (hn : n ≤ 1000) (h : RowSol w B T ao n cap f) (hT : T ≤ w.heap.size) :
    Calls Try.prog 18 #[.slice (some ⟨w.heap.size, 0, none⟩) 1 1] (w.alloc (.cells #[.slice ao n cap] 23)) fun e w' => e = .returned (.tuple #[]) ∧ Keeps B T w w' := by
  rcases h with ⟨rfl, rfl, rfl⟩ | ⟨g, rfl, hB, hg, ho⟩
  · refine (spoil_nil _ w.heap.size (by rw [cell_of_row _ _ _ _ _ _ (heap_alloc_new w _)]; rfl)).mono ?_
    rintro e w' ⟨rfl, hb⟩
    exact ⟨rfl, Keeps.of_below (below_step (below_alloc w _) hb (by simp))⟩
  · refine (spoil_rows (w.alloc (.cells #[.slice (some ⟨g, 0, none⟩) n cap] 23)) B T w.heap.size 1 1 n (fun _ => g) (fun _ => cap) (fun _ => f) (by omega) (by omega) ⟨fun _ => .slice (some ⟨g, 0, none⟩) n cap, ⟨_, heap_alloc_new w _, rfl, fun i hi => ?_⟩, fun i _ => rfl⟩ (fun i _ => ho.alloc _) ⟨fun i _ => ⟨hB, hg, by omega⟩, fun i j hi hj hne => absurd hne (by omega)⟩ (Nat.le_refl _)).mono ?_
    · obtain rfl : i = 0 := by omega
      rfl
    · rintro e w' ⟨rfl, hk⟩
      exact ⟨rfl, ((Keeps.refl B T w).alloc _).trans hk⟩

theorem same_k (w : World) (ao bo : Option Addr) (ll ca cb : Nat) (A B : Nat → Option Addr) (C D L : Nat → Nat) (H : M) (hll : ll ≤ 1000000) (ha : Lst w ao ll A C L H) (hb : Lst w bo ll B D L H) :
    Calls Try.prog 17 #[.slice ao ll ca, .slice bo ll cb] w fun e w' => e = .returned (.bool true) ∧ Below w.heap.size w w' := Ker.sameAll_any w ao bo ll ca cb A B C D L _ hll (lst_ker ha) (lst_ker hb)
/-- Cells, or an error. -/
def OutA (w : World) (n : Nat) (err : Int) (m : Nat) (H : M) (e : Ending) (w' : World) : Prop :=
  ∃ ao cap T U, e = .returned (.tuple #[.slice ao n cap, .int .i64 err]) ∧ Copied w' w.heap.size n (.slice ao n cap) T (fun _ => m) U H ∧ Below w.heap.size w w'
def RowA (w : World) (n : Nat) (err : Int) (f : Nat → K) (e : Ending) (w' : World) : Prop :=
  ∃ ao cap, e = .returned (.tuple #[.slice ao n cap, .int .i64 err]) ∧ RowSol w' w.heap.size w'.heap.size ao n cap f ∧ Below w.heap.size w w'
theorem owns_keeps {w w' : World} {base e n B T : Nat} {v : Value} {xs : List Value} (h : w.ownsRow base e 1 v n xs) (hk : Keeps B T w w') (hT : T ≤ base) : w'.ownsRow base e 1 v n xs := by
  refine ⟨h.1, ?_⟩
  rcases h.2 with h1 | ⟨g, cap, cur, h1, h2, h3, h4⟩
  · exact .inl h1
  · exact .inr ⟨g, cap, cur, h1, h2, (hk.block g (lt_of_block h3) (.inr (by omega))).trans h3, h4⟩
theorem Copied.later {w w' : World} {base k B T : Nat} {v : Value} {A : Nat → Option Addr} {L U : Nat → Nat} {H : M} (h : Copied w base k v A L U H) (hk : Keeps B T w w') (hT : T ≤ base) : Copied w' base k v A L U H :=
  ⟨owns_keeps h.out hk hT, fun i hi => owns_keeps (h.row i hi) hk hT, h.apart⟩
theorem RowSol.below {w w' : World} {B T : Nat} {ao : Option Addr} {n cap : Nat} {f : Nat → K} (h : RowSol w B T ao n cap f) (hb : Below w.heap.size w w') : RowSol w' B T ao n cap f := by
  rcases h with h | ⟨g, e, h1, h2, ho⟩
  · exact .inl h
  · exact .inr ⟨g, e, h1, h2, ho.below hb⟩
theorem RowSol.keeps {w w' : World} {B T B' T' : Nat} {ao : Option Addr} {n cap : Nat} {f : Nat → K} (h : RowSol w B T ao n cap f) (hk : Keeps B' T' w w') (ho' : T ≤ B' ∨ T' ≤ B) : RowSol w' B T ao n cap f := by
  rcases h with h | ⟨g, e, h1, h2, ho⟩
  · exact .inl h
  · exact .inr ⟨g, e, h1, h2, ho.keeps hk (by omega)⟩
theorem RowSol.rd {w : World} {B T : Nat} {ao : Option Addr} {n cap : Nat} {f : Nat → K} (h : RowSol w B T ao n cap f) : Rd w ao n f := by
  rcases h with ⟨rfl, rfl, _⟩ | ⟨g, rfl, _, _, ho⟩
  · exact rd_none _ _
  · exact ho.rd
/-- Where the cells of an answer lie, once they are there. -/
def At_ (w : World) (B T : Nat) (ao : Option Addr) (n cap m : Nat) (U : Nat → Nat) (H : M) : Prop := 0 < n → ∃ l G, ao = some ⟨l, 0, none⟩ ∧ Mat w B T l cap n m G U H
theorem At_.below {w w' : World} {B T : Nat} {ao : Option Addr} {n cap m : Nat} {U : Nat → Nat} {H : M} (h : At_ w B T ao n cap m U H) (hb : Below w.heap.size w w') : At_ w' B T ao n cap m U H := fun hn => by
  obtain ⟨l, G, e, hm⟩ := h hn
  exact ⟨l, G, e, hm.below hb⟩
theorem At_.keeps {w w' : World} {B T B' T' : Nat} {ao : Option Addr} {n cap m : Nat} {U : Nat → Nat} {H : M} (h : At_ w B T ao n cap m U H) (hk : Keeps B' T' w w') (ho : T ≤ B' ∨ T' ≤ B) : At_ w' B T ao n cap m U H := fun hn => by
  obtain ⟨l, G, e, hm⟩ := h hn
  exact ⟨l, G, e, hm.keeps hk ho⟩
theorem at_of {w : World} {B n m cap : Nat} {ao : Option Addr} {T : Nat → Option Addr} {U : Nat → Nat} {H : M} (h : Copied w B n (.slice ao n cap) T (fun _ => m) U H) (hm : 0 < n → 1 ≤ m) : At_ w B w.heap.size ao n cap m U H := fun hn => Copied.mat h (fun _ _ => rfl) (hm hn) hn

theorem lenB_pos {b : Bool} {n : Nat} (h : 0 < lenB b n) : b = true := by
  cases b
  · exact absurd h (Nat.lt_irrefl 0)
  · rfl
/-- What a walk is told of a list of slices that came in, its room too. -/
def IsLstC (w : World) (a : Option Addr) (len cap : Nat) : Prop := IsLst w a len cap ∧ len ≤ cap
theorem isLstC_of {H : Type} {enc : TypeId × Value → H} {w : World} {base : Nat} {held : Bool} {fuel : Nat} {a : Option Addr} {len cap : Nat} {x : DataW H × List MemPlace}
    (h : DataW.trod enc Try.prog w base (fun _ => true) held fuel 27 [.slice a len cap] = some x) : IsLstC w a len cap := by
  refine ⟨isLst_of h, ?_⟩
  rcases Go.Deep.open_int_rows Try.underlying27 Try.underlying23 Try.underlying5 (by kernel_rfl) (by kernel_rfl) h with ⟨hcs, _⟩ | ⟨ad, l, c, A, L, C, Z, hcs, _, hl, hm, _, hr⟩
  · simp at hcs
    obtain ⟨rfl, rfl, rfl⟩ := hcs
    exact Nat.le_refl _
  · simp at hcs
    obtain ⟨rfl, rfl, rfl⟩ := hcs
    exact hl
end Go.Proofs.Ytgflgmkaaidfnaa

