/- The statements' own helpers (a copy with a mark behind it, whether it was kept, what is written over), and what the document answers for padding and zeros. -/
import Derived.Test.YtgkabcefohfmmaaKerJ
import Derived.Laws.AppendOwnNone
import Derived.Deep.AppendLies
namespace Go.Proofs.Ytgkabcefohfmmaa
open Go.RowKit

theorem rd_news {w : World} {ad : Addr} {n : Nat} {f : Nat → Nat} (h : Rd w (some ad) n f) : ∀ j u, (cellsOf n f)[j]? = some u → w.cell? (ad.add j) = some u := by
  intro j u hu
  have hj : j < n := by
    rcases Nat.lt_or_ge j n with h | h
    · exact h
    · rw [List.getElem?_eq_none (by rw [cellsOf_length]; exact h)] at hu; cases hu
  obtain ⟨ad', he, hc⟩ := rd_cells h (by rw [cellsOf_length]; omega)
  obtain rfl : ad = ad' := Option.some.inj he
  exact hc j u hu

/-- Bytes appended to nothing: a row of their own. -/
theorem wpList_append_start {w : World} {ops : Array Oper} {rest : List Oper} {o : Oper} {a : Act} {Q : Exit → Act → World → Prop} (hgd : o.guard = none) (s x : Operand)
    (ho : o.op = .call { callee := .builtin .append, args := #[s, x], argTypes := #[23, 23] }) (hs : a.eval s = .slice none 0 0) (ao : Option Addr) (n ca : Nat) (f : Nat → Nat) (hx : a.eval x = .slice ao n ca)
    (hnil : ao = none → n = 0 ∧ ca = 0) (ha : Rd w ao n f) (hn : n ≤ 1000000)
    (h : ∀ v' w', w'.ownsRow w.heap.size 5 1 v' n (cellsOf n f) → w.grownBy w' none → wpList Try.prog ops Q rest (a.put o.dst v') w') : wpList Try.prog ops Q (o :: rest) a w := by
  obtain ⟨i0, hi, hz0, hz1, hz2⟩ := info_parts info5
  cases ao with
  | none =>
    obtain ⟨rfl, rfl⟩ := hnil rfl
    refine wpList_append_own_none hgd s x 23 ho w.heap.size 5 i0 1 Try.underlying23 hi (.slice none 0 0) 0 [] hs (World.ownsRow_nil _ _ _ _) hx ?_
    exact h _ _ (World.ownsRow_nil _ _ _ _) ⟨rfl, rfl, rfl, Nat.le_refl _, fun _ _ _ => rfl⟩
  | some ad =>
    refine wpList_append_own w hgd s x 23 ho w.heap.size 5 i0 (.int .u8 0) 1 1 Try.underlying23 hi hz0 hz1 hz2 rfl (by decide) (.slice none 0 0) 0 [] hs (World.ownsRow_nil _ _ _ _) ad n ca (cellsOf n f) hx (by rw [cellsOf_length]; omega) (rd_news ha) (cellsOf_one n f) (by unfold maxLen; omega) (by omega) (Nat.le_refl _) ?_
    intro v' w' h1 h2 _
    rw [Nat.zero_add, List.nil_append] at h1
    exact h v' w' h1 h2

theorem grown_below {B : Nat} {w w' : World} {row : Option Nat} (hg : w.grownBy w' row) (hB : B ≤ w.heap.size) (hr : ∀ k, row = some k → B ≤ k) : Below B w w' := (Below.refl B w).grown hg hB hr

/-- The bytes, and 77 behind them. -/
def mark (n : Nat) (f : Nat → Nat) (i : Nat) : Nat := if i = n then 77 else f i
theorem mark_lt {n : Nat} {f : Nat → Nat} (hf : ∀ i, f i < 256) (i : Nat) : mark n f i < 256 := by unfold mark; split; decide; exact hf i
theorem mark_rd {w : World} {ao : Option Addr} {n : Nat} {f : Nat → Nat} (hf : ∀ i, f i < 256) (h : Rd w ao (n + 1) (mark n f)) : Rd w ao n f := by
  refine ⟨hf, fun _ => ?_⟩
  obtain ⟨b, off, rfl, hc⟩ := h.2 (by omega)
  refine ⟨b, off, rfl, fun i hi => ?_⟩
  rw [hc i (by omega), mark, if_neg (by omega)]
theorem owns_mark {w : World} {base g n cap : Nat} {f : Nat → Nat} (hf : ∀ i, f i < 256) (h : w.ownsRow base 5 1 (.slice (some ⟨g, 0, none⟩) (n + 1) cap) (n + 1) (cellsOf n f ++ [.int .u8 77])) :
    Rd w (some ⟨g, 0, none⟩) (n + 1) (mark n f) ∧ n + 1 ≤ cap ∧ cap ≤ 9223372036854775807 ∧ base ≤ g := by
  have hc := h.cells (g := g) rfl
  refine ⟨⟨mark_lt hf, fun _ => ⟨g, 0, rfl, fun i hi => ?_⟩⟩, ?_⟩
  · have := hc i (.int .u8 (mark n f i : Int)) (by
      by_cases e : i = n
      · rw [e, List.getElem?_append_right (by rw [cellsOf_length]; omega), cellsOf_length, Nat.sub_self, mark, if_pos rfl]; rfl
      · rw [List.getElem?_append_left (by rw [cellsOf_length]; omega), cellsOf_get _ _ _ (by omega), mark, if_neg e])
    rw [Addr.add_lit] at this
    exact this
  · rcases h.2 with ⟨h1, _⟩ | ⟨g', cap', cur, h1, h2, _, h3, h4, _⟩
    · cases h1
    · cases h1
      exact ⟨h3, by unfold maxLen at h4; omega, h2⟩

set_option maxHeartbeats 400000 in
theorem lent_any (w : World) (ao : Option Addr) (n ca : Nat) (f : Nat → Nat) (hn : n ≤ 1000000) (hnil : ao = none → n = 0 ∧ ca = 0) (ha : Rd w ao n f) :
    Calls Try.prog 17 #[.slice ao n ca] w fun e w' => ∃ g cap, e = .returned (.slice (some ⟨g, 0, none⟩) n cap) ∧ n + 1 ≤ cap ∧ cap ≤ 9223372036854775807 ∧ w.heap.size ≤ g ∧ Rd w' (some ⟨g, 0, none⟩) (n + 1) (mark n f) ∧ Below w.heap.size w w' := by
  obtain ⟨i0, hi, hz0, hz1, hz2⟩ := info_parts info5
  have HA : Hid (Rd w ao n f) := ha
  have HN : Hid (ao = none → n = 0 ∧ ca = 0) := hnil
  obtain ⟨X, hX⟩ : ∃ X, X = cellsOf n f := ⟨_, rfl⟩
  have HX : Hid (X = cellsOf n f) := hX
  clear ha hnil hX
  go_enter Try.func17, Try.ntmps17
  go_wp2_with (first
    | (at_builtin; refine wpList_append_start (by rfl) (.tmp 4) (.tmp 5) (by rfl) (by rfl) ao n ca f (by rfl) HN.out HA.out hn ?_; intro v1 w1 hown1 hgrow1; rw [← HX.out] at hown1)
    | (at_builtin; refine wpList_append_lies _ (by rfl) (.tmp 7) (.tmp 8) 23 (by rfl) w.heap.size 5 i0 (.int .u8 0) 1 1 Try.underlying23 hi hz0 hz1 hz2 (by rfl) (by decide) v1 n X (by rfl) (hown1.alloc _) ⟨w1.heap.size, 0, none⟩ 1 1 [.int .u8 77] (by rfl) (by rfl) (World.news_of_block (heap_alloc_new w1 _)) (by simp [Value.oneCell']) (by decide) (by unfold maxLen; omega) (by omega) (by have := hgrow1.size; simp; omega) (w1.heap.size + 1) (by simp) ?_; intro g cap w2 hown2 hgrow2 _ _; rw [HX.out] at hown2; obtain ⟨hrd, hcap, hmax, hbase⟩ := owns_mark HA.out.1 hown2; have HR : Hid (Rd w2 (some ⟨g, 0, none⟩) (n + 1) (mark n f)) := hrd; clear hrd hown2))
  go_ret
  have hb1 : Below w.heap.size w w1 := grown_below hgrow1 (Nat.le_refl _) (fun k h => by cases h)
  refine ⟨g, cap, rfl, hcap, hmax, hbase, HR.out, ?_⟩
  refine (hb1.alloc hb1.size _).grown hgrow2 (by have := hb1.size; simp; omega) (fun k h => ?_)
  exact (hown1.lt k h).1

set_option maxHeartbeats 400000 in
theorem kept_any (w : World) (g cap : Nat) (ao : Option Addr) (n ca : Nat) (f : Nat → Nat) (hn : n ≤ 1000000) (h1 : n + 1 ≤ cap) (_ : cap ≤ 9223372036854775807) (hx : Rd w (some ⟨g, 0, none⟩) (n + 1) (mark n f)) (ha : Rd w ao n f) :
    Calls Try.prog 23 #[.slice (some ⟨g, 0, none⟩) n cap, .slice ao n ca] w fun e w' => e = .returned (.bool true) ∧ w' = w := by
  have v1 := conv_any (mark_rd ha.1 hx) cap
  have v2 := conv_any ha ca
  have c1 : w.cell? ⟨g, n, none⟩ = some (.int .u8 77) := by
    obtain ⟨b, off, he, hc⟩ := hx.2 (by omega)
    cases he
    have := hc n (by omega)
    rwa [Nat.zero_add, mark, if_pos rfl] at this
  clear hx ha
  go_enter Try.func23, Try.ntmps23
  go_wp2
  go_ret
  exact ⟨rfl, rfl⟩

theorem Ans.only {w W w' : World} {ro : Option Addr} {n g : Nat} {f : Nat → Nat} (h : Ans w W ro n f) (ho : Only g W w') (hg : Off ro g) : Ans w w' ro n f := by
  rcases h with h | ⟨g', rfl, hg', h'⟩
  · exact .inl h
  · exact .inr ⟨g', rfl, hg', h'.only ho (hg _ rfl)⟩
theorem Ans.lt {w W : World} {ro : Option Addr} {n : Nat} {f : Nat → Nat} (h : Ans w W ro n f) : ∀ a, ro = some a → w.heap.size ≤ a.block ∧ a.block < W.heap.size := by
  rcases h with ⟨rfl, _⟩ | ⟨g', rfl, hg', h'⟩
  · intro a ha; cases ha
  · rintro a ⟨⟩; exact ⟨hg', h'.lt⟩
/-- Bytes that are written over: k of them. -/
def spoilF (f : Nat → Nat) (i : Nat) : Nat := f i ^^^ 85
theorem spoilF_lt {f : Nat → Nat} (hf : ∀ i, f i < 256) (i : Nat) : spoilF f i < 256 := Nat.xor_lt_two_pow (n := 8) (hf i) (by decide)

set_option maxHeartbeats 400000 in
set_option maxRecDepth 100000 in
/-- An answer is written over: all else stays. lo, hi: where its block lies. -/
theorem spoil_any (w0 w : World) (ro : Option Addr) (n cp lo hi : Nat) (f : Nat → Nat) (hn : n ≤ 1000000) (h : Ans w0 w ro n f) (hlo : ∀ a, ro = some a → lo ≤ a.block ∧ a.block < hi) (hw : lo ≤ w.heap.size) :
    Calls Try.prog 22 #[.slice ro n cp] w fun e w' => e = .returned (.tuple #[]) ∧ ∃ g, lo ≤ g ∧ (g < hi ∨ w.heap.size ≤ g) ∧ Only g w w' := by
  rcases h with ⟨rfl, rfl, _⟩ | ⟨g, rfl, _, ho⟩
  · clear hlo
    go_enter Try.func22, Try.ntmps22
    go_wp2
    go_loop [2] (fun i => i = .int .i64 0) (fun i => 0)
    case atStart => rfl
    case round =>
      obtain rfl := hrel
      go_wp2
      go_end0
      exact ⟨rfl, w.heap.size, hw, .inr (Nat.le_refl _), Only.refl _ _⟩
  · obtain ⟨h1, h2⟩ := hlo _ rfl
    have HO : Hid (Own w g n f) := ho
    clear hlo ho
    go_enter Try.func22, Try.ntmps22
    go_wp2
    go_loopw [2] (fun i wr => ∃ k : Nat, k ≤ n ∧ i = .int .i64 k ∧ Hid (Own wr g n (upto k (spoilF f) f)) ∧ Hid (Only g w wr)) (fun i _ => n - (intOf i).toNat)
    case atStart => exact ⟨0, Nat.zero_le _, rfl, by rw [upto_zero]; exact HO.out, Only.refl _ _⟩
    case round =>
      obtain ⟨k, hk, rfl, hown, honly⟩ := hrel
      by_cases hlt : k < n
      · have c1 : wr.cell? ⟨g, k, none⟩ = some (.int .u8 (f k : Int)) := by have := hown.out.2.cell hlt; rwa [upto_at] at this
        have z1 := hown.out.2.frozen k
        have hfk := HO.out.1 k
        have HX : Hid (bits .xor .u8 (f k : Int) 85 = ((spoilF f k : Nat) : Int)) := u8_xor_nat (f k) 85 hfk (by decide)
        go_wp2
        go_roundw
        case rel => exact ⟨k + 1, by omega, by go_num, by rw [HX.out]; exact hown.out.store (spoilF_lt HO.out.1), honly.out.setCell k _⟩
        case measure => simp [intOf]; omega
      · go_wp2
        go_end0
        exact ⟨rfl, g, h1, .inl h2, honly.out⟩

set_option maxHeartbeats 400000 in
set_option maxRecDepth 100000 in
theorem rzero_any (w : World) (ao : Option Addr) (n cp : Nat) (f : Nat → Nat) (hn : n ≤ 1000000) (ha : Rd w ao n f) :
    Calls Try.prog 21 #[.slice ao n cp] w fun e w' => e = .returned (.bool (zeroB n f)) ∧ w' = w := by
  have HA : Hid (Rd w ao n f) := ha
  clear ha
  by_cases hz : ∀ i, i < n → f i = 0
  · have HZ : Hid (∀ i, i < n → f i = 0) := hz
    have hb : zeroB n f = true := decide_eq_true hz
    rw [hb]
    clear hz hb
    go_enter Try.func21, Try.ntmps21
    go_wp2
    go_loop [3] (fun i => ∃ k : Nat, k ≤ n ∧ i = .int .i64 k) (fun i => n - (intOf i).toNat)
    case atStart => exact ⟨0, Nat.zero_le _, rfl⟩
    case round =>
      obtain ⟨k, hk, rfl⟩ := hrel
      by_cases hlt : k < n
      · obtain ⟨b, off, rfl, hc⟩ := HA.out.2 (by omega)
        have ck := hc k hlt
        rw [HZ.out k hlt] at ck
        clear hc
        go_wp2
        go_round
        case rel => exact ⟨k + 1, by omega, by go_num⟩
        case measure => simp [intOf]; omega
      · go_wp2
        go_ret
        exact ⟨rfl, rfl⟩
  · obtain ⟨j, hj, hne, heq⟩ : ∃ j, j < n ∧ ¬ f j = 0 ∧ ∀ i, i < j → f i = 0 := by
      obtain ⟨i, hi⟩ := Classical.not_forall.1 hz
      obtain ⟨h1, h2⟩ := Classical.not_imp.1 hi
      obtain ⟨k, hk, h3, h4⟩ := exists_first (p := fun i => f i = 0) i h2
      exact ⟨k, by omega, h3, h4⟩
    have HE : Hid (∀ i, i < j → f i = 0) := heq
    have HN : Hid (¬ f j = 0) := hne
    have hb : zeroB n f = false := decide_eq_false hz
    rw [hb]
    clear hz hb heq hne
    obtain ⟨b, off, rfl, hc⟩ := HA.out.2 (by omega)
    have HC : Hid (∀ i, i < n → w.cell? ⟨b, off + i, none⟩ = some (.int .u8 (f i : Int))) := hc
    clear hc
    go_enter Try.func21, Try.ntmps21
    go_wp2
    go_loop [3] (fun i => ∃ k : Nat, k ≤ j ∧ i = .int .i64 k) (fun i => n - (intOf i).toNat)
    case atStart => exact ⟨0, Nat.zero_le _, rfl⟩
    case round =>
      obtain ⟨k, hk, rfl⟩ := hrel
      have ck := HC.out k (by omega)
      by_cases hlt : k < j
      · rw [HE.out k hlt] at ck
        go_wp2
        go_round
        case rel => exact ⟨k + 1, by omega, by go_num⟩
        case measure => simp [intOf]; omega
      · obtain rfl : k = j := by omega
        have hb : ((f k : Int) == 0) = false := by
          have := HN.out
          simp; omega
        go_wp2
        go_ret
        exact ⟨rfl, rfl⟩

set_option maxHeartbeats 400000 in
theorem rpad_any (w : World) (ao : Option Addr) (la ca : Nat) (n : Int) (f : Nat → Nat) (hl : la ≤ 1000000) (ha : Rd w ao la f) :
    Calls Try.prog 20 #[.slice ao la ca, .int .i64 n] w (Made w (okD la n) n.toNat (padF la f)) := by
  have HA : Hid (Rd w ao la f) := ha
  clear ha
  by_cases h0 : la ≤ 65536
  · cases hok : okD la n
    · rcases okD_false hok with h1 | ⟨h1, h2⟩
      · clear hok
        go_enter Try.func20, Try.ntmps20
        go_wp2
        go_ret2
        exact ⟨none, rfl, .inl ⟨rfl, rfl, padF_lt HA.out.1⟩, Below.refl _ _⟩
      · clear hok
        go_enter Try.func20, Try.ntmps20
        go_wp2
        go_ret2
        exact ⟨none, rfl, .inl ⟨rfl, rfl, padF_lt HA.out.1⟩, Below.refl _ _⟩
    · obtain ⟨h1, h2⟩ := okD_true hok
      clear hok
      obtain ⟨m, rfl⟩ := Int.eq_ofNat_of_zero_le (show 0 ≤ n by omega)
      rw [Int.toNat_natCast]
      have hmk := run_make_row' (P := Try.prog) 23 5 (.int .u8 0) 1 Try.underlying23 info5 rfl .i64 .i64 m (by omega) (by omega)
      rw [made_zero] at hmk
      have hsz : (Try.prog.info? 5).map (·.size) = some 1 := by kernel_rfl
      obtain ⟨Z, hZ⟩ : ∃ Z, Z = cellsOf m (fun _ => 0) := ⟨_, rfl⟩
      obtain ⟨X, hX⟩ : ∃ X, X = cellsOf la f := ⟨_, rfl⟩
      rw [← hZ] at hmk
      have HZ : Hid (Z = cellsOf m (fun _ => 0)) := hZ
      have HX : Hid (X = cellsOf la f) := hX
      clear hZ hX
      go_enter Try.func20, Try.ntmps20
      go_wp2_with (refine wpList_copy_splice (by rfl) (.tmp 22) (.tmp 23) 23 23 (by rfl) 5 Try.underlying23 hsz (some ⟨w.heap.size, 0, none⟩) ao m m la ca (by rfl) (by rfl) w.heap.size 0 Z 5 (by exact heap_alloc_new w _) X (by rw [HX.out, cellsOf_length]; simp [Nat.min_def]; omega) (by intro hp; refine ⟨rfl, ?_⟩; rw [HX.out] at hp ⊢; exact rd_cells (HA.out.below ((Below.refl _ w).alloc (Nat.le_refl _) _)) hp) (by rw [HX.out, HZ.out, cellsOf_length, cellsOf_length]; omega) (by rw [HX.out]; exact cellsOf_one _ _) w.heap.size w (by exact (Below.refl _ w).alloc (Nat.le_refl _) _) (Nat.le_refl _) ?_; intro w2 HG2 hB2)
      go_ret2
      refine ⟨_, rfl, .inr ⟨_, rfl, Nat.le_refl _, splice_row HA.out.1 (show la ≤ m by omega) ?_⟩, hB2⟩
      have := HG2.out
      rwa [HX.out, HZ.out] at this
  · rw [show okD la n = false by simp [okD]; omega]
    go_enter Try.func20, Try.ntmps20
    go_wp2
    go_ret2
    exact ⟨none, rfl, .inl ⟨rfl, rfl, padF_lt HA.out.1⟩, Below.refl _ _⟩
end Go.Proofs.Ytgkabcefohfmmaa
