/- Whether a code may be; which cells are there. -/
import Derived.Test.YthkikocacbbhkaaCodMath
import Derived.Test.YthkikocacbbhkaaMatO
namespace Go.Proofs.Ythkikocacbbhkaa
open Go.RowKit

def mayB (k r : Int) : Bool := decide (1 ≤ k ∧ k ≤ 12 ∧ 0 ≤ r ∧ r ≤ 4)
theorem mayB_true {k r : Int} (h : mayB k r = true) : 1 ≤ k ∧ k ≤ 12 ∧ 0 ≤ r ∧ r ≤ 4 := of_decide_eq_true h
theorem may_any (w : World) (k r : Int) : Calls Try.prog 23 #[.int .i64 k, .int .i64 r] w fun e w' => e = .returned (.bool (mayB k r)) ∧ w' = w := by
  by_cases h1 : 1 ≤ k
  · by_cases h2 : k ≤ 12
    · by_cases h3 : 0 ≤ r
      · by_cases h4 : r ≤ 4
        · rw [show mayB k r = true from decide_eq_true ⟨h1, h2, h3, h4⟩]
          go_enter Try.func23, Try.ntmps23
          go_wp2
          go_ret
          exact ⟨by simp, rfl⟩
        · rw [show mayB k r = false from decide_eq_false fun h => h4 h.2.2.2]
          go_enter Try.func23, Try.ntmps23
          go_wp2
          go_ret
          exact ⟨by simp, rfl⟩
      · rw [show mayB k r = false from decide_eq_false fun h => h3 h.2.2.1]
        go_enter Try.func23, Try.ntmps23
        go_wp2
        go_ret
        exact ⟨by simp, rfl⟩
    · rw [show mayB k r = false from decide_eq_false fun h => h2 h.2.1]
      go_enter Try.func23, Try.ntmps23
      go_wp2
      go_ret
      exact ⟨by simp, rfl⟩
  · rw [show mayB k r = false from decide_eq_false fun h => h1 h.1]
    go_enter Try.func23, Try.ntmps23
    go_wp2
    go_ret
    exact ⟨by simp, rfl⟩

/-- The numbers of the cells that are there, or an error. -/
def okC (ll : Nat) (L : Nat → Nat) (many : Int) : Bool := decide ((ll : Int) = many) && okT L ll
def There (w : World) (ll : Nat) (L : Nat → Nat) (many : Int) (e : Ending) (w' : World) : Prop :=
  ∃ ao cap, e = .returned (.tuple #[.slice ao (lenB (okC ll L many) (cnt L ll)) cap, .int .i64 (errB (okC ll L many) 40)]) ∧ RdI w' ao (lenB (okC ll L many) (cnt L ll)) (fun t => (sel L ll t : Int)) ∧ lenB (okC ll L many) (cnt L ll) ≤ cap ∧ cap ≤ maxLen ∧ Below w.heap.size w w'
theorem rdI_nil (w : World) (ao : Option Addr) (R : Nat → Int) : RdI w ao 0 R := fun h => absurd h (Nat.lt_irrefl 0)
theorem owns_cap {w : World} {base e n cap : Nat} {ao : Option Addr} {xs : List Value} (h : w.ownsRow base e 1 (.slice ao n cap) n xs) : n ≤ cap ∧ cap ≤ maxLen := by
  rcases h.2 with ⟨h1, h2⟩ | ⟨g, cap', cur, h1, _, _, h4, h5, _⟩
  · cases h1; exact ⟨Nat.le_refl _, Nat.zero_le _⟩
  · cases h1; exact ⟨h4, h5⟩

set_option maxHeartbeats 2000000 in
set_option maxRecDepth 100000 in
theorem there_any (w : World) (lo : Option Addr) (ll cl : Nat) (A : Nat → Option Addr) (C L : Nat → Nat) (H : M) (many : Int) (hm : many ≤ 16) (hl : Lst w lo ll A C L H) :
    Calls Try.prog 24 #[.slice lo ll cl, .int .i64 many] w (There w ll L many) := by
  have HL : Hid (Lst w lo ll A C L H) := hl
  clear hl
  by_cases hmany : (ll : Int) = many
  · subst hmany
    obtain ⟨i0, hi, hi0, hi1, hi2⟩ := info_parts info3
    have hbq : ((ll : Int) != (ll : Int)) = false := by simp
    cases hok : okT L ll
    · obtain ⟨q, hq, hq1, hq2, hq3⟩ := okT_first hok
      have HOK : Hid (okC ll L (ll : Int) = false) := by show _ = _; unfold okC; rw [hok, Bool.and_false]
      have HQ1 : Hid (okT L q = true) := hq1
      have HQ2 : Hid (L q ≠ 0) := hq2
      have HQ3 : Hid (65536 < L q ∨ L q ≠ len0 L (q + 1)) := hq3
      clear hok hq1 hq2 hq3
      go_enter Try.func24, Try.ntmps24
      go_wp2
      go_loopw [6, 15] (fun v x wr => ∃ i : Nat, i ≤ q ∧ x = .int .i64 i ∧ (∃ ao cap, v = .slice ao (cnt L i) cap) ∧ Hid (wr.ownsRow w.heap.size 3 1 v (cnt L i) (intsOf (cnt L i) (sel L i))) ∧ Hid (Below w.heap.size w wr)) (fun _ x _ => ll - (intOf x).toNat)
      case atStart => exact ⟨0, Nat.zero_le _, rfl, ⟨none, 0, rfl⟩, World.ownsRow_nil _ _ _ _, Below.refl _ _⟩
      case round =>
        obtain ⟨i, hiq, rfl, ⟨ao, cap, rfl⟩, hown, hbel⟩ := hrel
        have hlt : i < ll := by omega
        by_cases hiq2 : i < q
        · obtain ⟨b, off, rfl, hcl⟩ := HL.out.at_ (by omega)
          have hlb := World.block_lt_of_cell? w _ (hcl i hlt)
          simp only at hlb
          have ck := held (hcl i hlt) hbel.out
          have j1 : (0 : Int) ≤ (i : Int) := by omega
          have j2 : (i : Int) < (ll : Int) := by omega
          by_cases hz : L i = 0
          · rw [hz] at ck
            have HS : Hid (cnt L (i + 1) = cnt L i ∧ sel L (i + 1) = sel L i) := ⟨cnt_skip hz, sel_skip hz⟩
            clear hz hcl
            go_wp2
            go_roundw
            case rel => exact ⟨i + 1, by omega, by go_num, ⟨ao, cap, by rw [HS.out.1]⟩, by rw [HS.out.1, HS.out.2]; exact hown, hbel⟩
            case measure => simp [intOf]; omega
          · obtain ⟨ct, hct⟩ : ∃ ct, ct = cnt L i := ⟨_, rfl⟩
            obtain ⟨XS, hXS⟩ : ∃ XS, XS = intsOf ct (sel L i) := ⟨_, rfl⟩
            have hws := hbel.out.size
            have hcti : ct ≤ i := by rw [hct]; exact cnt_le L i
            have hst := okT_step HQ1.out hiq2 hz
            have hle : L i ≤ 65536 := hst.1
            have hlp : 0 < L i := by omega
            obtain ⟨s, hs⟩ : ∃ s, s = sel L (i + 1) 0 := ⟨_, rfl⟩
            have hc1 : 0 < cnt L (i + 1) := by rw [cnt_take hz]; omega
            have hsl : s < ll := by rw [hs]; have := (sel_is L (i + 1)).lt 0 hc1; omega
            have hLs : L s = L i := by
              rcases len0_sel L (i + 1) with ⟨h1, _⟩ | ⟨_, h2, _⟩
              · omega
              · rw [hs, ← h2]; exact hst.2.symm
            have cs : w.cell? ⟨b, off + s, none⟩ = some (.slice (A s) (L s) (C s)) := hcl s hsl
            rw [hLs] at cs
            have HOW : Hid (∀ o, (wr.alloc o).ownsRow w.heap.size 3 1 (.slice ao ct cap) ct XS) := fun o => by rw [hXS, hct]; exact hown.out.alloc o
            have HXS : Hid (XS ++ [.int .i64 (i : Int)] = intsOf (cnt L (i + 1)) (sel L (i + 1))) := by show _ = _; rw [cnt_take hz, sel_take hz, intsOf_put, hXS, hct]
            have HCT : Hid (cnt L (i + 1) = ct + 1) := by show _ = _; rw [cnt_take hz, hct]
            have HSS : Hid (s = sel L (i + 1) 0) := hs
            have HG0 : Hid ((XS ++ [.int .i64 (i : Int)])[0]? = some (.int .i64 (s : Int))) := by show _ = _; rw [HXS.out, intsOf_get _ _ _ hc1, hs]
            rw [← hct]
            have j3 : (0 : Int) ≤ (s : Int) := by omega
            have j4 : (s : Int) < (ll : Int) := by omega
            have hbn : ((L i : Int) != (L i : Int)) = false := by simp
            have hdn : decide ((65536 : Int) < (L i : Int)) = false := by simp; omega
            clear hz hcl hst hct hXS hs hLs hc1
            go_wp2_with (at_builtin; refine wpList_append_lies _ (by rfl) (.tmp 23) (.tmp 25) 37 (by rfl) w.heap.size 3 i0 (.int .i64 0) 1 8 Try.underlying37 hi hi0 hi1 hi2 (by rfl) (by decide) (.slice ao ct cap) ct XS (by rfl) (HOW.out _) ⟨wr.heap.size, 0, none⟩ 1 1 [.int .i64 (i : Int)] (by rfl) (by rfl) (World.news_of_block (heap_alloc_new wr _)) (by simp [Value.oneCell']) (by decide) (by unfold maxLen; omega) (by omega) (by simp; omega) (wr.heap.size + 1) (by simp) ?_; intro g5 cap5 w5 hown5 hgrow5 _ _
                         have HO5 : Hid (w5.ownsRow w.heap.size 3 1 (.slice (some ⟨g5, 0, none⟩) (ct + 1) cap5) (ct + 1) (XS ++ [.int .i64 (i : Int)])) := hown5
                         have b5 : Below w.heap.size w w5 := (hbel.out.alloc hws _).grown hgrow5 (by simp; omega) (fun q hq => ((HOW.out (.cells #[] 3)).lt q hq).1)
                         have e1 : w5.cell? ⟨g5, 0, none⟩ = some (.int .i64 (s : Int)) := (by have := HO5.out.cells (g := g5) rfl 0 _ HG0.out; rw [Addr.add_lit] at this; exact this)
                         have e2 : w5.cell? ⟨b, off + s, none⟩ = some (.slice (A s) (L i) (C s)) := held cs b5
                         have B5 : Hid (Below w.heap.size w w5) := b5
                         clear hown5 hgrow5 b5)
            go_roundw
            case rel => exact ⟨i + 1, by omega, by go_num, ⟨_, _, by rw [HCT.out]⟩, by rw [← HXS.out, HCT.out]; exact HO5.out, B5.out⟩
            case measure => simp [intOf]; omega
        · obtain rfl : i = q := by omega
          obtain ⟨b, off, rfl, hcl⟩ := HL.out.at_ (by omega)
          have hlb := World.block_lt_of_cell? w _ (hcl i hlt)
          simp only at hlb
          have ck := held (hcl i hlt) hbel.out
          have j1 : (0 : Int) ≤ (i : Int) := by omega
          have j2 : (i : Int) < (ll : Int) := by omega
          have hz : L i ≠ 0 := HQ2.out
          by_cases hbig : 65536 < L i
          · have hdn : decide ((65536 : Int) < (L i : Int)) = true := by simp; omega
            obtain ⟨ct, hct⟩ : ∃ ct, ct = cnt L i := ⟨_, rfl⟩
            obtain ⟨XS, hXS⟩ : ∃ XS, XS = intsOf ct (sel L i) := ⟨_, rfl⟩
            have hws := hbel.out.size
            have hcti : ct ≤ i := by rw [hct]; exact cnt_le L i
            have hlp : 0 < L i := by omega
            obtain ⟨s, hs⟩ : ∃ s, s = sel L (i + 1) 0 := ⟨_, rfl⟩
            have hc1 : 0 < cnt L (i + 1) := by rw [cnt_take hz]; omega
            have hsl : s < ll := by rw [hs]; have := (sel_is L (i + 1)).lt 0 hc1; omega
            have cs : w.cell? ⟨b, off + s, none⟩ = some (.slice (A s) (L s) (C s)) := hcl s hsl
            have HOW : Hid (∀ o, (wr.alloc o).ownsRow w.heap.size 3 1 (.slice ao ct cap) ct XS) := fun o => by rw [hXS, hct]; exact hown.out.alloc o
            have HXS : Hid (XS ++ [.int .i64 (i : Int)] = intsOf (cnt L (i + 1)) (sel L (i + 1))) := by show _ = _; rw [cnt_take hz, sel_take hz, intsOf_put, hXS, hct]
            have HCT : Hid (cnt L (i + 1) = ct + 1) := by show _ = _; rw [cnt_take hz, hct]
            have HSS : Hid (s = sel L (i + 1) 0) := hs
            have HG0 : Hid ((XS ++ [.int .i64 (i : Int)])[0]? = some (.int .i64 (s : Int))) := by show _ = _; rw [HXS.out, intsOf_get _ _ _ hc1, hs]
            rw [← hct]
            have j3 : (0 : Int) ≤ (s : Int) := by omega
            have j4 : (s : Int) < (ll : Int) := by omega
            clear hz hcl hct hXS hs hc1
            go_wp2_with (at_builtin; refine wpList_append_lies _ (by rfl) (.tmp 23) (.tmp 25) 37 (by rfl) w.heap.size 3 i0 (.int .i64 0) 1 8 Try.underlying37 hi hi0 hi1 hi2 (by rfl) (by decide) (.slice ao ct cap) ct XS (by rfl) (HOW.out _) ⟨wr.heap.size, 0, none⟩ 1 1 [.int .i64 (i : Int)] (by rfl) (by rfl) (World.news_of_block (heap_alloc_new wr _)) (by simp [Value.oneCell']) (by decide) (by unfold maxLen; omega) (by omega) (by simp; omega) (wr.heap.size + 1) (by simp) ?_; intro g5 cap5 w5 hown5 hgrow5 _ _
                         have HO5 : Hid (w5.ownsRow w.heap.size 3 1 (.slice (some ⟨g5, 0, none⟩) (ct + 1) cap5) (ct + 1) (XS ++ [.int .i64 (i : Int)])) := hown5
                         have b5 : Below w.heap.size w w5 := (hbel.out.alloc hws _).grown hgrow5 (by simp; omega) (fun q hq => ((HOW.out (.cells #[] 3)).lt q hq).1)
                         have e1 : w5.cell? ⟨g5, 0, none⟩ = some (.int .i64 (s : Int)) := (by have := HO5.out.cells (g := g5) rfl 0 _ HG0.out; rw [Addr.add_lit] at this; exact this)
                         have e2 : w5.cell? ⟨b, off + s, none⟩ = some (.slice (A s) (L s) (C s)) := held cs b5
                         have B5 : Hid (Below w.heap.size w w5) := b5
                         clear hown5 hgrow5 b5)
            go_ret2
            exact ⟨none, 0, by rw [HOK.out]; rfl, by rw [HOK.out]; exact rdI_nil _ _ _, by rw [HOK.out]; exact Nat.le_refl _, Nat.zero_le _, B5.out⟩
          · have hle : L i ≤ 65536 := by omega
            have hdn : decide ((65536 : Int) < (L i : Int)) = false := by simp; omega
            have hbn : ((L i : Int) != (L (sel L (i + 1) 0) : Int)) = true := by
              have h0 : L i ≠ len0 L (i + 1) := by rcases HQ3.out with g | g; exact absurd g hbig; exact g
              rcases len0_sel L (i + 1) with ⟨h1, _⟩ | ⟨_, h2, _⟩
              · have := cnt_take hz; omega
              · rw [h2] at h0
                simp; omega
            clear hbig
            obtain ⟨ct, hct⟩ : ∃ ct, ct = cnt L i := ⟨_, rfl⟩
            obtain ⟨XS, hXS⟩ : ∃ XS, XS = intsOf ct (sel L i) := ⟨_, rfl⟩
            have hws := hbel.out.size
            have hcti : ct ≤ i := by rw [hct]; exact cnt_le L i
            have hlp : 0 < L i := by omega
            obtain ⟨s, hs⟩ : ∃ s, s = sel L (i + 1) 0 := ⟨_, rfl⟩
            rw [← hs] at hbn
            have hc1 : 0 < cnt L (i + 1) := by rw [cnt_take hz]; omega
            have hsl : s < ll := by rw [hs]; have := (sel_is L (i + 1)).lt 0 hc1; omega
            have cs : w.cell? ⟨b, off + s, none⟩ = some (.slice (A s) (L s) (C s)) := hcl s hsl
            have HOW : Hid (∀ o, (wr.alloc o).ownsRow w.heap.size 3 1 (.slice ao ct cap) ct XS) := fun o => by rw [hXS, hct]; exact hown.out.alloc o
            have HXS : Hid (XS ++ [.int .i64 (i : Int)] = intsOf (cnt L (i + 1)) (sel L (i + 1))) := by show _ = _; rw [cnt_take hz, sel_take hz, intsOf_put, hXS, hct]
            have HCT : Hid (cnt L (i + 1) = ct + 1) := by show _ = _; rw [cnt_take hz, hct]
            have HSS : Hid (s = sel L (i + 1) 0) := hs
            have HG0 : Hid ((XS ++ [.int .i64 (i : Int)])[0]? = some (.int .i64 (s : Int))) := by show _ = _; rw [HXS.out, intsOf_get _ _ _ hc1, hs]
            rw [← hct]
            have j3 : (0 : Int) ≤ (s : Int) := by omega
            have j4 : (s : Int) < (ll : Int) := by omega
            clear hz hcl hct hXS hs hc1
            go_wp2_with (at_builtin; refine wpList_append_lies _ (by rfl) (.tmp 23) (.tmp 25) 37 (by rfl) w.heap.size 3 i0 (.int .i64 0) 1 8 Try.underlying37 hi hi0 hi1 hi2 (by rfl) (by decide) (.slice ao ct cap) ct XS (by rfl) (HOW.out _) ⟨wr.heap.size, 0, none⟩ 1 1 [.int .i64 (i : Int)] (by rfl) (by rfl) (World.news_of_block (heap_alloc_new wr _)) (by simp [Value.oneCell']) (by decide) (by unfold maxLen; omega) (by omega) (by simp; omega) (wr.heap.size + 1) (by simp) ?_; intro g5 cap5 w5 hown5 hgrow5 _ _
                         have HO5 : Hid (w5.ownsRow w.heap.size 3 1 (.slice (some ⟨g5, 0, none⟩) (ct + 1) cap5) (ct + 1) (XS ++ [.int .i64 (i : Int)])) := hown5
                         have b5 : Below w.heap.size w w5 := (hbel.out.alloc hws _).grown hgrow5 (by simp; omega) (fun q hq => ((HOW.out (.cells #[] 3)).lt q hq).1)
                         have e1 : w5.cell? ⟨g5, 0, none⟩ = some (.int .i64 (s : Int)) := (by have := HO5.out.cells (g := g5) rfl 0 _ HG0.out; rw [Addr.add_lit] at this; exact this)
                         have e2 : w5.cell? ⟨b, off + s, none⟩ = some (.slice (A s) (L s) (C s)) := held cs b5
                         have B5 : Hid (Below w.heap.size w w5) := b5
                         clear hown5 hgrow5 b5)
            go_ret2
            exact ⟨none, 0, by rw [HOK.out]; rfl, by rw [HOK.out]; exact rdI_nil _ _ _, by rw [HOK.out]; exact Nat.le_refl _, Nat.zero_le _, B5.out⟩
    · have HOK : Hid (okC ll L (ll : Int) = true) := by show _ = _; unfold okC; rw [hok]; simp
      have HT : Hid (okT L ll = true) := hok
      clear hok
      go_enter Try.func24, Try.ntmps24
      go_wp2
      go_loopw [6, 15] (fun v x wr => ∃ i : Nat, i ≤ ll ∧ x = .int .i64 i ∧ (∃ ao cap, v = .slice ao (cnt L i) cap) ∧ Hid (wr.ownsRow w.heap.size 3 1 v (cnt L i) (intsOf (cnt L i) (sel L i))) ∧ Hid (Below w.heap.size w wr)) (fun _ x _ => ll - (intOf x).toNat)
      case atStart => exact ⟨0, Nat.zero_le _, rfl, ⟨none, 0, rfl⟩, World.ownsRow_nil _ _ _ _, Below.refl _ _⟩
      case round =>
        obtain ⟨i, hil, rfl, ⟨ao, cap, rfl⟩, hown, hbel⟩ := hrel
        by_cases hlt : i < ll
        · obtain ⟨b, off, rfl, hcl⟩ := HL.out.at_ (by omega)
          have hlb := World.block_lt_of_cell? w _ (hcl i hlt)
          simp only at hlb
          have ck := held (hcl i hlt) hbel.out
          have j1 : (0 : Int) ≤ (i : Int) := by omega
          have j2 : (i : Int) < (ll : Int) := by omega
          by_cases hz : L i = 0
          · rw [hz] at ck
            have HS : Hid (cnt L (i + 1) = cnt L i ∧ sel L (i + 1) = sel L i) := ⟨cnt_skip hz, sel_skip hz⟩
            clear hz hcl
            go_wp2
            go_roundw
            case rel => exact ⟨i + 1, by omega, by go_num, ⟨ao, cap, by rw [HS.out.1]⟩, by rw [HS.out.1, HS.out.2]; exact hown, hbel⟩
            case measure => simp [intOf]; omega
          · obtain ⟨ct, hct⟩ : ∃ ct, ct = cnt L i := ⟨_, rfl⟩
            obtain ⟨XS, hXS⟩ : ∃ XS, XS = intsOf ct (sel L i) := ⟨_, rfl⟩
            have hws := hbel.out.size
            have hcti : ct ≤ i := by rw [hct]; exact cnt_le L i
            have hst := okT_step HT.out hlt hz
            have hle : L i ≤ 65536 := hst.1
            have hlp : 0 < L i := by omega
            obtain ⟨s, hs⟩ : ∃ s, s = sel L (i + 1) 0 := ⟨_, rfl⟩
            have hc1 : 0 < cnt L (i + 1) := by rw [cnt_take hz]; omega
            have hsl : s < ll := by rw [hs]; have := (sel_is L (i + 1)).lt 0 hc1; omega
            have hLs : L s = L i := by
              rcases len0_sel L (i + 1) with ⟨h1, _⟩ | ⟨_, h2, _⟩
              · omega
              · rw [hs, ← h2]; exact hst.2.symm
            have cs : w.cell? ⟨b, off + s, none⟩ = some (.slice (A s) (L s) (C s)) := hcl s hsl
            rw [hLs] at cs
            have HOW : Hid (∀ o, (wr.alloc o).ownsRow w.heap.size 3 1 (.slice ao ct cap) ct XS) := fun o => by rw [hXS, hct]; exact hown.out.alloc o
            have HXS : Hid (XS ++ [.int .i64 (i : Int)] = intsOf (cnt L (i + 1)) (sel L (i + 1))) := by show _ = _; rw [cnt_take hz, sel_take hz, intsOf_put, hXS, hct]
            have HCT : Hid (cnt L (i + 1) = ct + 1) := by show _ = _; rw [cnt_take hz, hct]
            have HSS : Hid (s = sel L (i + 1) 0) := hs
            have HG0 : Hid ((XS ++ [.int .i64 (i : Int)])[0]? = some (.int .i64 (s : Int))) := by show _ = _; rw [HXS.out, intsOf_get _ _ _ hc1, hs]
            rw [← hct]
            have j3 : (0 : Int) ≤ (s : Int) := by omega
            have j4 : (s : Int) < (ll : Int) := by omega
            have hbn : ((L i : Int) != (L i : Int)) = false := by simp
            have hdn : decide ((65536 : Int) < (L i : Int)) = false := by simp; omega
            clear hz hcl hst hct hXS hs hLs hc1
            go_wp2_with (at_builtin; refine wpList_append_lies _ (by rfl) (.tmp 23) (.tmp 25) 37 (by rfl) w.heap.size 3 i0 (.int .i64 0) 1 8 Try.underlying37 hi hi0 hi1 hi2 (by rfl) (by decide) (.slice ao ct cap) ct XS (by rfl) (HOW.out _) ⟨wr.heap.size, 0, none⟩ 1 1 [.int .i64 (i : Int)] (by rfl) (by rfl) (World.news_of_block (heap_alloc_new wr _)) (by simp [Value.oneCell']) (by decide) (by unfold maxLen; omega) (by omega) (by simp; omega) (wr.heap.size + 1) (by simp) ?_; intro g5 cap5 w5 hown5 hgrow5 _ _
                         have HO5 : Hid (w5.ownsRow w.heap.size 3 1 (.slice (some ⟨g5, 0, none⟩) (ct + 1) cap5) (ct + 1) (XS ++ [.int .i64 (i : Int)])) := hown5
                         have b5 : Below w.heap.size w w5 := (hbel.out.alloc hws _).grown hgrow5 (by simp; omega) (fun q hq => ((HOW.out (.cells #[] 3)).lt q hq).1)
                         have e1 : w5.cell? ⟨g5, 0, none⟩ = some (.int .i64 (s : Int)) := (by have := HO5.out.cells (g := g5) rfl 0 _ HG0.out; rw [Addr.add_lit] at this; exact this)
                         have e2 : w5.cell? ⟨b, off + s, none⟩ = some (.slice (A s) (L i) (C s)) := held cs b5
                         have B5 : Hid (Below w.heap.size w w5) := b5
                         clear hown5 hgrow5 b5)
            go_roundw
            case rel => exact ⟨i + 1, by omega, by go_num, ⟨_, _, by rw [HCT.out]⟩, by rw [← HXS.out, HCT.out]; exact HO5.out, B5.out⟩
            case measure => simp [intOf]; omega
        · obtain rfl : i = ll := by omega
          have HR : Hid (RdI wr ao (cnt L i) (fun t => (sel L i t : Int))) := owns_rdI hown.out
          have hcp := owns_cap hown.out
          go_wp2
          go_ret2
          refine ⟨ao, cap, ?_, ?_, ?_, hcp.2, hbel.out⟩
          · rw [HOK.out]; rfl
          · rw [HOK.out]; exact HR.out
          · rw [HOK.out]; exact hcp.1
  · have hbq : ((ll : Int) != many) = true := by simp [hmany]
    have HOK : Hid (okC ll L many = false) := by show _ = _; unfold okC; rw [decide_eq_false hmany]; rfl
    clear hmany
    go_enter Try.func24, Try.ntmps24
    go_wp2
    go_ret2
    exact ⟨none, 0, by rw [HOK.out]; rfl, by rw [HOK.out]; exact rdI_nil _ _ _, by rw [HOK.out]; exact Nat.le_refl _, Nat.zero_le _, Below.refl _ _⟩
end Go.Proofs.Ythkikocacbbhkaa
