/- A quoted name read, by the program: letter by letter. -/
import Derived.Test.YtdiecjkmbmgbkaaDoorNmH
namespace Go.Proofs.YtdiecjkmbmgbkaaDoor
open Go.RowKit

/-- The letter at a place is a quote just where the byte is one; a letter of one byte is gone by. -/
theorem rune_at (l : Nm) (p : Nat) (h : p < l.length) : ((Utf8.decode ⟨l.toArray⟩ p).1 = 34 ↔ l[p] = 34) ∧ (l[p].toNat < 128 → (Utf8.decode ⟨l.toArray⟩ p).2 = 1) ∧ 1 ≤ (Utf8.decode ⟨l.toArray⟩ p).2 := by
  have hs : p < (ByteArray.mk l.toArray).size := by rw [str_size]; exact h
  have e : (ByteArray.mk l.toArray)[p]'hs = l[p] := rfl
  by_cases ha : l[p].toNat < 128
  · have := decode_ascii ⟨l.toArray⟩ p hs (by rw [e]; exact ha)
    rw [this, e]
    refine ⟨?_, fun _ => rfl, Nat.le_refl _⟩
    constructor
    · intro g; exact UInt8.toNat_inj.1 g
    · intro g; rw [g]; rfl
  · have := decode_high ⟨l.toArray⟩ p hs (by rw [e]; omega)
    refine ⟨?_, fun g => absurd g ha, this.2⟩
    constructor
    · intro g; omega
    · intro g; rw [g] at ha; exact absurd (by decide) ha
/-- A thing's bytes are letters of one byte each. -/
theorem thg_ascii {l : Nm} {p : Nat} (h0 : (thg (l.drop p)).2 ≠ 0) : p + (thg (l.drop p)).2 ≤ l.length ∧ ∀ j (hj : j < l.length), p ≤ j → j < p + (thg (l.drop p)).2 → l[j].toNat < 128 := by
  obtain ⟨h1, h2⟩ := shw_thg _ h0
  have hle := thg_le (l.drop p)
  rw [List.length_drop] at hle
  have hp : p ≤ l.length := by
    rcases Nat.lt_or_ge l.length p with h | h
    · omega
    · exact h
  refine ⟨by omega, fun j hj hpj hjn => ?_⟩
  have hm : l[j] ∈ shw (thg (l.drop p)).1 := by
    rw [← h1]
    have : l[j] = ((l.drop p).take (thg (l.drop p)).2)[j - p]'(by simp; omega) := by
      simp [show p + (j - p) = j by omega]
    rw [this]
    exact List.getElem_mem _
  have := (quo_range [(thg (l.drop p)).1] l[j] (by simp [quo, hm])).2
  rw [UInt8.le_iff_toNat_le] at this
  have e : (126 : UInt8).toNat = 126 := rfl
  omega
/-- Where the program stands: so many quotes met, at a letter's place, the next thing's place, what was read. -/
def St (l : Nm) (k pos nx : Nat) (acc : Nm) : Prop :=
  (k = 0 ∧ pos = 0 ∧ nx = 0 ∧ acc = []) ∨
  (k = 1 ∧ 1 ≤ pos ∧ pos ≤ l.length ∧ nx ≤ l.length ∧ acc.length ≤ max pos nx ∧ (∀ j (hj : j < l.length), pos ≤ j → j < nx → l[j].toNat < 128) ∧ ∃ u, unq l = rdq l u (max pos nx) acc ∧ l.length < max pos nx + u) ∨
  (k = 2 ∧ nx ≤ pos ∧ 1 ≤ pos ∧ pos ≤ l.length ∧ acc.length ≤ pos ∧ unq l = if pos = l.length then (true, acc, 0) else (false, [], pos))
/-- What unquoted tells of a text. -/
def AnsQ (w : World) (l : Nm) (r : Ending) (w' : World) : Prop := r = .returned (.tuple #[.string ⟨(unq l).2.1.toArray⟩, .int .i64 (((unq l).2.2 : Nat) : Int), .int .i64 (if (unq l).1 = true then 0 else 6)]) ∧ Below w.heap.size w w'
theorem ansQ_no {w w' : World} {l : Nm} {p : Nat} (h : unq l = (false, [], p)) (hb : Below w.heap.size w w') : AnsQ w l (.returned (.tuple #[.string ⟨#[]⟩, .int .i64 (p : Int), .int .i64 6])) w' := ⟨by rw [h]; rfl, hb⟩
theorem ansQ_yes {w w' : World} {l n : Nm} (h : unq l = (true, n, 0)) (hb : Below w.heap.size w w') : AnsQ w l (.returned (.tuple #[.string ⟨n.toArray⟩, .int .i64 0, .int .i64 0])) w' := ⟨by rw [h]; rfl, hb⟩
set_option maxHeartbeats 4000000 in
set_option maxRecDepth 100000 in
theorem unquoted_any (l : Nm) (hl : l.length ≤ 100000) (w : World) (hsy : Syn w) : Calls Tryd.prog 28 #[.string ⟨l.toArray⟩] w fun r w' => AnsQ w l r w' := by
  have hs := str_size l
  go_enter Tryd.func28, Tryd.ntmps28
  go_wp2_with (fail)
  go_loopw [6, 7] (fun q x wr => ∃ (pos nx k : Nat) (acc : Nm), q = .int .i64 (k : Int) ∧ x = .int .i64 (nx : Int) ∧ Hid (Lib.IsBuilderF 42 5 w.heap.size w.heap.size (Lib.byteCells acc) wr) ∧ Hid (wr.heap[w.heap.size + 1]? = some (.stringIter ⟨l.toArray⟩ pos)) ∧ Hid (Below w.heap.size w wr) ∧ Hid (St l k pos nx acc)) (fun _ _ wr => l.length - wr.iterPos (w.heap.size + 1))
  case atStart =>
    refine ⟨0, 0, 0, [], rfl, rfl, (Lib.IsBuilderF.of (Lib.fresh_isBuilder 42 5 w)).alloc _, ?_, ((Below.refl _ w).alloc (Nat.le_refl _) _).alloc (by simp) _, .inl ⟨rfl, rfl, rfl, rfl⟩⟩
    have := World.iter_heap (w.alloc (.cells #[.pointer none, .slice none 0 0] 42)) ⟨l.toArray⟩ 0
    show (_ : World).heap[w.heap.size + 1]? = _
    simpa using this
  case round =>
    obtain ⟨pos, nx, k, acc, rfl, rfl, ho, hit, hb, hst⟩ := hrel
    have hsz : w.heap.size + 1 < wr.heap.size := (Array.getElem?_eq_some_iff.1 hit.out).1
    by_cases hp : pos < l.length
    · have hps : pos < (ByteArray.mk l.toArray).size := by omega
      have hnx : ∀ ty, (Instr.next (.pointer (some ⟨w.heap.size + 1, 0, none⟩)) true ty).run Tryd.prog wr = _ := fun ty => Lib.run_next_any_at wr (w.heap.size + 1) ⟨l.toArray⟩ pos ty hit.out hps
      obtain ⟨hr34, hrw, hr1⟩ := rune_at l pos hp
      have hdl := decode_le ⟨l.toArray⟩ pos
      have hpos0 : wr.iterPos (w.heap.size + 1) = pos := by simp [World.iterPos, hit.out]
      obtain ⟨m, hm⟩ : ∃ m, m = (Utf8.decode ⟨l.toArray⟩ pos).1 := ⟨_, rfl⟩
      obtain ⟨wd, hwd⟩ : ∃ wd, wd = (Utf8.decode ⟨l.toArray⟩ pos).2 := ⟨_, rfl⟩
      have HI2 : Hid (Lib.IsBuilderF 42 5 w.heap.size w.heap.size (Lib.byteCells acc) (wr.iterAt (w.heap.size + 1) ⟨l.toArray⟩ (pos + wd))) := ho.out.iterAt hit.out (pos + wd)
      have HT2 : Hid ((wr.iterAt (w.heap.size + 1) ⟨l.toArray⟩ (pos + wd)).heap[w.heap.size + 1]? = some (.stringIter ⟨l.toArray⟩ (pos + wd))) := Lib.iterAt_heap wr (w.heap.size + 1) ⟨l.toArray⟩ pos (pos + wd) hit.out
      have HB2 : Hid (Below w.heap.size w (wr.iterAt (w.heap.size + 1) ⟨l.toArray⟩ (pos + wd))) := Lib.below_iterAt hb.out (k := w.heap.size + 1) (by omega) ⟨l.toArray⟩ (pos + wd)
      have hsz2 : w.heap.size ≤ (wr.iterAt (w.heap.size + 1) ⟨l.toArray⟩ (pos + wd)).heap.size := by rw [Lib.iterAt_size]; omega
      rw [← hm] at hr34 hdl
      rw [← hwd] at hrw hr1
      rw [← hm, ← hwd] at hnx
      clear hm hwd ho hit hb
      obtain ⟨W1, hW1⟩ : ∃ W1, W1 = wr.iterAt (w.heap.size + 1) ⟨l.toArray⟩ (pos + wd) := ⟨_, rfl⟩
      rw [← hW1] at hnx HI2 HT2 HB2 hsz2
      clear hW1
      rcases hst.out with ⟨rfl, rfl, rfl, rfl⟩ | ⟨rfl, h1, h2, h3, h4, h5, u, h6, h7⟩ | ⟨rfl, h1, h2, h3, h4, h5⟩
      · by_cases hq : l[0] = 34
        · have hm34 : m = 34 := hr34.2 hq
          subst hm34
          have hw1 : wd = 1 := hrw (by rw [hq]; decide)
          subst hw1
          have HS : Hid (St l 1 1 0 []) := .inr (.inl ⟨rfl, by omega, by omega, by omega, by simp, fun j hj g1 g2 => by omega, l.length, unq_yes ⟨by simp [List.getD_eq_getElem?_getD, List.getElem?_eq_getElem hp, hq], fun e => by rw [e] at hp; simp at hp⟩, by simp⟩)
          clear hst
          go_wp2_with (fail)
          go_roundw
          case rel => exact ⟨0 + 1, 0, 1, [], rfl, rfl, HI2, HT2, HB2, HS⟩
          case measure => rw [hpos0, show W1.iterPos (w.heap.size + 1) = 0 + 1 by simp [World.iterPos, HT2.out]]; omega
        · have hm34 : ((m : Int) == 34) = false := by simp; intro e; exact hq (hr34.1 (by omega))
          have hun : Hid (unq l = (false, [], 0)) := unq_no (by rintro ⟨h, _⟩; simp [List.getD_eq_getElem?_getD, List.getElem?_eq_getElem hp] at h; exact hq h)
          clear hst
          go_wp2_with (fail)
          go_ret3
          exact ansQ_no hun.out HB2.out
      · by_cases hlt : pos < nx
        · have hw1 : wd = 1 := hrw (h5 pos hp (Nat.le_refl _) hlt)
          subst hw1
          have hmx : max (pos + 1) nx = max pos nx := by omega
          have HS : Hid (St l 1 (pos + 1) nx acc) := .inr (.inl ⟨rfl, by omega, by omega, h3, by rw [hmx]; exact h4, fun j hj g1 g2 => h5 j hj (by omega) g2, u, by rw [hmx]; exact h6, by rw [hmx]; exact h7⟩)
          have i1 : (pos : Int) < (nx : Int) := by omega
          clear hst h4 h5 h6 h7 hmx
          go_wp2_with (fail)
          go_roundw
          case rel => exact ⟨pos + 1, nx, 1, acc, rfl, rfl, HI2, HT2, HB2, HS⟩
          case measure => rw [hpos0, show W1.iterPos (w.heap.size + 1) = pos + 1 by simp [World.iterPos, HT2.out]]; omega
        · have hmx : max pos nx = pos := by omega
          rw [hmx] at h4 h6 h7
          have i1 : (nx : Int) ≤ (pos : Int) := by omega
          by_cases hq : l[pos] = 34
          · have hm34 : m = 34 := hr34.2 hq
            subst hm34
            have hw1 : wd = 1 := hrw (by rw [hq]; decide)
            subst hw1
            have HS : Hid (St l 2 (pos + 1) nx acc) := .inr (.inr ⟨rfl, by omega, by omega, by omega, by omega, h6.trans (rdq_quote hp hq h7)⟩)
            clear hst h4 h5 h6 h7 hmx
            go_wp2_with (fail)
            go_roundw
            case rel => exact ⟨pos + 1, nx, 2, acc, rfl, rfl, HI2, HT2, HB2, HS⟩
            case measure => rw [hpos0, show W1.iterPos (w.heap.size + 1) = pos + 1 by simp [World.iterPos, HT2.out]]; omega
          · have hm34 : ((m : Int) == 34) = false := by simp; intro e; exact hq (hr34.1 (by omega))
            have hne : l.drop pos ≠ [] := fun e => by have := congrArg List.length e; simp at this; omega
            have HSH := shown_any (l.drop pos) W1 hne (by rw [List.length_drop]; omega) (hsy.below HB2.out)
            have hx : (ByteArray.mk l.toArray).extract pos l.length = ⟨(l.drop pos).toArray⟩ := by rw [extr, List.take_length]
            by_cases h0 : (thg (l.drop pos)).2 = 0
            · have hun : Hid (unq l = (false, [], pos)) := h6.trans (rdq_bad hp hq h7 h0)
              rw [h0] at HSH
              clear hst h4 h5 h6 h7 hmx h0
              go_wp2_with (fail)
              refine HSH.mono ?_
              rintro _ W2 ⟨rfl, hb2⟩
              go_wp2_with (fail)
              go_ret3
              exact ansQ_no hun.out (below_then HB2.out hb2)
            · obtain ⟨hle, hasc⟩ := thg_ascii h0
              have hw1 : wd = 1 := hrw (hasc pos hp (Nat.le_refl _) (by omega))
              subst hw1
              obtain ⟨u', hr, hu'⟩ := rdq_next hp hq h7 h0
              obtain ⟨c, hc⟩ : ∃ c, c = (thg (l.drop pos)).1 := ⟨_, rfl⟩
              obtain ⟨n, hn⟩ : ∃ n, n = (thg (l.drop pos)).2 := ⟨_, rfl⟩
              rw [← hn] at h0 hle hr hu' hasc
              rw [← hc] at hr
              rw [← hc, ← hn] at HSH
              have hmx2 : max (pos + 1) (pos + n) = pos + n := by omega
              have HS : Hid (St l 1 (pos + 1) (pos + n) (acc ++ [c])) := .inr (.inl ⟨rfl, by omega, by omega, by omega, by rw [hmx2, List.length_append]; simp; omega, fun j hj g1 g2 => hasc j hj (by omega) g2, u', by rw [hmx2]; exact h6.trans hr, by rw [hmx2]; exact hu'⟩)
              have hn0 : ((n : Int) == 0) = false := by simp; omega
              clear hst h5 h6 h7 hmx hc hn hr hu' hasc hmx2
              go_wp2_with (fail)
              refine HSH.mono ?_
              rintro _ W2 ⟨rfl, hb2⟩
              have HI3 := bd_below HI2.out hb2
              have HB3 := below_then HB2.out hb2
              have HT3 : W2.heap[w.heap.size + 1]? = some (.stringIter ⟨l.toArray⟩ (pos + 1)) := by rw [hb2.block (w.heap.size + 1) ((Array.getElem?_eq_some_iff.1 HT2.out).1)]; exact HT2.out
              have hsz3 := HB3.size
              have HI3' : Hid (Lib.IsBuilderF 42 5 w.heap.size w.heap.size (Lib.byteCells acc) W2) := HI3
              have HB3' : Hid (Below w.heap.size w W2) := HB3
              have HT3' : Hid (W2.heap[w.heap.size + 1]? = some (.stringIter ⟨l.toArray⟩ (pos + 1))) := HT3
              clear HI3 HB3 HT3 HI2 HB2 HT2 HSH hb2
              go_wp2_with (fail)
              refine (WriteByte_k w.heap.size w.heap.size (Lib.byteCells acc) (c.toNat : Int) W2 HI3'.out (by rw [Lib.byteCells_length]; omega) hsz3).mono ?_
              rintro _ W3 ⟨rfl, g3, b3, k3⟩
              have HI4 : Hid (Lib.IsBuilderF 42 5 w.heap.size w.heap.size (Lib.byteCells (acc ++ [c])) W3) := by
                refine .inr ?_
                rw [Lib.byteCells_append]
                exact g3
              have HT4 : Hid (W3.heap[w.heap.size + 1]? = some (.stringIter ⟨l.toArray⟩ (pos + 1))) := k3.iter HT3'.out (by omega)
              have HB4 : Hid (Below w.heap.size w W3) := HB3'.out.trans b3
              clear g3 b3 k3
              go_wp2_with (fail)
              go_roundw
              case rel => exact ⟨pos + 1, pos + n, 1, acc ++ [c], rfl, by go_num, HI4, HT4, HB4, HS⟩
              case measure => rw [hpos0, show W3.iterPos (w.heap.size + 1) = pos + 1 by simp [World.iterPos, HT4.out]]; omega
      · have hun : Hid (unq l = (false, [], pos)) := by rw [if_neg (by omega)] at h5; exact h5
        have i1 : (nx : Int) ≤ (pos : Int) := by omega
        clear hst h5
        by_cases hm34 : m = 34
        · subst hm34
          go_wp2_with (fail)
          go_ret3
          exact ansQ_no hun.out HB2.out
        · have hm34 : ((m : Int) == 34) = false := by simp; omega
          go_wp2_with (fail)
          go_ret3
          exact ansQ_no hun.out HB2.out
    · have hps : ¬ pos < (ByteArray.mk l.toArray).size := by omega
      have hnx : ∀ ty, (Instr.next (.pointer (some ⟨w.heap.size + 1, 0, none⟩)) true ty).run Tryd.prog wr = _ := fun ty => Lib.run_next_end_at wr (w.heap.size + 1) ⟨l.toArray⟩ pos ty hit.out hps
      rcases hst.out with ⟨rfl, rfl, rfl, rfl⟩ | ⟨rfl, h1, h2, h3, h4, h5, u, h6, h7⟩ | ⟨rfl, h1, h2, h3, h4, h5⟩
      · have hl0 : l = [] := List.length_eq_zero_iff.1 (by omega)
        subst hl0
        clear hst
        go_wp2_with (fail)
        go_ret3
        exact ansQ_no (p := 0) rfl hb.out
      · have hun : Hid (unq l = (false, [], l.length)) := by
          have hm : max pos nx = l.length := by omega
          rw [hm] at h6 h7
          exact h6.trans (rdq_end rfl h7)
        clear hst h4 h5 h6 h7
        go_wp2_with (fail)
        go_ret3
        exact ansQ_no hun.out hb.out
      · have hun : Hid (unq l = (true, acc, 0)) := by rw [if_pos (by omega)] at h5; exact h5
        have hsz2 := hb.out.size
        clear hst h5
        go_wp2_with (fail)
        refine (Builder_String_any_k w.heap.size w.heap.size acc wr ho.out hsz2).mono ?_
        rintro _ w4 ⟨rfl, _, b4, _⟩
        go_wp2_with (fail)
        go_ret3
        exact ansQ_yes hun.out (hb.out.trans b4)
theorem rdq_empty {l : Nm} : ∀ (u p : Nat) (acc n : Nm) (q : Nat), rdq l u p acc = (false, n, q) → n = []
  | 0, p, acc, n, q, h => by simp [rdq] at h; exact h.1
  | u + 1, p, acc, n, q, h => by
    unfold rdq at h
    split at h
    · simp at h; exact h.1
    · split at h
      · split at h
        · simp at h
        · simp at h; exact h.1
      · split at h
        · simp at h; exact h.1
        · exact rdq_empty u _ _ n q h
theorem unq_empty {l n : Nm} {p : Nat} (h : unq l = (false, n, p)) : n = [] := by
  unfold unq at h
  split at h
  · exact rdq_empty _ _ _ _ _ h
  · simp at h; exact h.1
set_option maxHeartbeats 1000000 in
set_option maxRecDepth 100000 in
theorem Plain_any (l : Nm) (hl : l.length ≤ 100000) (w : World) (hsy : Syn w) : Calls Tryd.prog 11 #[.string ⟨l.toArray⟩] w fun r w' => AnsL w l r w' := by
  have HU := unquoted_any l hl w hsy
  go_enter Tryd.func11, Tryd.ntmps11
  go_wp2_with (fail)
  refine HU.mono ?_
  rintro _ w1 ⟨rfl, hb⟩
  clear HU
  obtain ⟨b, n, p, hu⟩ : ∃ b n p, unq l = (b, n, p) := ⟨_, _, _, rfl⟩
  rw [hu]
  cases b
  · have hn : n = [] := unq_empty hu
    obtain ⟨h1, h2, h3⟩ := pl_no (by rw [hu, hn] : unq l = (false, [], p))
    go_wp2_with (fail)
    go_ret3
    exact ⟨by rw [h1, h2, h3]; rfl, hb⟩
  · have HC := Check_any n
    cases hm : may n
    · obtain ⟨h1, h2, h3⟩ := pl_bad hu hm
      rw [erN_bad hm] at HC
      go_wp2_with (fail)
      refine (HC _).mono ?_
      rintro _ w2 ⟨rfl, rfl⟩
      go_wp2_with (fail)
      go_ret3
      exact ⟨by rw [h1, h2, h3]; rfl, hb⟩
    · obtain ⟨h1, h2, h3⟩ := pl_yes hu hm
      rw [erN_good hm] at HC
      go_wp2_with (fail)
      refine (HC _).mono ?_
      rintro _ w2 ⟨rfl, rfl⟩
      go_wp2_with (fail)
      go_ret3
      exact ⟨by rw [h1, h2, h3]; rfl, hb⟩
end Go.Proofs.YtdiecjkmbmgbkaaDoor
