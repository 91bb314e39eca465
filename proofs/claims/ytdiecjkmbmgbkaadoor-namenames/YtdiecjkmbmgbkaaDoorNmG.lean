/- A quoted name at the beginning of a text, by the document. -/
import Derived.Test.YtdiecjkmbmgbkaaDoorNmF
import Derived.Laws.BytesArg
import Derived.OwnWalk
namespace Go.Proofs.YtdiecjkmbmgbkaaDoor
open Go.RowKit

theorem conv_ows {B : Nat} {w : World} {v : Value} {l : Nm} (h : OwS B w v l) : (convert 23 9 v).run Tryd.prog w = .ok (.string ⟨l.toArray⟩) w := by
  rcases h.1 with ⟨rfl, rfl⟩ | ⟨g, cap, rfl⟩
  · exact run_convert_bytes_nil w 23 5 Tryd.underlying23 Tryd.underlying5 0 0 9 Tryd.underlying9
  · exact conv_back l w g cap h.bts.2
/-- What the document's Begin tells of a text. -/
def AnsB (w : World) (l : Nm) (r : Ending) (w' : World) : Prop := (∃ (n : Nm) (p : Nat) (b : Bool), r = .returned (.tuple #[.string ⟨n.toArray⟩, .int .i64 (p : Int), .bool b]) ∧ p ≤ l.length ∧ ((b = false ∧ unq l = (false, [], p)) ∨ (b = true ∧ p < l.length ∧ unq l = (false, [], p)) ∨ (b = true ∧ p = l.length ∧ unq l = (true, n, 0)))) ∧ Below w.heap.size w w'
theorem unq_no {l : Nm} (h : ¬ (l.getD 0 0 = 34 ∧ l ≠ [])) : unq l = (false, [], 0) := if_neg h
theorem unq_yes {l : Nm} (h : l.getD 0 0 = 34 ∧ l ≠ []) : unq l = rdq l l.length 1 [] := if_pos h
theorem rdq_end {l : Nm} {u p : Nat} {acc : Nm} (h : p = l.length) (hu : l.length < p + u) : rdq l u p acc = (false, [], p) := by
  cases u with
  | zero => omega
  | succ u => unfold rdq; rw [if_pos (by omega)]
theorem rdq_quote {l : Nm} {u p : Nat} {acc : Nm} (h : p < l.length) (hq : l[p] = 34) (hu : l.length < p + u) : rdq l u p acc = if p + 1 = l.length then (true, acc, 0) else (false, [], p + 1) := by
  cases u with
  | zero => omega
  | succ u =>
    unfold rdq
    rw [if_neg (by omega), if_pos (by simp [List.getD_eq_getElem?_getD, List.getElem?_eq_getElem h, hq])]
theorem rdq_bad {l : Nm} {u p : Nat} {acc : Nm} (h : p < l.length) (hq : l[p] ≠ 34) (hu : l.length < p + u) (h0 : (thg (l.drop p)).2 = 0) : rdq l u p acc = (false, [], p) := by
  cases u with
  | zero => omega
  | succ u =>
    unfold rdq
    rw [if_neg (by omega), if_neg (by simp [List.getD_eq_getElem?_getD, List.getElem?_eq_getElem h, hq]), if_pos h0]
theorem rdq_next {l : Nm} {u p : Nat} {acc : Nm} (h : p < l.length) (hq : l[p] ≠ 34) (hu : l.length < p + u) (h0 : (thg (l.drop p)).2 ≠ 0) : ∃ u', rdq l u p acc = rdq l u' (p + (thg (l.drop p)).2) (acc ++ [(thg (l.drop p)).1]) ∧ l.length < p + (thg (l.drop p)).2 + u' := by
  cases u with
  | zero => omega
  | succ u =>
    refine ⟨u, ?_, by omega⟩
    rw [rdq, if_neg (by omega), if_neg (by simp [List.getD_eq_getElem?_getD, List.getElem?_eq_getElem h, hq]), if_neg h0]
set_option maxHeartbeats 2000000 in
set_option maxRecDepth 100000 in
theorem begin_any (l : Nm) (hl : l.length ≤ 100000) (w : World) : Calls Tryd.prog 34 #[.string ⟨l.toArray⟩] w fun r w' => AnsB w l r w' := by
  have hs := str_size l
  by_cases h1 : l = []
  · subst h1
    go_enter Tryd.func34, Tryd.ntmps34
    go_wp2_with (fail)
    go_ret3
    exact ⟨⟨[], 0, false, rfl, Nat.zero_le _, .inl ⟨rfl, rfl⟩⟩, Below.refl _ _⟩
  have hpos : 0 < l.length := List.length_pos_iff.2 h1
  have k0 : 0 < (ByteArray.mk l.toArray).size := by omega
  have hemp : l.isEmpty = false := by simpa using h1
  by_cases h34 : l[0] = 34
  · have e0 : ((ByteArray.mk l.toArray)[0]'k0) = 34 := h34
    have hg : l.getD 0 0 = 34 ∧ l ≠ [] := ⟨by simp [List.getD_eq_getElem?_getD, List.getElem?_eq_getElem hpos, h34], h1⟩
    have hu : Hid (unq l = rdq l l.length 1 []) := unq_yes hg
    clear hg h34
    go_enter Tryd.func34, Tryd.ntmps34
    go_wp2_with (fail)
    go_loopw [5, 6] (fun b x wr => ∃ (p u : Nat) (acc : Nm), 1 ≤ p ∧ p ≤ l.length ∧ x = .int .i64 (p : Int) ∧ acc.length ≤ p ∧ Hid (OwS w.heap.size wr b acc) ∧ Hid (Below w.heap.size w wr) ∧ Hid (unq l = rdq l u p acc ∧ l.length < p + u)) (fun _ x _ => l.length - (intOf x).toNat)
    case atStart => exact ⟨1, l.length, [], by omega, by omega, rfl, by simp, ows_nil _ _, Below.refl _ _, hu.out, by omega⟩
    case round =>
      obtain ⟨p, u, acc, hp1, hp, rfl, hac, ho, hb, hq⟩ := hrel
      have i0 : (0 : Int) ≤ (p : Int) := by omega
      have hsz := hb.out.size
      by_cases hend : p = l.length
      · have hun : Hid (unq l = (false, [], l.length)) := by
          have := hq.out.1
          rw [rdq_end hend hq.out.2] at this
          rw [hend] at this
          exact this
        subst hend
        go_wp2_with (fail)
        go_ret3
        exact ⟨⟨[], l.length, false, rfl, Nat.le_refl _, .inl ⟨rfl, hun.out⟩⟩, hb.out⟩
      · have hlt : p < l.length := by omega
        have i1 : (p : Int) < ((ByteArray.mk l.toArray).size : Int) := by omega
        have kp : p < (ByteArray.mk l.toArray).size := by omega
        by_cases hq34 : l[p] = 34
        · have e1 : ((ByteArray.mk l.toArray)[p]'kp) = 34 := hq34
          have hun : Hid (unq l = if p + 1 = l.length then (true, acc, 0) else (false, [], p + 1)) := hq.out.1.trans (rdq_quote hlt hq34 hq.out.2)
          have hcv := conv_ows ho.out
          have hpn : ((p : Int) == (l.length : Int)) = false := by simp; omega
          go_wp2_with (fail)
          go_ret3
          refine ⟨⟨acc, p + 1, true, rfl, by omega, ?_⟩, hb.out⟩
          by_cases h : p + 1 = l.length
          · exact .inr (.inr ⟨rfl, h, by rw [hun.out, if_pos h]⟩)
          · exact .inr (.inl ⟨rfl, by omega, by rw [hun.out, if_neg h]⟩)
        · have e1 : ((((ByteArray.mk l.toArray)[p]'kp).toNat : Int) != 34) = true := by
            show (((l[p]'hlt).toNat : Int) != ((34 : UInt8).toNat : Int)) = true
            rw [bne, u8_ne hq34]; rfl
          have HT := thing_any l p hlt hl wr
          by_cases h0 : (thg (l.drop p)).2 = 0
          · have hun : Hid (unq l = (false, [], p)) := hq.out.1.trans (rdq_bad hlt hq34 hq.out.2 h0)
            go_wp2_with (fail)
            refine HT.mono ?_
            rintro _ w1 ⟨rfl, q, rfl⟩
            rw [h0]
            go_wp2_with (fail)
            go_ret3
            exact ⟨⟨[], p, false, rfl, hp, .inl ⟨rfl, hun.out⟩⟩, hb.out.trans (below_drewN _ _ _)⟩
          · obtain ⟨u', hr, hu'⟩ := rdq_next hlt hq34 hq.out.2 h0
            have hle := thg_le (l.drop p)
            rw [List.length_drop] at hle
            obtain ⟨c, hc⟩ : ∃ c, c = (thg (l.drop p)).1 := ⟨_, rfl⟩
            obtain ⟨n, hn⟩ : ∃ n, n = (thg (l.drop p)).2 := ⟨_, rfl⟩
            rw [← hn] at h0 hle hr hu'
            rw [← hc] at hr
            rw [← hc, ← hn] at HT
            have HR : Hid (unq l = rdq l u' (p + n) (acc ++ [c]) ∧ l.length < p + n + u') := ⟨hq.out.1.trans hr, hu'⟩
            have hn0 : ((n : Int) == 0) = false := by simp; omega
            clear hc hn hr hu' hq
            go_wp2_with (fail)
            refine HT.mono ?_
            rintro _ w1 ⟨rfl, q, hw1⟩
            have HB1 : Hid (Below w.heap.size w w1) := by rw [hw1]; exact hb.out.trans (below_drewN _ _ _)
            have HO1 : Hid (OwS w.heap.size w1 u5 acc) := by rw [hw1]; exact ho.out.below (below_drewN _ _ _)
            have HG : Bts (w1.alloc (.cells #[.int .u8 (c.toNat : Int)] 5)) w1.heap.size [c] := bts_new w1 [c]
            have HO2 : Hid (OwS w.heap.size (w1.alloc (.cells #[.int .u8 (c.toNat : Int)] 5)) u5 acc) := HO1.out.below (below_alloc _ _)
            have HB2 : Hid (Below w.heap.size w (w1.alloc (.cells #[.int .u8 (c.toNat : Int)] 5))) := below_then HB1.out (below_alloc _ _)
            have hsz2 := HB2.out.size
            clear hw1
            go_wp2_with (at_builtin; refine app_bytes (by rfl) (.tmp 35) (.tmp 37) (by rfl) w.heap.size u5 acc [c] w1.heap.size 1 (by rfl) (by rfl) HO2.out HG (by omega) (by simp) hsz2 ?_; intro v' w3 HO3 HB3)
            go_roundw
            case rel => exact ⟨p + n, u', acc ++ [c], by omega, by omega, by go_num, by rw [List.length_append]; simp; omega, HO3, HB2.out.trans HB3.out, HR⟩
            case measure => simp [intOf]; omega
  · have e0 : ((((ByteArray.mk l.toArray)[0]'k0).toNat : Int) != 34) = true := by
      show (((l[0]'hpos).toNat : Int) != ((34 : UInt8).toNat : Int)) = true
      rw [bne, u8_ne h34]; rfl
    have hun : Hid (unq l = (false, [], 0)) := unq_no (by rintro ⟨h, _⟩; simp [List.getD_eq_getElem?_getD, List.getElem?_eq_getElem hpos] at h; exact h34 h)
    go_enter Tryd.func34, Tryd.ntmps34
    go_wp2_with (fail)
    go_ret3
    exact ⟨⟨[], 0, false, rfl, Nat.zero_le _, .inl ⟨rfl, hun.out⟩⟩, Below.refl _ _⟩
end Go.Proofs.YtdiecjkmbmgbkaaDoor
