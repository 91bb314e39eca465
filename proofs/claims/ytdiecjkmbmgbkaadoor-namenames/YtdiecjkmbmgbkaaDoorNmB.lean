/- Two sixteens read by the library: strconv.ParseUint in base 16, of two bytes. -/
import Derived.Test.YtdiecjkmbmgbkaaDoorNmA
import Derived.Test.YtdiecjkmbmgbkaaDoorShD
import Derived.Laws.IdiomStrings
namespace Go.Proofs.YtdiecjkmbmgbkaaDoor
open Go.RowKit

def low (c : UInt8) : UInt8 := c ||| 32
set_option maxRecDepth 100000 in
theorem bits_low : ∀ c : UInt8, bits .or .u8 (c.toNat : Int) 32 = ((low c).toNat : Int) := all8 (p := fun c => bits .or .u8 (c.toNat : Int) 32 = ((low c).toNat : Int)) (by decide)
theorem ret_u8 {a b : Int} (h : a = b) : Ending.returned (.int .u8 a) = .returned (.int .u8 b) := by rw [h]
set_option maxHeartbeats 400000 in
theorem lower_any (c : UInt8) (w : World) : Calls Tryd.prog 68 #[.int .u8 (c.toNat : Int)] w fun e w' => e = .returned (.int .u8 ((low c).toNat : Int)) ∧ w' = w := by
  go_enter Tryd.func68, Tryd.ntmps68
  go_wp2
  go_ret
  exact ⟨ret_u8 (bits_low c), rfl⟩
/-- What stands at the beginning of a row that a text's bytes were put into. -/
theorem bytes_cell (w : World) (l : Nm) (cap : Nat) (t : TypeId) (fz : Nat × Nat) (j : Nat) (hj : j < l.length) : (w.drew.alloc (.cells (bytesRow ⟨l.toArray⟩ cap) t fz)).cell? ⟨w.heap.size, j, none⟩ = some (.int .u8 ((l[j]'hj).toNat : Int)) := by
  have h : (w.drew.alloc (.cells (bytesRow ⟨l.toArray⟩ cap) t fz)).heap[w.heap.size]? = some (.cells (bytesRow ⟨l.toArray⟩ cap) t fz) := by
    show (w.heap.push _)[w.heap.size]? = _
    simp
  rw [Lib.cell_of_heap h]
  unfold bytesRow
  rw [Array.getElem?_append_left (by simpa using hj)]
  simp [hj]
theorem conv_bytes (l : Nm) (w : World) : (convert 9 23 (.string ⟨l.toArray⟩)).run Tryd.prog w = .ok (.slice (some ⟨w.heap.size, 0, none⟩) l.length (grownCap w l.length 0 5)) (w.drew.alloc (.cells (bytesRow ⟨l.toArray⟩ (grownCap w l.length 0 5)) 5 ((bytesRow ⟨l.toArray⟩ (grownCap w l.length 0 5)).size, (bytesRow ⟨l.toArray⟩ (grownCap w l.length 0 5)).size + 1))) := by
  have h := run_bytes_of_string (P := Tryd.prog) w 9 23 5 ⟨l.toArray⟩ Tryd.underlying9 Tryd.underlying23 Tryd.underlying5
  rw [str_size] at h
  exact h
/-- What two sixteens come to as far as they were read. -/
def Two (e f : UInt8) (i : Nat) (v : Int) : Prop := (i = 0 → v = 0) ∧ (i = 1 → 0 ≤ v ∧ v < 16 ∧ (wth e < 16 → v = wth e)) ∧ (i = 2 → 0 ≤ v ∧ v < 256 ∧ (wth e < 16 → wth f < 16 → v = ((wth e * 16 + wth f : Nat) : Int)))
theorem two_small {e f : UInt8} {i : Nat} {v : Int} (h : Two e f i v) (hi : i < 2) : 0 ≤ v ∧ v < 16 := by
  obtain ⟨h0, h1, _⟩ := h
  have : i = 0 ∨ i = 1 := by omega
  rcases this with rfl | rfl
  · have := h0 rfl; omega
  · have := h1 rfl; omega
theorem two_low {e f : UInt8} {i : Nat} {c : UInt8} (hi : i < 2) (hc : c = [e, f][i]'hi) (he : wth e < 16) (hf : wth f < 16) : wth c < 16 := by
  have : i = 0 ∨ i = 1 := by omega
  rcases this with rfl | rfl
  · obtain rfl : c = e := hc
    exact he
  · obtain rfl : c = f := hc
    exact hf
theorem wth_dig {c : UInt8} (h1 : 48 ≤ c.toNat) (h2 : c.toNat ≤ 57) : wth c = c.toNat - 48 := if_pos ⟨UInt8.le_iff_toNat_le.2 h1, UInt8.le_iff_toNat_le.2 h2⟩
set_option maxRecDepth 100000 in
theorem wth_low : ∀ {c : UInt8}, wth c < 16 → ¬ (48 ≤ c.toNat ∧ c.toNat ≤ 57) → 97 ≤ (low c).toNat ∧ (low c).toNat ≤ 102 ∧ (low c).toNat = wth c + 87 := fun {c} => all8 (p := fun c => wth c < 16 → ¬ (48 ≤ c.toNat ∧ c.toNat ≤ 57) → 97 ≤ (low c).toNat ∧ (low c).toNat ≤ 102 ∧ (low c).toNat = wth c + 87) (by decide) c
theorem two_step {e f : UInt8} {i : Nat} {v d : Int} {c : UInt8} (h : Two e f i v) (hi : i < 2) (hc : c = [e, f][i]'hi) (h0 : 0 ≤ d) (h1 : d < 16) (hd : wth c < 16 → d = wth c) : Two e f (i + 1) (v * 16 + d) := by
  obtain ⟨g0, g1, g2⟩ := h
  have : i = 0 ∨ i = 1 := by omega
  rcases this with rfl | rfl
  · have := g0 rfl
    subst this
    obtain rfl : c = e := hc
    exact ⟨by omega, fun _ => ⟨by omega, by omega, fun g => by have := hd g; omega⟩, by omega⟩
  · obtain ⟨a, b, k⟩ := g1 rfl
    obtain rfl : c = f := hc
    exact ⟨by omega, by omega, fun _ => ⟨by omega, by omega, fun p q => by have := hd q; have := k p; omega⟩⟩
/-- What ParseUint tells of two bytes. -/
def AnsP (w : World) (e f : UInt8) (r : Ending) (w' : World) : Prop := ∃ (v : Int) (er : Value), r = .returned (.tuple #[.int .u64 v, er]) ∧ (er = .nilIface ∨ er = .iface 93 (.int .i64 2)) ∧ 0 ≤ v ∧ v < 256 ∧ (wth e < 16 → wth f < 16 → v = ((wth e * 16 + wth f : Nat) : Int)) ∧ Below w.heap.size w w'
theorem low95 {c : UInt8} (h : c.toNat = 95) : (low c).toNat = 127 := by
  have : c = 95 := UInt8.toNat_inj.1 h
  rw [this]; rfl
theorem two_meas (i : Nat) (h : i < 2) : 2 - (intOf (.int .i64 ((i : Int) + 1))).toNat < 2 - (intOf (.int .i64 (i : Int))).toNat := by
  show 2 - ((i : Int) + 1).toNat < 2 - (i : Int).toNat
  omega
set_option maxHeartbeats 4000000 in
set_option maxRecDepth 100000 in
theorem parse_any (e f : UInt8) (w : World) : Calls Tryd.prog 65 #[.string ⟨#[e, f]⟩, .int .i64 16, .int .i64 8] w fun r w' => AnsP w e f r w' := by
  have hcv := conv_bytes [e, f]
  rw [show [e, f].length = 2 from rfl] at hcv
  have HB0 : ∀ cap fz, Hid (Below w.heap.size w (w.drew.alloc (.cells (bytesRow ⟨#[e, f]⟩ cap) 5 fz))) := fun cap fz => (below_drew _ _).alloc (Nat.le_refl _) _
  have HC0 : ∀ cap fz (j : Nat) (hj : j < 2), Hid ((w.drew.alloc (.cells (bytesRow ⟨#[e, f]⟩ cap) 5 fz)).cell? ⟨w.heap.size, j, none⟩ = some (.int .u8 (([e, f][j]'hj).toNat : Int))) := fun cap fz j hj => bytes_cell w [e, f] cap 5 fz j hj
  go_enter Tryd.func65, Tryd.ntmps65
  go_wp2_with (fail)
  go_loopw [12, 13, 101] (fun z n x wr => ∃ (i : Nat) (v : Int), i ≤ 2 ∧ x = .int .i64 (i : Int) ∧ n = .int .u64 v ∧ z = .bool false ∧ Hid (Two e f i v) ∧ (∀ (j : Nat) (hj : j < 2), Hid (wr.cell? ⟨w.heap.size, j, none⟩ = some (.int .u8 (([e, f][j]'hj).toNat : Int)))) ∧ Hid (Below w.heap.size w wr)) (fun _ _ x _ => 2 - (intOf x).toNat)
  case atStart => exact ⟨0, 0, by omega, rfl, rfl, rfl, ⟨fun _ => rfl, by simp, by simp⟩, HC0 _ _, HB0 _ _⟩
  case round =>
    obtain ⟨i, v, hi, rfl, rfl, rfl, ht, hc, hb⟩ := hrel
    by_cases hlt : i < 2
    · obtain ⟨c, hcc⟩ : ∃ c, c = [e, f][i]'hlt := ⟨_, rfl⟩
      have ck := (hc i hlt).out
      rw [← hcc] at ck
      have i1 : (0 : Int) ≤ (i : Int) := by omega
      have i2 : (i : Int) < (2 : Int) := by omega
      have HL : ∀ w, Calls Tryd.prog 68 #[.int .u8 (c.toNat : Int)] w _ := lower_any c
      have hv := two_small ht.out hlt
      have HT : ∀ d : Int, 0 ≤ d → d < 16 → (wth c < 16 → d = wth c) → Hid (Two e f (i + 1) (v * 16 + d)) := fun d h0 h1 h2 => two_step ht.out hlt hcc h0 h1 h2
      have HZ : Hid (wth e < 16 ∧ wth f < 16 → wth c < 16) := fun g => two_low hlt hcc g.1 g.2
      have HD : Hid (48 ≤ (c.toNat : Int) → (c.toNat : Int) ≤ 57 → wth c < 16 → (c.toNat : Int) - 48 = wth c) := fun h1 h2 _ => by rw [wth_dig (by omega) (by omega)]; omega
      have HW : Hid (wth c < 16 → ¬ (48 ≤ (c.toNat : Int) ∧ (c.toNat : Int) ≤ 57) → 97 ≤ ((low c).toNat : Int) ∧ ((low c).toNat : Int) ≤ 102 ∧ ((low c).toNat : Int) = wth c + 87) := fun h g => by have := wth_low h (by omega); omega
      clear hcc
      have hm := c.toNat_lt
      have hl := (low c).toNat_lt
      obtain ⟨m, hmm⟩ : ∃ m : Int, m = (c.toNat : Int) := ⟨_, rfl⟩
      obtain ⟨lm, hlm⟩ : ∃ lm : Int, lm = ((low c).toNat : Int) := ⟨_, rfl⟩
      have m0 : 0 ≤ m := by omega
      have m1 : m < 256 := by omega
      have l0 : 0 ≤ lm := by omega
      have l1 : lm < 256 := by omega
      simp only [← hmm, ← hlm] at HL HD HW ck
      have H95 : m = 95 → lm = 127 := fun h => by have := low95 (c := c) (by omega); omega
      clear hmm hlm hm hl
      by_cases hA : 48 ≤ m ∧ m ≤ 57
      · obtain ⟨a1, a2⟩ := hA
        have n95 : (m == 95) = false := by simp; omega
        go_wp2_with (fail)
        go_roundw
        case rel => exact ⟨i + 1, _, by omega, by go_num, rfl, rfl, HT _ (by omega) (by omega) (HD.out a1 a2), hc, hb⟩
        case measure => exact two_meas i hlt
      · have hn := fun h => HW.out h hA
        have HN : Hid (wth c < 16 → 97 ≤ lm ∧ lm ≤ 102 ∧ lm = wth c + 87) := hn
        have hnc : m < 48 ∨ 57 < m := by omega
        clear hn hA
        by_cases hB : 97 ≤ lm ∧ lm ≤ 102
        · obtain ⟨a1, a2⟩ := hB
          have n95 : (m == 95) = false := by simp; omega
          go_wp2_with (go_at_call 68; refine (HL _).mono ?_; rintro _ _ ⟨rfl, rfl⟩)
          all_goals (
            go_roundw
            case rel => exact ⟨i + 1, _, by omega, by go_num, rfl, rfl, HT _ (by omega) (by omega) (fun g => by have := (HN.out g).2.2; omega), hc, hb⟩
            case measure => exact two_meas i hlt)
        · have hz : Hid (¬ (wth e < 16 ∧ wth f < 16)) := fun g => hB ⟨(HN.out (HZ.out g)).1, (HN.out (HZ.out g)).2.1⟩
          have hBB : lm < 97 ∨ 102 < lm := by omega
          clear hB
          have hor : m = 95 ∨ m ≠ 95 := by omega
          rcases hor with rfl | n95
          · go_wp2_with (go_at_call 68; refine (HL _).mono ?_; rintro _ _ ⟨rfl, rfl⟩)
            all_goals (
              go_ret2
              exact ⟨0, _, rfl, .inr rfl, by omega, by omega, fun p q => absurd ⟨p, q⟩ hz.out, hb.out⟩)
          have n95 : (m == 95) = false := by simpa using n95
          go_wp2_with (go_at_call 68; refine (HL _).mono ?_; rintro _ _ ⟨rfl, rfl⟩)
          all_goals (
            go_ret2
            exact ⟨0, _, rfl, .inr rfl, by omega, by omega, fun p q => absurd ⟨p, q⟩ hz.out, hb.out⟩)
    · obtain rfl : i = 2 := by omega
      obtain ⟨g0, g1, g2⟩ := ht.out.2.2 rfl
      go_wp2_with (fail)
      go_ret2
      exact ⟨v, _, rfl, .inl rfl, g0, g1, g2, hb.out⟩
/-- strconv.ErrSyntax's cell: nothing of it is wanted but that it holds an error or none. -/
def Syn (w : World) : Prop := ∃ ev, w.cell? ⟨0, 0, none⟩ = some ev ∧ (ev = .nilIface ∨ ∃ te pe, ev = .iface te pe)
theorem Syn.below {w w' : World} (h : Syn w) (hb : Below w.heap.size w w') : Syn w' := by
  obtain ⟨ev, h1, h2⟩ := h
  exact ⟨ev, held h1 hb, h2⟩
/-- What ParseUint tells of two bytes: v is right where both are sixteens. -/
def AnsU (w : World) (e f : UInt8) (r : Ending) (w' : World) : Prop := ∃ (v : Int) (er : Value), r = .returned (.tuple #[.int .u64 v, er]) ∧ 0 ≤ v ∧ v < 256 ∧ (wth e < 16 → wth f < 16 → v = ((wth e * 16 + wth f : Nat) : Int)) ∧ Below w.heap.size w w'
set_option maxHeartbeats 1000000 in
set_option maxRecDepth 100000 in
theorem uint_any (e f : UInt8) (w : World) (hs : Syn w) : Calls Tryd.prog 57 #[.string ⟨#[e, f]⟩, .int .i64 16, .int .i64 8] w fun r w' => AnsU w e f r w' := by
  have HP := parse_any e f w
  go_enter Tryd.func57, Tryd.ntmps57
  go_wp2_with (fail)
  refine HP.mono ?_
  rintro _ w1 ⟨v, er, rfl, her, h0, h1, hv, hb⟩
  rcases her with rfl | rfl
  · go_wp2_with (fail)
    go_ret2
    exact ⟨v, _, rfl, h0, h1, hv, hb⟩
  · obtain ⟨ev, hc, hev⟩ := hs.below hb
    go_wp2_with (fail)
    refine (strconv_toError_syntax _ ⟨#[e, f]⟩ 16 8 ev w1 (by simp [ByteArray.size]) hc hev).mono ?_
    rintro _ w2 ⟨N, rfl, hN, hc2, hb2⟩
    go_wp2_with (fail)
    go_ret2
    exact ⟨v, _, rfl, h0, h1, hv, below_then hb hb2⟩
end Go.Proofs.YtdiecjkmbmgbkaaDoor
