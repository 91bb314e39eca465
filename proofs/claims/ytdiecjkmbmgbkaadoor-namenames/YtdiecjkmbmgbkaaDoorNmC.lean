/- What a byte shows, by the program and by the document; what the beginning of a text shows. -/
import Derived.Test.YtdiecjkmbmgbkaaDoorNmB
import Derived.Test.YtdiecjkmbmgbkaaDoorShA
import Derived.Deep.RegionHeld3
namespace Go.Proofs.YtdiecjkmbmgbkaaDoor
open Go.RowKit

def bts (l : Nm) : Array Value := (l.map fun b => Value.int .u8 (b.toNat : Int)).toArray
theorem conv_back (l : Nm) (w : World) (g cap : Nat) (h : ∀ j (hj : j < l.length), w.cell? ⟨g, j, none⟩ = some (.int .u8 ((l[j]'hj).toNat : Int))) : (convert 23 9 (.slice (some ⟨g, 0, none⟩) l.length cap)).run Tryd.prog w = .ok (.string ⟨l.toArray⟩) w :=
  run_convert_bytes_back w 23 9 5 ⟨g, 0, none⟩ cap l Tryd.underlying23 Tryd.underlying5 Tryd.underlying9 (fun j hj => by
    rw [Addr.add_lit, Nat.zero_add]
    exact h j hj)
theorem conv_new (l : Nm) (w : World) (cap : Nat) : (convert 23 9 (.slice (some ⟨w.heap.size, 0, none⟩) l.length cap)).run Tryd.prog (w.alloc (.cells (bts l) 5)) = .ok (.string ⟨l.toArray⟩) (w.alloc (.cells (bts l) 5)) :=
  conv_back l _ _ cap (fun j hj => by
    have h : (w.alloc (.cells (bts l) 5)).heap[w.heap.size]? = some (.cells (bts l) 5) := by
      show (w.heap.push _)[w.heap.size]? = _
      simp
    rw [Lib.cell_of_heap h]
    simp [bts, hj])
theorem conv_drew (l : Nm) (w : World) (cap : Nat) : (convert 23 9 (.slice (some ⟨w.heap.size, 0, none⟩) l.length cap)).run Tryd.prog (w.alloc (.cells (bts l) 5)).drew = .ok (.string ⟨l.toArray⟩) (w.alloc (.cells (bts l) 5)).drew :=
  conv_back l _ _ cap (fun j hj => by
    have h : (w.alloc (.cells (bts l) 5)).drew.heap[w.heap.size]? = some (.cells (bts l) 5) := by
      show (w.heap.push _)[w.heap.size]? = _
      simp
    rw [Lib.cell_of_heap h]
    simp [bts, hj])
theorem sixt_get : ∀ n (h : n < 16), (ByteArray.mk #[48, 49, 50, 51, 52, 53, 54, 55, 56, 57, 97, 98, 99, 100, 101, 102])[n]'h = hx n := by decide
set_option maxRecDepth 100000 in
theorem bits_and15 : ∀ c : UInt8, bits .and .u8 (c.toNat : Int) 15 = (c.toNat : Int) % 16 := all8 (p := fun c => bits .and .u8 (c.toNat : Int) 15 = (c.toNat : Int) % 16) (by decide)
theorem u8_ne {a b : UInt8} (h : a ≠ b) : ((a.toNat : Int) == (b.toNat : Int)) = false := beq_eq_false_iff_ne.2 fun e => h (UInt8.toNat_inj.1 (by omega))
theorem u8_le {a b : UInt8} (h : a ≤ b) : (a.toNat : Int) ≤ (b.toNat : Int) := by have := UInt8.le_iff_toNat_le.1 h; omega
set_option maxHeartbeats 1000000 in
set_option maxRecDepth 100000 in
theorem shows_any (c : UInt8) (w : World) : Calls Tryd.prog 26 #[.int .u8 (c.toNat : Int)] w fun e w' => e = .returned (.string ⟨(shw c).toArray⟩) ∧ Below w.heap.size w w' := by
  have hm := c.toNat_lt
  have hx1 : Hid (c.toNat / 16 < 16) := by show _ < 16; omega
  by_cases h34 : c = 34
  · subst h34
    have h2 : ∀ w : World, (convert 23 9 (.slice (some ⟨w.heap.size, 0, none⟩) 2 2)).run Tryd.prog (w.alloc (.cells #[.int .u8 92, .int .u8 34] 5)) = .ok (.string ⟨#[92, 34]⟩) (w.alloc (.cells #[.int .u8 92, .int .u8 34] 5)) := fun w => conv_new [92, 34] w 2
    go_enter Tryd.func26, Tryd.ntmps26
    go_wp2
    go_ret
    exact ⟨rfl, below_alloc _ _⟩
  by_cases h92 : c = 92
  · subst h92
    have h2 : ∀ w : World, (convert 23 9 (.slice (some ⟨w.heap.size, 0, none⟩) 2 2)).run Tryd.prog (w.alloc (.cells #[.int .u8 92, .int .u8 92] 5)) = .ok (.string ⟨#[92, 92]⟩) (w.alloc (.cells #[.int .u8 92, .int .u8 92] 5)) := fun w => conv_new [92, 92] w 2
    go_enter Tryd.func26, Tryd.ntmps26
    go_wp2
    go_ret
    exact ⟨rfl, below_alloc _ _⟩
  have e34 : ((c.toNat : Int) == 34) = false := u8_ne h34
  have e92 : ((c.toNat : Int) == 92) = false := u8_ne h92
  by_cases hp : 33 ≤ c ∧ c ≤ 126
  · rw [show shw c = [c] from (if_neg (by rintro (h | h); exact h34 h; exact h92 h)).trans (if_pos hp)]
    obtain ⟨p1, p2⟩ := hp
    have h2 : ∀ w : World, (convert 23 9 (.slice (some ⟨w.heap.size, 0, none⟩) 1 1)).run Tryd.prog (w.alloc (.cells #[.int .u8 (c.toNat : Int)] 5)) = .ok (.string ⟨#[c]⟩) (w.alloc (.cells #[.int .u8 (c.toNat : Int)] 5)) := fun w => conv_new [c] w 1
    have q1 : (33 : Int) ≤ c.toNat := u8_le p1
    have q2 : (c.toNat : Int) ≤ 126 := u8_le p2
    clear p1 p2
    go_enter Tryd.func26, Tryd.ntmps26
    go_wp2
    go_ret
    exact ⟨rfl, below_alloc _ _⟩
  · rw [show shw c = [92, 120, hx (c.toNat / 16), hx (c.toNat % 16)] from (if_neg (by rintro (h | h); exact h34 h; exact h92 h)).trans (if_neg hp)]
    have hpp : (c.toNat : Int) < 33 ∨ 126 < (c.toNat : Int) := by
      refine Classical.byContradiction fun h => hp ⟨UInt8.le_iff_toNat_le.2 ?_, UInt8.le_iff_toNat_le.2 ?_⟩
      · show 33 ≤ c.toNat
        omega
      · show c.toNat ≤ 126
        omega
    have b1 : (0 : Int) ≤ (c.toNat : Int) / 16 := by omega
    have b2 : (c.toNat : Int) / 16 < 16 := by omega
    have b3 : (0 : Int) ≤ (c.toNat : Int) % 16 := by omega
    have b4 : (c.toNat : Int) % 16 < 16 := by omega
    have k1 : c.toNat / 16 < (ByteArray.mk #[48, 49, 50, 51, 52, 53, 54, 55, 56, 57, 97, 98, 99, 100, 101, 102]).size := by show _ < 16; omega
    have k2 : c.toNat % 16 < (ByteArray.mk #[48, 49, 50, 51, 52, 53, 54, 55, 56, 57, 97, 98, 99, 100, 101, 102]).size := by show _ < 16; omega
    have ha := bits_and15 c
    have h2 : ∀ w : World, (convert 23 9 (.slice (some ⟨w.heap.size, 0, none⟩) 4 4)).run Tryd.prog (w.alloc (.cells #[.int .u8 92, .int .u8 120, .int .u8 (((ByteArray.mk #[48, 49, 50, 51, 52, 53, 54, 55, 56, 57, 97, 98, 99, 100, 101, 102])[c.toNat / 16]'k1).toNat : Int), .int .u8 (((ByteArray.mk #[48, 49, 50, 51, 52, 53, 54, 55, 56, 57, 97, 98, 99, 100, 101, 102])[c.toNat % 16]'k2).toNat : Int)] 5)).drew = .ok (.string ⟨#[92, 120, (ByteArray.mk #[48, 49, 50, 51, 52, 53, 54, 55, 56, 57, 97, 98, 99, 100, 101, 102])[c.toNat / 16]'k1, (ByteArray.mk #[48, 49, 50, 51, 52, 53, 54, 55, 56, 57, 97, 98, 99, 100, 101, 102])[c.toNat % 16]'k2]⟩) (w.alloc (.cells #[.int .u8 92, .int .u8 120, .int .u8 (((ByteArray.mk #[48, 49, 50, 51, 52, 53, 54, 55, 56, 57, 97, 98, 99, 100, 101, 102])[c.toNat / 16]'k1).toNat : Int), .int .u8 (((ByteArray.mk #[48, 49, 50, 51, 52, 53, 54, 55, 56, 57, 97, 98, 99, 100, 101, 102])[c.toNat % 16]'k2).toNat : Int)] 5)).drew := fun w => conv_drew [92, 120, (ByteArray.mk #[48, 49, 50, 51, 52, 53, 54, 55, 56, 57, 97, 98, 99, 100, 101, 102])[c.toNat / 16]'k1, (ByteArray.mk #[48, 49, 50, 51, 52, 53, 54, 55, 56, 57, 97, 98, 99, 100, 101, 102])[c.toNat % 16]'k2] w 4
    have mixed : Tryd.prog.follows Departure.mixedOrders = true := by kernel_rfl
    go_enter Tryd.func26, Tryd.ntmps26
    go_wp2
    all_goals (
      go_region_o
      all_goals (
        go_wp2
        go_ret
        refine ⟨?_, (below_alloc _ _).trans (below_drew _ _)⟩
        rw [sixt_get _ (by omega), sixt_get _ (by omega)]
        rfl))
theorem extr (l : Nm) (i j : Nat) : (ByteArray.mk l.toArray).extract i j = ⟨((l.take j).drop i).toArray⟩ := by
  apply ByteArray.ext
  rw [ByteArray.data_extract]
  simp [List.extract_eq_take_drop, List.drop_take]
/-- The program's guess at the byte that the beginning of a text shows. -/
def AnsM (w : World) (l : Nm) (r : Ending) (w' : World) : Prop := ∃ v : UInt8 → UInt8 → UInt8, Sx2 v ∧ r = .returned (.int .u8 ((mnt v l).toNat : Int)) ∧ Below w.heap.size w w'
def plainV : UInt8 → UInt8 → UInt8 := fun e f => UInt8.ofNat (wth e * 16 + wth f)
theorem plainV_good : Sx2 plainV := fun _ _ _ _ => rfl
set_option maxHeartbeats 2000000 in
set_option maxRecDepth 100000 in
theorem meant_any (l : Nm) (w : World) (hl : l ≠ []) (hn : l.length ≤ 100000) (hs : Syn w) : Calls Tryd.prog 42 #[.string ⟨l.toArray⟩] w fun r w' => AnsM w l r w' := by
  obtain ⟨c, r, rfl⟩ : ∃ c r, l = c :: r := by
    cases l with
    | nil => exact absurd rfl hl
    | cons c r => exact ⟨c, r, rfl⟩
  by_cases h1 : c ≠ 92 ∨ r = []
  · have hm : ∀ v, mnt v (c :: r) = c := fun v => by
      rcases h1 with h | rfl
      · cases r with
        | nil => rfl
        | cons d r => simp [mnt, h]
      · rfl
    by_cases h : c = 92
    · subst h
      obtain rfl : r = [] := h1.resolve_left (fun g => g rfl)
      go_enter Tryd.func42, Tryd.ntmps42
      go_wp2_with (fail)
      go_ret
      exact ⟨plainV, plainV_good, by rw [hm]; rfl, Below.refl _ _⟩
    · have k0 : 0 < (ByteArray.mk (c :: r : Nm).toArray).size := by rw [str_size]; simp
      have e0 : ((((ByteArray.mk (c :: r : Nm).toArray)[0]'k0).toNat : Int) != 92) = true := by
        show ((c.toNat : Int) != ((92 : UInt8).toNat : Int)) = true
        rw [bne, u8_ne h]; rfl
      go_enter Tryd.func42, Tryd.ntmps42
      go_wp2_with (fail)
      go_ret
      exact ⟨plainV, plainV_good, by rw [hm]; rfl, Below.refl _ _⟩
  have h92 : c = 92 := Classical.byContradiction fun h => h1 (.inl h)
  subst h92
  obtain ⟨d, r, rfl⟩ : ∃ d r', r = d :: r' := by
    cases r with
    | nil => exact absurd (.inr rfl) h1
    | cons d r => exact ⟨d, r, rfl⟩
  clear h1 hl
  by_cases h2 : d ≠ 120 ∨ r.length < 2
  · have hm : ∀ v, mnt v (92 :: d :: r) = d := fun v => by
      rcases h2 with h | h
      · simp [mnt, h]
      · match r, h with
        | [], _ => simp [mnt]
        | [_], _ => simp [mnt]
        | _ :: _ :: _, h => exact absurd h (by simp)
    by_cases h : d = 120
    · subst h
      have h4 : (r.length : Int) + 1 + 1 < 4 := by have := h2.resolve_left (fun g => g rfl); omega
      go_enter Tryd.func42, Tryd.ntmps42
      go_wp2_with (fail)
      go_ret
      exact ⟨plainV, plainV_good, by rw [hm]; rfl, Below.refl _ _⟩
    · have k0 : 1 < (ByteArray.mk (92 :: d :: r : Nm).toArray).size := by rw [str_size]; simp
      have e0 : ((((ByteArray.mk (92 :: d :: r : Nm).toArray)[1]'k0).toNat : Int) != 120) = true := by
        show ((d.toNat : Int) != ((120 : UInt8).toNat : Int)) = true
        rw [bne, u8_ne h]; rfl
      go_enter Tryd.func42, Tryd.ntmps42
      go_wp2_with (fail)
      go_ret
      exact ⟨plainV, plainV_good, by rw [hm]; rfl, Below.refl _ _⟩
  have h120 : d = 120 := Classical.byContradiction fun h => h2 (.inl h)
  subst h120
  obtain ⟨e, f, r, rfl⟩ : ∃ e f r', r = e :: f :: r' := by
    match r, h2 with
    | [], h => exact absurd (.inr (by simp)) h
    | [_], h => exact absurd (.inr (by simp)) h
    | e :: f :: r, _ => exact ⟨e, f, r, rfl⟩
  clear h2
  have HU : ∀ w, Syn w → Calls Tryd.prog 57 #[.string ⟨#[e, f]⟩, .int .i64 16, .int .i64 8] w _ := uint_any e f
  have hx : (ByteArray.mk (92 :: 120 :: e :: f :: r : Nm).toArray).extract 2 4 = ⟨#[e, f]⟩ := extr (92 :: 120 :: e :: f :: r) 2 4
  go_enter Tryd.func42, Tryd.ntmps42
  go_wp2_with (fail)
  refine (HU _ hs).mono ?_
  rintro _ w1 ⟨v, er, rfl, v0, v1, hv, hb⟩
  go_wp2_with (fail)
  go_ret
  refine ⟨fun a b => if a = e ∧ b = f then UInt8.ofNat v.toNat else plainV a b, fun a b ha hb => ?_, ?_, hb⟩
  · show (if a = e ∧ b = f then UInt8.ofNat v.toNat else plainV a b) = _
    split
    · rename_i h
      obtain ⟨rfl, rfl⟩ := h
      rw [hv ha hb]; rfl
    · rfl
  · refine ret_u8 ?_
    simp [mnt]
    omega
set_option maxHeartbeats 2000000 in
set_option maxRecDepth 100000 in
theorem shown_any (l : Nm) (w : World) (hl : l ≠ []) (hn : l.length ≤ 100000) (hs : Syn w) : Calls Tryd.prog 36 #[.string ⟨l.toArray⟩] w fun r w' => r = .returned (.tuple #[.int .u8 ((thg l).1.toNat : Int), .int .i64 (((thg l).2 : Nat) : Int)]) ∧ Below w.heap.size w w' := by
  have HM := meant_any l w hl hn hs
  go_enter Tryd.func36, Tryd.ntmps36
  go_wp2_with (fail)
  refine HM.mono ?_
  rintro _ w1 ⟨v, hv, rfl, hb1⟩
  have ht := shown_thg hv l
  go_wp2_with (fail)
  refine (shows_any (mnt v l) w1).mono ?_
  rintro _ w2 ⟨rfl, hb2⟩
  have hb := below_then hb1 hb2
  have HP := strings_HasPrefix ⟨l.toArray⟩ ⟨(shw (mnt v l)).toArray⟩ w2
  have hlen := str_size (shw (mnt v l))
  by_cases hp : shw (mnt v l) <+: l
  · rw [if_pos hp] at ht
    rw [show Lib.hasPrefix (ByteArray.mk l.toArray).data.toList (ByteArray.mk (shw (mnt v l)).toArray).data.toList = true from List.isPrefixOf_iff_prefix.2 hp] at HP
    go_wp2_with (fail)
    refine HP.mono ?_
    rintro _ w3 ⟨rfl, rfl⟩
    go_wp2_with (fail)
    go_ret2
    exact ⟨by rw [← ht]; rfl, hb⟩
  · rw [if_neg hp] at ht
    rw [show Lib.hasPrefix (ByteArray.mk l.toArray).data.toList (ByteArray.mk (shw (mnt v l)).toArray).data.toList = false from Bool.eq_false_iff.2 fun h => hp (List.isPrefixOf_iff_prefix.1 h)] at HP
    go_wp2_with (fail)
    refine HP.mono ?_
    rintro _ w3 ⟨rfl, rfl⟩
    go_wp2_with (fail)
    go_ret2
    exact ⟨by rw [← ht]; rfl, hb⟩
end Go.Proofs.YtdiecjkmbmgbkaaDoor
