/- The walk of the statement that cells and numbers are taken up to their ends, and not beyond. -/
import Derived.Test.YthkikocacbbhkaaCodM
namespace Go.Proofs.Ythkikocacbbhkaa
open Go.RowKit

def byteK (i : Nat) : K := K.of i
theorem byteK_n (i : Nat) : (i : Int) % 256 = (((byteK i).n : Nat) : Int) := by show _ = ((i % 256 : Nat) : Int); omega
theorem lst_nil (w : World) : Lst w none 0 (fun _ => none) (fun _ => 0) (fun _ => 0) (fun _ _ => 0) := ⟨fun i hi => absurd hi (Nat.not_lt_zero i), fun hp => absurd hp (Nat.lt_irrefl 0)⟩
theorem par_one (f : Nat → K) (b : Nat) : par 1 (fun _ => f) 0 b = f b := by
  show K.add 0 (K.mul (gen 1 1 0) (f b)) = f b
  rw [K.zero_add, show gen 1 1 0 = 1 from K.ext (by decide +kernel), K.one_mul]
/-- Twelve rows of one byte. -/
def bw (w : World) : Nat → World
  | 0 => w
  | n + 1 => (bw w n).alloc (.cells #[.int .u8 ((n + 4 : Nat) : Int)] 5)
theorem bw_size (w : World) (n : Nat) : (bw w n).heap.size = w.heap.size + n := by
  induction n with
  | zero => rfl
  | succ n ih => rw [bw]; simp [ih]; omega
theorem bw_below (w : World) (n : Nat) : Below w.heap.size w (bw w n) := by
  induction n with
  | zero => exact Below.refl _ _
  | succ n ih => exact ih.alloc ih.size _
theorem bw_cell (w : World) (n j : Nat) (h : j < n) : (bw w n).cell? ⟨w.heap.size + j, 0, none⟩ = some (.int .u8 ((j + 4 : Nat) : Int)) := by
  induction n with
  | zero => omega
  | succ n ih =>
    by_cases e : j = n
    · subst e
      rw [bw, cell_of_row _ _ _ _ _ _ (show ((bw w j).alloc _).heap[w.heap.size + j]? = _ by rw [← bw_size w j]; exact heap_alloc_new (bw w j) _)]
      rfl
    · exact held (ih (by omega)) (by rw [bw]; exact below_alloc _ _)
def nA (s i : Nat) : Option Addr := if i < 4 then none else some ⟨s + (i - 4), 0, none⟩
def nL (i : Nat) : Nat := if i < 4 then 0 else 1
def nH (i _j : Nat) : K := K.of i
theorem nH_n (i j : Nat) (h : i < 16) : ((nH i j).n : Int) = (i : Int) := by rw [nH, K.of_n _ (by omega)]
theorem names_lst (w : World) (arr : Array Value) (harr : ∀ i, i < 16 → arr[i]? = some (.slice (nA w.heap.size i) (nL i) (nL i))) : Lst ((bw w 12).alloc (.cells arr 23)) (some ⟨w.heap.size + 12, 0, none⟩) 16 (nA w.heap.size) nL nL nH := by
  refine ⟨fun i hi => ?_, fun _ => ⟨_, _, rfl, fun i hi => ?_⟩⟩
  · unfold nA nL
    by_cases e : i < 4
    · rw [if_pos e, if_pos e]; exact rd_none _ _
    · rw [if_neg e, if_neg e]
      refine fun _ => ⟨_, _, rfl, fun j hj => ?_⟩
      obtain rfl : j = 0 := by omega
      rw [nH_n i 0 hi]
      have := held (bw_cell w 12 (i - 4) (by omega)) (below_alloc (bw w 12) (.cells arr 23))
      rw [show ((i - 4 + 4 : Nat) : Int) = (i : Int) by omega] at this
      exact this
  · rw [← bw_size w 12, cell_of_row _ _ _ _ _ _ (heap_alloc_new (bw w 12) _), Nat.zero_add, harr i hi]
theorem nL_ok : okDec 16 nL 12 4 = true ∧ errD (mayB 12 4) (okC 16 nL (12 + 4)) true = 0 ∧ len0 nL 16 = 1 ∧ sel nL 16 0 = 4 ∧ sel nL 16 11 = 15 ∧ cnt nL 16 = 12 := by decide +kernel
theorem names_dec (w : World) (arr : Array Value) (harr : ∀ i, i < 16 → arr[i]? = some (.slice (nA w.heap.size i) (nL i) (nL i))) :
    Calls Try.prog 10 #[.int .i64 12, .int .i64 4, .slice (some ⟨w.heap.size + 12, 0, none⟩) 16 16] ((bw w 12).alloc (.cells arr 23)) fun e w' => ∃ l cap G U D B T, e = .returned (.tuple #[.slice (some ⟨l, 0, none⟩) 16 cap, .int .i64 0]) ∧ Mat w' B T l cap 16 1 G U (enc 12 D) ∧ (enc 12 D 4 0).n = 4 ∧ (enc 12 D 15 0).n = 15 ∧ Below w.heap.size w w' := by
  have HD := Decode_any _ 12 4 _ 16 16 _ _ _ _ (names_lst w arr harr)
  obtain ⟨h1, h2, h3, h4, h5, h6⟩ := nL_ok
  rw [h1, h2, h3, show Int.toNat 12 = 12 from rfl, show Int.toNat 4 = 4 from rfl] at HD
  refine HD.mono ?_
  intro e w' h
  obtain ⟨l, cap, G, U, he, hm, hb⟩ := h.mat (by decide) (by decide)
  have hs := sel_is nL 16
  have q : ∀ t, t < 12 → enc 12 (dec 12 (sel nL 16) nH) (sel nL 16 t) 0 = nH (sel nL 16 t) 0 := fun t ht => dec_back nH (by decide) (show 16 ≤ 16 by decide) (fun s hs' => hs.lt s (by omega)) (fun s s' g1 g2 => hs.rise s s' g1 (by omega)) t 0 ht
  refine ⟨l, cap, G, U, _, _, _, he, hm, ?_, ?_, below_step (below_allocs (bw_below w 12) _) hb (by have := (bw_below w 12).size; simp; omega)⟩
  · have := q 0 (by decide); rw [h4] at this; rw [this]; rfl
  · have := q 11 (by decide); rw [h5] at this; rw [this]; rfl
theorem okL_bad : okEnc 1 (fun _ => 65537) 1 1 = false ∧ okEnc 0 (fun _ => 0) 1 5 = false ∧ okEnc 0 (fun _ => 0) 13 0 = false ∧ okEnc 0 (fun _ => 0) 1 0 = false ∧ okDec 0 (fun _ => 0) 1 (-1) = false ∧ okDec 2 (two 0 65537) 1 1 = false ∧ okVer 0 (fun _ => 0) 0 0 = false := by decide +kernel
theorem err_bad : errE (mayB 1 1) false = 40 ∧ errE (mayB 1 5) false = 2 ∧ errE (mayB 13 0) false = 2 ∧ errE (mayB 1 0) false = 40 ∧ errD (mayB 1 (-1)) (okC 0 (fun _ => 0) (1 + -1)) false = 2 ∧ errD (mayB 1 1) (okC 2 (two 0 65537) (1 + 1)) false = 40 ∧ errE (mayB 0 0) false = 2 := by decide +kernel

set_option maxHeartbeats 4000000 in
set_option maxRecDepth 100000 in
theorem names_walk (w : World) : Calls Try.prog 3 #[] w fun e w' => e = .returned (.bool true) ∧ Below w.heap.size w w' := by
  have hmk1 := run_make_row' (P := Try.prog) 23 5 (.int .u8 0) 1 Try.underlying23 info5c rfl .i64 .i64 65536 (by omega) (by omega)
  have hmk2 := run_make_row' (P := Try.prog) 23 5 (.int .u8 0) 1 Try.underlying23 info5c rfl .i64 .i64 65537 (by omega) (by omega)
  rw [show ((65536 : Nat) : Int) = 65536 from rfl] at hmk1
  rw [show ((65537 : Nat) : Int) = 65537 from rfl] at hmk2
  obtain ⟨o1, o2, o3, o4, o5, o6, o7⟩ := okL_bad
  obtain ⟨r1, r2, r3, r4, r5, r6, r7⟩ := err_bad
  have HOK : Hid (okEnc 1 (fun _ => 65537) 1 1 = false ∧ okEnc 0 (fun _ => 0) 1 5 = false ∧ okEnc 0 (fun _ => 0) 13 0 = false ∧ okEnc 0 (fun _ => 0) 1 0 = false ∧ okDec 0 (fun _ => 0) 1 (-1) = false ∧ okDec 2 (two 0 65537) 1 1 = false ∧ okVer 0 (fun _ => 0) 0 0 = false) := ⟨o1, o2, o3, o4, o5, o6, o7⟩
  clear o1 o2 o3 o4 o5 o6 o7
  have HER : Hid (errE (mayB 1 1) false = 40 ∧ errE (mayB 1 5) false = 2 ∧ errE (mayB 13 0) false = 2 ∧ errE (mayB 1 0) false = 40 ∧ errD (mayB 1 (-1)) (okC 0 (fun _ => 0) (1 + -1)) false = 2 ∧ errD (mayB 1 1) (okC 2 (two 0 65537) (1 + 1)) false = 40 ∧ errE (mayB 0 0) false = 2) := ⟨r1, r2, r3, r4, r5, r6, r7⟩
  clear r1 r2 r3 r4 r5 r6 r7
  go_enter Try.func3, Try.ntmps3
  go_wp2_with fail
  refine (alive_any w).mono ?_
  rintro e w1 ⟨rfl, b1⟩
  go_wp2
  obtain ⟨MA, hMA⟩ : ∃ MA, MA = madeCells #[.int .u8 0] 65536 := ⟨_, rfl⟩
  obtain ⟨MB, hMB⟩ : ∃ MB, MB = madeCells #[.int .u8 0] 65537 := ⟨_, rfl⟩
  rw [← hMA, ← hMB]
  have HMA : Hid (Own (w1.alloc (.cells MA 5)) w1.heap.size 65536 65536 (fun _ => 0)) := ⟨Nat.le_refl _, by unfold maxLen; omega, _, by rw [hMA]; exact row_made w1 5 65536 _, fun i _ => rfl⟩
  have HMB : Hid (Own ((w1.alloc (.cells MA 5)).alloc (.cells MB 5)) (w1.heap.size + 1) 65537 65537 (fun _ => 0)) := ⟨Nat.le_refl _, by unfold maxLen; omega, _, by
    have := row_made (w1.alloc (.cells MA 5)) 5 65537 (.int .u8 0)
    rw [hMB]
    rw [show (w1.alloc (.cells MA 5)).heap.size = w1.heap.size + 1 by simp] at this
    exact this, fun i _ => rfl⟩
  clear hMA hMB hmk1 hmk2
  generalize hZ : (65536 : Nat) = Z at HMA ⊢
  have HZ : Hid (65536 = Z) := hZ
  have hZ2 : Z ≤ 65536 := by omega
  clear hZ
  go_loopw [4] (fun i wr => ∃ k : Nat, k ≤ Z ∧ i = .int .i64 k ∧ Hid (Own wr w1.heap.size Z Z (upto k byteK fun _ => 0)) ∧ Hid (Keeps w1.heap.size (w1.heap.size + 1) ((w1.alloc (.cells MA 5)).alloc (.cells MB 5)) wr)) (fun i _ => Z - (intOf i).toNat)
  case atStart => exact ⟨0, Nat.zero_le _, rfl, by rw [upto_zero]; exact HMA.out.below (below_alloc _ _), Keeps.refl _ _ _⟩
  case round =>
    obtain ⟨k, hk, rfl, hown, hkeep⟩ := hrel
    by_cases hlt : k < Z
    · have c1 := hown.out.cell hlt
      have HX : Hid ((k : Int) % 256 = ((byteK k).n : Int)) := byteK_n k
      have z1 := hown.out.frozen k
      go_wp2
      go_roundw
      case rel => exact ⟨k + 1, by omega, by go_num, by rw [HX.out]; exact hown.out.store, hkeep.out.setCell (Nat.le_refl _) (by omega) k _⟩
      case measure => simp [intOf]; omega
    · obtain rfl : k = Z := by omega
      obtain rfl := HZ.out
      clear HZ hk hlt hZ2
      have HA : Hid (Rd wr (some ⟨w1.heap.size, 0, none⟩) 65536 byteK) := hown.out.all.rd
      have HB : Hid (Rd wr (some ⟨w1.heap.size + 1, 0, none⟩) 65537 (fun _ => 0)) := (HMB.out.keeps hkeep.out (by omega)).rd
      have bw0 : Below w.heap.size w wr := (b1.trans ((below_allocs (below_alloc w1 _) _).mono b1.size)).trans (hkeep.out.below (by have := b1.size; simp; omega) b1.size)
      clear hown hkeep HMA HMB b1
      obtain ⟨w2, rfl⟩ : ∃ x, x = wr := ⟨wr, rfl⟩
      go_wp2_with fail
      have HE1 : Calls Try.prog 9 #[.int .i64 1, .int .i64 1, .slice (some ⟨w2.heap.size, 0, none⟩) 1 1] (w2.alloc (.cells #[.slice (some ⟨w1.heap.size, 0, none⟩) 65536 65536] 23)) fun e w' => ∃ ao cap T U, e = .returned (.tuple #[.slice ao 1 cap, .int .i64 0]) ∧ Copied w' (w2.alloc (.cells #[.slice (some ⟨w1.heap.size, 0, none⟩) 65536 65536] 23)).heap.size 1 (.slice ao 1 cap) T (fun _ => 65536) U (par 1 (fun _ => byteK)) ∧ Below (w2.alloc (.cells #[.slice (some ⟨w1.heap.size, 0, none⟩) 65536 65536] 23)).heap.size (w2.alloc (.cells #[.slice (some ⟨w1.heap.size, 0, none⟩) 65536 65536] 23)) w' :=
        encode_const _ 1 1 65536 1 _ _ _ _ (by decide) (by decide) (by decide) (by decide) (by decide) (lst1 rfl _ 65536 65536 byteK HA.out)
      refine HE1.mono ?_
      rintro e w3 ⟨po, pc, PT, PU, rfl, hc3, bn⟩
      obtain ⟨l3, G3, rfl, hm3⟩ := Copied.mat hc3 (fun _ _ => rfl) (by decide) (by decide)
      have b3 : Below w2.heap.size w2 w3 := below_step (below_alloc w2 _) bn (by simp)
      have HP : Hid (Lst w3 (some ⟨l3, 0, none⟩) 1 (fun i => some ⟨G3 i, 0, none⟩) PU (fun _ => 65536) (par 1 (fun _ => byteK))) := hm3.lst_
      replace HA : Hid (Rd w3 (some ⟨w1.heap.size, 0, none⟩) 65536 byteK) := HA.out.below b3
      replace HB : Hid (Rd w3 (some ⟨w1.heap.size + 1, 0, none⟩) 65537 (fun _ => 0)) := HB.out.below b3
      replace bw0 := below_step bw0 b3 bw0.size
      clear HE1 hc3 hm3 bn b3
      go_wp2_with fail
      refine (Encode_any _ 1 1 _ 1 1 _ _ _ _ (lst1 rfl _ 65537 65537 (fun _ => 0) HB.out)).mono ?_
      rw [HOK.out.1, HER.out.1]
      rintro e w4 ⟨ao4, c4, T4, U4, rfl, _, bn⟩
      have b4 : Below w3.heap.size w3 w4 := below_step (below_alloc w3 _) bn (by simp)
      replace HP : Hid (Lst w4 (some ⟨l3, 0, none⟩) 1 (fun i => some ⟨G3 i, 0, none⟩) PU (fun _ => 65536) (par 1 (fun _ => byteK))) := HP.out.below b4
      replace HA : Hid (Rd w4 (some ⟨w1.heap.size, 0, none⟩) 65536 byteK) := HA.out.below b4
      replace HB : Hid (Rd w4 (some ⟨w1.heap.size + 1, 0, none⟩) 65537 (fun _ => 0)) := HB.out.below b4
      replace bw0 := below_step bw0 b4 bw0.size
      clear bn b4
      go_wp2_with fail
      refine (Encode_any _ 1 5 none 0 0 _ _ _ _ (lst_nil _)).mono ?_
      rw [HOK.out.2.1, HER.out.2.1]
      rintro e w5 ⟨ao5, c5, T5, U5, rfl, _, b5⟩
      replace HP : Hid (Lst w5 (some ⟨l3, 0, none⟩) 1 (fun i => some ⟨G3 i, 0, none⟩) PU (fun _ => 65536) (par 1 (fun _ => byteK))) := HP.out.below b5
      replace HA : Hid (Rd w5 (some ⟨w1.heap.size, 0, none⟩) 65536 byteK) := HA.out.below b5
      replace HB : Hid (Rd w5 (some ⟨w1.heap.size + 1, 0, none⟩) 65537 (fun _ => 0)) := HB.out.below b5
      replace bw0 := below_step bw0 b5 bw0.size
      clear b5
      go_wp2_with fail
      refine (Encode_any _ 13 0 none 0 0 _ _ _ _ (lst_nil _)).mono ?_
      rw [HOK.out.2.2.1, HER.out.2.2.1]
      rintro e w6 ⟨ao6, c6, T6, U6, rfl, _, b6⟩
      replace HP : Hid (Lst w6 (some ⟨l3, 0, none⟩) 1 (fun i => some ⟨G3 i, 0, none⟩) PU (fun _ => 65536) (par 1 (fun _ => byteK))) := HP.out.below b6
      replace HA : Hid (Rd w6 (some ⟨w1.heap.size, 0, none⟩) 65536 byteK) := HA.out.below b6
      replace HB : Hid (Rd w6 (some ⟨w1.heap.size + 1, 0, none⟩) 65537 (fun _ => 0)) := HB.out.below b6
      replace bw0 := below_step bw0 b6 bw0.size
      clear b6
      go_wp2_with fail
      refine (Encode_any _ 1 0 none 0 0 _ _ _ _ (lst_nil _)).mono ?_
      rw [HOK.out.2.2.2.1, HER.out.2.2.2.1]
      rintro e w7 ⟨ao7, c7, T7, U7, rfl, _, b7⟩
      replace HP : Hid (Lst w7 (some ⟨l3, 0, none⟩) 1 (fun i => some ⟨G3 i, 0, none⟩) PU (fun _ => 65536) (par 1 (fun _ => byteK))) := HP.out.below b7
      replace HA : Hid (Rd w7 (some ⟨w1.heap.size, 0, none⟩) 65536 byteK) := HA.out.below b7
      replace HB : Hid (Rd w7 (some ⟨w1.heap.size + 1, 0, none⟩) 65537 (fun _ => 0)) := HB.out.below b7
      replace bw0 := below_step bw0 b7 bw0.size
      clear b7
      go_wp2_with fail
      refine (Decode_any _ 1 (-1) none 0 0 _ _ _ _ (lst_nil _)).mono ?_
      rw [HOK.out.2.2.2.2.1, HER.out.2.2.2.2.1]
      rintro e w8 ⟨ao8, c8, T8, U8, rfl, _, b8⟩
      replace HP : Hid (Lst w8 (some ⟨l3, 0, none⟩) 1 (fun i => some ⟨G3 i, 0, none⟩) PU (fun _ => 65536) (par 1 (fun _ => byteK))) := HP.out.below b8
      replace HA : Hid (Rd w8 (some ⟨w1.heap.size, 0, none⟩) 65536 byteK) := HA.out.below b8
      replace HB : Hid (Rd w8 (some ⟨w1.heap.size + 1, 0, none⟩) 65537 (fun _ => 0)) := HB.out.below b8
      replace bw0 := below_step bw0 b8 bw0.size
      clear b8
      go_wp2_with fail
      refine (Decode_any _ 1 1 _ 2 2 _ _ _ _ (lst2 rfl none _ 0 0 65537 65537 (fun _ => 0) (fun _ => 0) (rd_none _ _) HB.out)).mono ?_
      rw [HOK.out.2.2.2.2.2.1, HER.out.2.2.2.2.2.1]
      rintro e w9 ⟨ao9, c9, T9, U9, rfl, _, bn⟩
      have b9 : Below w8.heap.size w8 w9 := below_step (below_alloc w8 _) bn (by simp)
      replace HP : Hid (Lst w9 (some ⟨l3, 0, none⟩) 1 (fun i => some ⟨G3 i, 0, none⟩) PU (fun _ => 65536) (par 1 (fun _ => byteK))) := HP.out.below b9
      replace HA : Hid (Rd w9 (some ⟨w1.heap.size, 0, none⟩) 65536 byteK) := HA.out.below b9
      replace HB : Hid (Rd w9 (some ⟨w1.heap.size + 1, 0, none⟩) 65537 (fun _ => 0)) := HB.out.below b9
      replace bw0 := below_step bw0 b9 bw0.size
      clear bn b9
      go_wp2_with fail
      refine (names_dec w9 _ (fun i hi => ?_)).mono ?_
      · obtain rfl | rfl | rfl | rfl | rfl | rfl | rfl | rfl | rfl | rfl | rfl | rfl | rfl | rfl | rfl | rfl : i = 0 ∨ i = 1 ∨ i = 2 ∨ i = 3 ∨ i = 4 ∨ i = 5 ∨ i = 6 ∨ i = 7 ∨ i = 8 ∨ i = 9 ∨ i = 10 ∨ i = 11 ∨ i = 12 ∨ i = 13 ∨ i = 14 ∨ i = 15 := by omega
        all_goals rfl
      rintro e w10 ⟨l, cap, G, U, D, B, T, rfl, hm, v4, v15, b10⟩
      replace HP : Hid (Lst w10 (some ⟨l3, 0, none⟩) 1 (fun i => some ⟨G3 i, 0, none⟩) PU (fun _ => 65536) (par 1 (fun _ => byteK))) := HP.out.below b10
      replace HA : Hid (Rd w10 (some ⟨w1.heap.size, 0, none⟩) 65536 byteK) := HA.out.below b10
      replace bw0 := below_step bw0 b10 bw0.size
      have HM : Hid (Mat w10 B T l cap 16 1 G U (enc 12 D)) := hm
      have HVV : Hid ((enc 12 D 4 0).n = 4 ∧ (enc 12 D 15 0).n = 15) := ⟨v4, v15⟩
      clear b10 hm v4 v15
      go_wp2_with fail
      refine (Verify_any w10 0 0 none 0 0 _ _ _ _ (lst_nil _) (Nat.le_refl _)).mono ?_
      rw [HOK.out.2.2.2.2.2.2, HER.out.2.2.2.2.2.2, Bool.false_and]
      rintro e w11 ⟨rfl, b11⟩
      replace HP : Hid (Lst w11 (some ⟨l3, 0, none⟩) 1 (fun i => some ⟨G3 i, 0, none⟩) PU (fun _ => 65536) (par 1 (fun _ => byteK))) := HP.out.below b11
      replace HA : Hid (Rd w11 (some ⟨w1.heap.size, 0, none⟩) 65536 byteK) := HA.out.below b11
      replace bw0 := below_step bw0 b11 bw0.size
      replace HM : Hid (Mat w11 B T l cap 16 1 G U (enc 12 D)) := HM.out.below b11
      clear b11
      have HV : Calls Try.prog 11 #[.int .i64 12, .int .i64 4, .slice (some ⟨l, 0, none⟩) 16 cap] w11 fun e w' => e = .returned (.tuple #[.bool true, .int .i64 0]) ∧ Below w11.heap.size w11 w' := verify_enc w11 12 4 1 l cap B T G U D (by decide) (by decide) (by decide) (by decide) (by decide) HM.out
      go_wp2_with fail
      refine HV.mono ?_
      rintro e w12 ⟨rfl, b12⟩
      replace HP : Hid (Lst w12 (some ⟨l3, 0, none⟩) 1 (fun i => some ⟨G3 i, 0, none⟩) PU (fun _ => 65536) (par 1 (fun _ => byteK))) := HP.out.below b12
      replace HA : Hid (Rd w12 (some ⟨w1.heap.size, 0, none⟩) 65536 byteK) := HA.out.below b12
      replace bw0 := below_step bw0 b12 bw0.size
      replace HM : Hid (Mat w12 B T l cap 16 1 G U (enc 12 D)) := HM.out.below b12
      clear b12 HV
      obtain ⟨_, _, e3, hcp⟩ := HP.out.at_ (by decide)
      cases e3
      have p0 := hcp 0 (by decide)
      rw [Nat.add_zero] at p0
      have v1 : ∀ q, (convert 23 9 (.slice (some ⟨G3 0, 0, none⟩) 65536 (PU 0))).run Try.prog (w12.drewN q) = .ok (.string (str 65536 byteK)) (w12.drewN q) := fun q => by
        rw [← str_congr (f := par 1 (fun _ => byteK) 0) (h := byteK) (fun b _ => par_one byteK b)]
        exact conv_any (w := w12.drewN q) (HP.out.rd 0 (by decide)) (PU 0)
      have v2 : ∀ q, (convert 23 9 (.slice (some ⟨w1.heap.size, 0, none⟩) 65536 65536)).run Try.prog (w12.drewN q) = .ok (.string (str 65536 byteK)) (w12.drewN q) := fun q => conv_any (w := w12.drewN q) HA.out 65536
      have d4 := HM.out.cell_l (i := 4) (by decide)
      have d15 := HM.out.cell_l (i := 15) (by decide)
      have q4 := mat_val HM.out 4 0 4 (by decide) (by decide) HVV.out.1
      have q15 := mat_val HM.out 15 0 15 (by decide) (by decide) HVV.out.2
      generalize str 65536 byteK = SS at v1 v2
      clear hcp
      go_wp2_with fail
      go_quiet (fail)
      go_wp2
      go_ret
      exact ⟨rfl, below_step bw0 (below_drewN _ _ _) bw0.size⟩
end Go.Proofs.Ythkikocacbbhkaa
