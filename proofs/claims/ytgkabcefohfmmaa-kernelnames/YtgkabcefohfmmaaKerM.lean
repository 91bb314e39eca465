/- The walk of the statement that slices are taken up to the greatest length, and not beyond. -/
import Derived.Test.YtgkabcefohfmmaaKerK
import Derived.Deep.RegionWith
import Derived.Deep.CutRange
namespace Go.Proofs.Ytgkabcefohfmmaa
open Go.RowKit

def byteF (i : Nat) : Nat := i % 256
theorem byteF_lt (i : Nat) : byteF i < 256 := Nat.mod_lt _ (by decide)
def nought (_ : Nat) : Nat := 0
theorem nought_lt (i : Nat) : nought i < 256 := by show 0 < 256; decide
theorem own_nought (w : World) (n : Nat) : Own (w.alloc (.cells (madeCells #[.int .u8 0] n) 5)) w.heap.size n nought := own_made w n
/-- A call whose answer has no bytes. -/
def Bare (w : World) (err : Int) (e : Ending) (w' : World) : Prop := ∃ ro, e = .returned (.tuple #[.slice ro 0 0, .int .i64 err]) ∧ Below w.heap.size w w'
theorem Made.bad {w : World} {b : Bool} {n : Nat} {f : Nat → Nat} {e : Ending} {w' : World} (h : Made w b n f e w') (hb : b = false) : Bare w 20 e w' := by
  subst hb
  obtain ⟨ro, rfl, _, hbel⟩ := h
  exact ⟨ro, rfl, hbel⟩
theorem Made.empty {w : World} {b : Bool} {n : Nat} {f : Nat → Nat} {e : Ending} {w' : World} (h : Made w b n f e w') (hb : b = true) (hn : n = 0) : Bare w 0 e w' := by
  subst hb; subst hn
  obtain ⟨ro, rfl, _, hbel⟩ := h
  exact ⟨ro, rfl, hbel⟩
theorem dot_made (w : World) (gc gl m : Nat) (hm : m ≤ 20) (hc : Own w gc m nought) (hl : w.rowIs gl 23 m (fun _ => .slice none 0 0)) :
    Calls Try.prog 13 #[.slice (some ⟨gc, 0, none⟩) m m, .slice (some ⟨gl, 0, none⟩) m m] w (Made w (okL m m nought) (n0 m nought) (tot nought (fun _ => nought) m)) :=
  dot_any w _ _ m m m m nought (fun _ => none) nought nought (fun _ => nought) (by omega) (by omega) hc.rd
    ⟨fun i _ => Rd.nil _ _ _ nought_lt, fun _ => ⟨gl, 0, rfl, fun i hi => by rw [Nat.zero_add]; exact hl.cell hi⟩⟩
theorem pair_post {w W w' : World} {m : Nat} {err : Int} {e : Ending} (hb : Below w.heap.size w W) (he : (okL m m nought = true ∧ err = 0) ∨ (okL m m nought = false ∧ err = 20))
    (h : Made W (okL m m nought) (n0 m nought) (tot nought (fun _ => nought) m) e w') : Bare w err e w' := by
  have hn : n0 m nought = 0 := by unfold n0; split <;> rfl
  rcases he with ⟨h1, rfl⟩ | ⟨h1, rfl⟩
  · obtain ⟨ro, he, hbel⟩ := h.empty h1 hn
    exact ⟨ro, he, below_step hb hbel hb.size⟩
  · obtain ⟨ro, he, hbel⟩ := h.bad h1
    exact ⟨ro, he, below_step hb hbel hb.size⟩
theorem dot_bare (w W : World) (gc gl m : Nat) (err : Int) (hm : m ≤ 20) (he : (okL m m nought = true ∧ err = 0) ∨ (okL m m nought = false ∧ err = 20)) (hb : Below w.heap.size w W) (h1 : Own W gc m nought) (h2 : W.rowIs gl 23 m (fun _ => .slice none 0 0)) :
    Calls Try.prog 13 #[.slice (some ⟨gc, 0, none⟩) m m, .slice (some ⟨gl, 0, none⟩) m m] W (Bare w err) :=
  (dot_made W gc gl m hm h1 h2).mono fun _ _ h => pair_post hb he h
theorem pairA (w : World) (m : Nat) (C D : Array Value) (hC : C = madeCells #[.int .u8 0] m) (hD : D = madeCells #[.slice none 0 0] m) :
    Below w.heap.size w ((w.alloc (.cells C 5)).alloc (.cells D 23)).drew ∧ Own ((w.alloc (.cells C 5)).alloc (.cells D 23)).drew w.heap.size m nought ∧ ((w.alloc (.cells C 5)).alloc (.cells D 23)).drew.rowIs (w.heap.size + 1) 23 m (fun _ => .slice none 0 0) := by
  have o1 : Own ((w.alloc (.cells C 5)).alloc (.cells D 23)) w.heap.size m nought := by rw [hC]; exact (own_nought w m).below (below_alloc _ _)
  have o2 : ((w.alloc (.cells C 5)).alloc (.cells D 23)).rowIs (w.heap.size + 1) 23 m (fun _ => .slice none 0 0) := by
    rw [hD]
    have := World.rowIs_made (w.alloc (.cells C 5)) (.slice none 0 0) m 23
    rwa [show (w.alloc (.cells C 5)).heap.size = w.heap.size + 1 by simp] at this
  exact ⟨(below_alloc2 w _ _).drew, ⟨o1.1, o1.2.drew⟩, o2.drew⟩
theorem pairB (w : World) (m : Nat) (C D : Array Value) (hC : C = madeCells #[.int .u8 0] m) (hD : D = madeCells #[.slice none 0 0] m) :
    Below w.heap.size w ((w.alloc (.cells D 23)).alloc (.cells C 5)).drew ∧ Own ((w.alloc (.cells D 23)).alloc (.cells C 5)).drew (w.heap.size + 1) m nought ∧ ((w.alloc (.cells D 23)).alloc (.cells C 5)).drew.rowIs w.heap.size 23 m (fun _ => .slice none 0 0) := by
  have o1 : Own ((w.alloc (.cells D 23)).alloc (.cells C 5)) (w.heap.size + 1) m nought := by
    rw [hC]
    have := own_nought (w.alloc (.cells D 23)) m
    rwa [show (w.alloc (.cells D 23)).heap.size = w.heap.size + 1 by simp] at this
  have o2 : ((w.alloc (.cells D 23)).alloc (.cells C 5)).rowIs w.heap.size 23 m (fun _ => .slice none 0 0) := by rw [hD]; exact (World.rowIs_made w (.slice none 0 0) m 23).alloc _
  exact ⟨(below_alloc2 w _ _).drew, ⟨o1.1, o1.2.drew⟩, o2.drew⟩
theorem lst1 {w : World} {g : Nat} (hg : w.heap.size = g) (ao : Option Addr) (la ca : Nat) (f : Nat → Nat) (ha : Rd w ao la f) :
    Lst (w.alloc (.cells #[.slice ao la ca] 23)) (some ⟨g, 0, none⟩) 1 (fun _ => ao) (fun _ => ca) (fun _ => la) (fun _ => f) := by
  subst hg
  refine ⟨fun i hi => ha.alloc _, fun _ => ⟨_, _, rfl, fun i hi => ?_⟩⟩
  obtain rfl : i = 0 := by omega
  rw [cell_of_row _ _ _ _ _ _ (heap_alloc_new w _)]; rfl
theorem info23 : (Try.prog.info? 23).map (fun i => (i.zero, i.size, i.bytes)) = some (some (.slice none 0 0), 1, 24) := by kernel_rfl
theorem zero_nought (n : Nat) : zeroB n nought = true := decide_eq_true fun _ _ => rfl
theorem zero_pad (n : Nat) : zeroB n (padF 0 nought) = true := decide_eq_true fun i _ => by unfold padF; split <;> rfl

set_option maxHeartbeats 2000000 in
set_option maxRecDepth 100000 in
theorem names_walk (w : World) : Calls Try.prog 3 #[] w fun e w' => e = .returned (.bool true) ∧ Below w.heap.size w w' := by
  have hmk1 := run_make_row' (P := Try.prog) 23 5 (.int .u8 0) 1 Try.underlying23 info5 rfl .i64 .i64 65536 (by omega) (by omega)
  have hmk2 := run_make_row' (P := Try.prog) 23 5 (.int .u8 0) 1 Try.underlying23 info5 rfl .i64 .i64 65537 (by omega) (by omega)
  rw [show ((65536 : Nat) : Int) = 65536 from rfl] at hmk1
  rw [show ((65537 : Nat) : Int) = 65537 from rfl] at hmk2
  go_enter Try.func3, Try.ntmps3
  go_wp2_with fail
  refine (alive_any w).mono ?_
  rintro e w1 ⟨rfl, b1⟩
  go_wp2
  obtain ⟨MA, hMA⟩ : ∃ MA, MA = madeCells #[.int .u8 0] 65536 := ⟨_, rfl⟩
  obtain ⟨MB, hMB⟩ : ∃ MB, MB = madeCells #[.int .u8 0] 65537 := ⟨_, rfl⟩
  rw [← hMA, ← hMB]
  have HMA : Hid (Own (w1.alloc (.cells MA 5)) w1.heap.size 65536 nought) := by rw [hMA]; exact own_nought w1 65536
  have HMB : Hid (Own ((w1.alloc (.cells MA 5)).alloc (.cells MB 5)) (w1.heap.size + 1) 65537 nought) := by
    have := own_nought (w1.alloc (.cells MA 5)) 65537
    rw [hMB]
    rw [show (w1.alloc (.cells MA 5)).heap.size = w1.heap.size + 1 by simp] at this
    exact this
  clear hMA hMB hmk1 hmk2
  generalize hZ : (65536 : Nat) = Z at HMA ⊢
  have HZ : Hid (65536 = Z) := hZ
  have hZ2 : Z ≤ 65536 := by omega
  clear hZ
  go_loopw [4] (fun i wr => ∃ k : Nat, k ≤ Z ∧ i = .int .i64 k ∧ Hid (Own wr w1.heap.size Z (upto k byteF nought)) ∧ Hid (Only w1.heap.size ((w1.alloc (.cells MA 5)).alloc (.cells MB 5)) wr)) (fun i _ => Z - (intOf i).toNat)
  case atStart => exact ⟨0, Nat.zero_le _, rfl, by rw [upto_zero]; exact HMA.out.below (below_alloc _ _), Only.refl _ _⟩
  case round =>
    obtain ⟨k, hk, rfl, hown, honly⟩ := hrel
    by_cases hlt : k < Z
    · have c1 := hown.out.2.cell hlt
      have HX : Hid ((k : Int) % 256 = ((byteF k : Nat) : Int)) := by show _ = ((k % 256 : Nat) : Int); omega
      have z1 := hown.out.2.frozen k
      go_wp2
      go_roundw
      case rel => exact ⟨k + 1, by omega, by go_num, by rw [HX.out]; exact hown.out.store byteF_lt, honly.out.setCell k _⟩
      case measure => simp [intOf]; omega
    · obtain rfl : k = Z := by omega
      obtain rfl := HZ.out
      clear HZ hk hlt hZ2
      have HA : Hid (Rd wr (some ⟨w1.heap.size, 0, none⟩) 65536 byteF) := (hown.out.all byteF_lt).rd
      have HB : Hid (Rd wr (some ⟨w1.heap.size + 1, 0, none⟩) 65537 nought) := HMB.out.rd.only honly.out (fun _ a ha => by cases ha; simp)
      have bw : Below w.heap.size w wr := (b1.trans ((below_alloc2 w1 _ _).mono b1.size)).trans (honly.out.below (by have := b1.size; simp; omega) b1.size)
      clear hown honly HMA HMB b1
      obtain ⟨w2, rfl⟩ : ∃ x, x = wr := ⟨wr, rfl⟩
      go_wp2_with fail
      refine (scale_any w2 3 _ 65536 65536 byteF (by decide) HA.out).mono ?_
      intro e w3 hm
      obtain ⟨gM, rfl, _, ho, bn⟩ := good_of (n := 65536) (f := scl 3 byteF) (by decide) hm
      replace HA : Hid (Rd w3 (some ⟨w1.heap.size, 0, none⟩) 65536 byteF) := HA.out.below bn
      replace HB : Hid (Rd w3 (some ⟨w1.heap.size + 1, 0, none⟩) 65537 nought) := HB.out.below bn
      replace bw := below_step bw bn bw.size
      have HM : Hid (Rd w3 (some ⟨gM, 0, none⟩) 65536 (scl 3 byteF)) := ho.rd
      clear bn hm ho
      go_wp2_with fail
      refine (scale_any w3 3 _ 65537 65537 nought (by decide) HB.out).mono ?_
      intro e w4 hm
      obtain ⟨r3, rfl, bn⟩ := hm.bad (by decide)
      replace HA : Hid (Rd w4 (some ⟨w1.heap.size, 0, none⟩) 65536 byteF) := HA.out.below bn
      replace HB : Hid (Rd w4 (some ⟨w1.heap.size + 1, 0, none⟩) 65537 nought) := HB.out.below bn
      replace HM : Hid (Rd w4 (some ⟨gM, 0, none⟩) 65536 (scl 3 byteF)) := HM.out.below bn
      replace bw := below_step bw bn bw.size
      clear bn hm
      go_wp2_with fail
      refine (xor_any w4 _ _ 65537 65537 65537 65537 nought nought HB.out HB.out).mono ?_
      intro e w5 hm
      obtain ⟨r4, rfl, bn⟩ := hm.bad (by decide)
      replace HA : Hid (Rd w5 (some ⟨w1.heap.size, 0, none⟩) 65536 byteF) := HA.out.below bn
      replace HB : Hid (Rd w5 (some ⟨w1.heap.size + 1, 0, none⟩) 65537 nought) := HB.out.below bn
      replace HM : Hid (Rd w5 (some ⟨gM, 0, none⟩) 65536 (scl 3 byteF)) := HM.out.below bn
      replace bw := below_step bw bn bw.size
      clear bn hm
      go_wp2_with fail
      refine (plus_any w5 0 _ _ 65537 65537 65537 65537 nought nought (by decide) HB.out HB.out).mono ?_
      intro e w6 hm
      obtain ⟨r5, rfl, bn⟩ := hm.bad (by decide)
      replace HA : Hid (Rd w6 (some ⟨w1.heap.size, 0, none⟩) 65536 byteF) := HA.out.below bn
      replace HB : Hid (Rd w6 (some ⟨w1.heap.size + 1, 0, none⟩) 65537 nought) := HB.out.below bn
      replace HM : Hid (Rd w6 (some ⟨gM, 0, none⟩) 65536 (scl 3 byteF)) := HM.out.below bn
      replace bw := below_step bw bn bw.size
      clear bn hm
      go_wp2_with fail
      refine (pad_any w6 none 0 0 65536 nought (by decide) (Rd.nil _ _ _ nought_lt)).mono ?_
      intro e w7 hm
      obtain ⟨gP, rfl, _, ho, bn⟩ := good_of (n := 65536) (f := padF 0 nought) (by decide) hm
      replace HA : Hid (Rd w7 (some ⟨w1.heap.size, 0, none⟩) 65536 byteF) := HA.out.below bn
      replace HB : Hid (Rd w7 (some ⟨w1.heap.size + 1, 0, none⟩) 65537 nought) := HB.out.below bn
      replace HM : Hid (Rd w7 (some ⟨gM, 0, none⟩) 65536 (scl 3 byteF)) := HM.out.below bn
      replace bw := below_step bw bn bw.size
      have HP : Hid (Rd w7 (some ⟨gP, 0, none⟩) 65536 (padF 0 nought)) := ho.rd
      clear bn hm ho
      go_wp2_with fail
      refine (pad_any w7 none 0 0 65537 nought (by decide) (Rd.nil _ _ _ nought_lt)).mono ?_
      intro e w8 hm
      obtain ⟨r7, rfl, bn⟩ := hm.bad (by decide)
      replace HA : Hid (Rd w8 (some ⟨w1.heap.size, 0, none⟩) 65536 byteF) := HA.out.below bn
      replace HB : Hid (Rd w8 (some ⟨w1.heap.size + 1, 0, none⟩) 65537 nought) := HB.out.below bn
      replace HM : Hid (Rd w8 (some ⟨gM, 0, none⟩) 65536 (scl 3 byteF)) := HM.out.below bn
      replace HP : Hid (Rd w8 (some ⟨gP, 0, none⟩) 65536 (padF 0 nought)) := HP.out.below bn
      replace bw := below_step bw bn bw.size
      clear bn hm
      go_wp2_with fail
      refine (pad_any w8 _ 65537 65537 65537 nought (by decide) HB.out).mono ?_
      intro e w9 hm
      obtain ⟨r8, rfl, bn⟩ := hm.bad (by decide)
      replace HA : Hid (Rd w9 (some ⟨w1.heap.size, 0, none⟩) 65536 byteF) := HA.out.below bn
      replace HB : Hid (Rd w9 (some ⟨w1.heap.size + 1, 0, none⟩) 65537 nought) := HB.out.below bn
      replace HM : Hid (Rd w9 (some ⟨gM, 0, none⟩) 65536 (scl 3 byteF)) := HM.out.below bn
      replace HP : Hid (Rd w9 (some ⟨gP, 0, none⟩) 65536 (padF 0 nought)) := HP.out.below bn
      replace bw := below_step bw bn bw.size
      clear bn hm
      go_wp2_with fail
      refine (pad_any w9 none 0 0 (-1) nought (by decide) (Rd.nil _ _ _ nought_lt)).mono ?_
      intro e w10 hm
      obtain ⟨r9, rfl, bn⟩ := hm.bad (by decide)
      replace HA : Hid (Rd w10 (some ⟨w1.heap.size, 0, none⟩) 65536 byteF) := HA.out.below bn
      replace HB : Hid (Rd w10 (some ⟨w1.heap.size + 1, 0, none⟩) 65537 nought) := HB.out.below bn
      replace HM : Hid (Rd w10 (some ⟨gM, 0, none⟩) 65536 (scl 3 byteF)) := HM.out.below bn
      replace HP : Hid (Rd w10 (some ⟨gP, 0, none⟩) 65536 (padF 0 nought)) := HP.out.below bn
      replace bw := below_step bw bn bw.size
      clear bn hm
      have hk1 := run_make_row' (P := Try.prog) 23 5 (.int .u8 0) 1 Try.underlying23 info5 rfl .i64 .i64 16 (by decide) (by decide)
      have hk2 := run_make_row' (P := Try.prog) 31 23 (.slice none 0 0) 24 Try.underlying31 info23 rfl .i64 .i64 16 (by decide) (by decide)
      rw [show ((16 : Nat) : Int) = 16 from rfl] at hk1 hk2
      obtain ⟨C16, hC⟩ : ∃ C, C = madeCells #[.int .u8 0] 16 := ⟨_, rfl⟩
      obtain ⟨D16, hD⟩ : ∃ C, C = madeCells #[.slice none 0 0] 16 := ⟨_, rfl⟩
      rw [← hC] at hk1
      rw [← hD] at hk2
      have HC : Hid (C16 = madeCells #[.int .u8 0] 16) := hC
      have HD : Hid (D16 = madeCells #[.slice none 0 0] 16) := hD
      have HA1 := pairA w10 16 C16 D16 hC hD
      have HB1 := pairB w10 16 C16 D16 hC hD
      have HAB : Hid ((w10.heap.size = w10.heap.size) ∧ _) := ⟨rfl, HA1⟩
      have HBB : Hid ((w10.heap.size = w10.heap.size) ∧ _) := ⟨rfl, HB1⟩
      clear hC hD HA1 HB1 HC HD
      go_upto_region 18 with fail
      go_cut [21, 22] from 84 to 89 (fun s s' wx => ∃ ro, s = .slice ro 0 0 ∧ s' = .int .i64 0 ∧ Hid (Below w10.heap.size w10 wx))
      case first =>
        go_region_with (go_at_call 13; refine (dot_bare w10 _ _ _ 16 0 (by decide) (.inl ⟨by decide, rfl⟩) (by first | with_reducible exact HAB.out.2.1 | with_reducible exact HBB.out.2.1) (by first | with_reducible exact HAB.out.2.2.1 | with_reducible exact HBB.out.2.2.1) (by first | with_reducible exact HAB.out.2.2.2 | with_reducible exact HBB.out.2.2.2)).mono ?_; rintro e w' ⟨ro, rfl, hbel⟩)
        all_goals (go_wp2_with fail; go_meet)
        all_goals exact ⟨_, rfl, rfl, (by assumption : Below _ _ _)⟩
      obtain ⟨r10, rfl, rfl, bn'⟩ := hcut
      have bn := bn'.out
      obtain ⟨w11, rfl⟩ : ∃ x, x = wc := ⟨wc, rfl⟩
      replace HA : Hid (Rd w11 (some ⟨w1.heap.size, 0, none⟩) 65536 byteF) := HA.out.below bn
      replace HB : Hid (Rd w11 (some ⟨w1.heap.size + 1, 0, none⟩) 65537 nought) := HB.out.below bn
      replace HM : Hid (Rd w11 (some ⟨gM, 0, none⟩) 65536 (scl 3 byteF)) := HM.out.below bn
      replace HP : Hid (Rd w11 (some ⟨gP, 0, none⟩) 65536 (padF 0 nought)) := HP.out.below bn
      replace bw := below_step bw bn bw.size
      clear bn bn' hk1 hk2 HAB HBB
      have hk1 := run_make_row' (P := Try.prog) 23 5 (.int .u8 0) 1 Try.underlying23 info5 rfl .i64 .i64 17 (by decide) (by decide)
      have hk2 := run_make_row' (P := Try.prog) 31 23 (.slice none 0 0) 24 Try.underlying31 info23 rfl .i64 .i64 17 (by decide) (by decide)
      rw [show ((17 : Nat) : Int) = 17 from rfl] at hk1 hk2
      obtain ⟨C17, hC⟩ : ∃ C, C = madeCells #[.int .u8 0] 17 := ⟨_, rfl⟩
      obtain ⟨D17, hD⟩ : ∃ C, C = madeCells #[.slice none 0 0] 17 := ⟨_, rfl⟩
      rw [← hC] at hk1
      rw [← hD] at hk2
      have HC : Hid (C17 = madeCells #[.int .u8 0] 17) := hC
      have HD : Hid (D17 = madeCells #[.slice none 0 0] 17) := hD
      have HA1 := pairA w11 17 C17 D17 hC hD
      have HB1 := pairB w11 17 C17 D17 hC hD
      have HAB : Hid ((w11.heap.size = w11.heap.size) ∧ _) := ⟨rfl, HA1⟩
      have HBB : Hid ((w11.heap.size = w11.heap.size) ∧ _) := ⟨rfl, HB1⟩
      clear hC hD HA1 HB1 HC HD
      go_upto_region 19 with fail
      go_cut [23, 24] from 90 to 95 (fun s s' wx => ∃ ro, s = .slice ro 0 0 ∧ s' = .int .i64 20 ∧ Hid (Below w11.heap.size w11 wx))
      case first =>
        go_region_with (go_at_call 13; refine (dot_bare w11 _ _ _ 17 20 (by decide) (.inr ⟨by decide, rfl⟩) (by first | with_reducible exact HAB.out.2.1 | with_reducible exact HBB.out.2.1) (by first | with_reducible exact HAB.out.2.2.1 | with_reducible exact HBB.out.2.2.1) (by first | with_reducible exact HAB.out.2.2.2 | with_reducible exact HBB.out.2.2.2)).mono ?_; rintro e w' ⟨ro, rfl, hbel⟩)
        all_goals (go_wp2_with fail; go_meet)
        all_goals exact ⟨_, rfl, rfl, (by assumption : Below _ _ _)⟩
      obtain ⟨r11, rfl, rfl, bn'⟩ := hcut
      have bn := bn'.out
      obtain ⟨w12, rfl⟩ : ∃ x, x = wc := ⟨wc, rfl⟩
      replace HA : Hid (Rd w12 (some ⟨w1.heap.size, 0, none⟩) 65536 byteF) := HA.out.below bn
      replace HB : Hid (Rd w12 (some ⟨w1.heap.size + 1, 0, none⟩) 65537 nought) := HB.out.below bn
      replace HM : Hid (Rd w12 (some ⟨gM, 0, none⟩) 65536 (scl 3 byteF)) := HM.out.below bn
      replace HP : Hid (Rd w12 (some ⟨gP, 0, none⟩) 65536 (padF 0 nought)) := HP.out.below bn
      replace bw := below_step bw bn bw.size
      clear bn bn' hk1 hk2 HAB HBB
      go_wp2_with fail
      refine (dot_any _ _ _ 1 1 1 1 (lit [1]) _ _ _ _ (by decide) (by decide) ((rd_lit rfl [1] _ rfl rfl).alloc _) (lst1 (by simp) _ 65537 65537 nought (HB.out.below (below_alloc _ _)))).mono ?_
      intro e w13 hm
      obtain ⟨r12, rfl, bn0⟩ := hm.bad (by decide)
      have bn : Below w12.heap.size w12 w13 := below_step (below_alloc2 w12 _ _) bn0 (by simp; omega)
      replace HA : Hid (Rd w13 (some ⟨w1.heap.size, 0, none⟩) 65536 byteF) := HA.out.below bn
      replace HB : Hid (Rd w13 (some ⟨w1.heap.size + 1, 0, none⟩) 65537 nought) := HB.out.below bn
      replace HM : Hid (Rd w13 (some ⟨gM, 0, none⟩) 65536 (scl 3 byteF)) := HM.out.below bn
      replace HP : Hid (Rd w13 (some ⟨gP, 0, none⟩) 65536 (padF 0 nought)) := HP.out.below bn
      replace bw := below_step bw bn bw.size
      clear bn bn0 hm
      go_wp2_with fail
      refine (rscale_any w13 3 _ 65536 65536 byteF (by decide) (by decide) HA.out).mono ?_
      intro e w14 hm
      obtain ⟨gW, rfl, _, ho, bn⟩ := good_of (n := 65536) (f := scl 3 byteF) (by decide) hm
      replace HA : Hid (Rd w14 (some ⟨w1.heap.size, 0, none⟩) 65536 byteF) := HA.out.below bn
      replace HB : Hid (Rd w14 (some ⟨w1.heap.size + 1, 0, none⟩) 65537 nought) := HB.out.below bn
      replace HM : Hid (Rd w14 (some ⟨gM, 0, none⟩) 65536 (scl 3 byteF)) := HM.out.below bn
      replace HP : Hid (Rd w14 (some ⟨gP, 0, none⟩) 65536 (padF 0 nought)) := HP.out.below bn
      replace bw := below_step bw bn bw.size
      have HW : Hid (Rd w14 (some ⟨gW, 0, none⟩) 65536 (scl 3 byteF)) := ho.rd
      clear bn hm ho
      have hz1 := zero_pad 65536
      have hz2 := zero_nought 65537
      go_wp2_with fail
      refine (same_any w14 _ _ 65536 65536 65536 _ _ HM.out HW.out (fun _ _ => rfl)).mono ?_
      rintro e w' ⟨rfl, hw'⟩
      obtain rfl := hw'.symm
      go_wp2_with fail
      refine (zero_any w14 _ 65536 65536 _ (by decide) HP.out).mono ?_
      rintro e w' ⟨rfl, hw'⟩
      obtain rfl := hw'.symm
      rw [hz1]
      go_wp2_with fail
      refine (zero_any w14 _ 65537 65537 _ (by decide) HB.out).mono ?_
      rintro e w' ⟨rfl, hw'⟩
      obtain rfl := hw'.symm
      rw [hz2]
      go_wp2_with fail
      go_ret
      exact ⟨rfl, bw⟩
end Go.Proofs.Ytgkabcefohfmmaa
