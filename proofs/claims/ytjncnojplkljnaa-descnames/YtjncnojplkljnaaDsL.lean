/- What bytes are, as a leaf, by the program. -/
import Derived.Test.YtjncnojplkljnaaDsD
import Derived.Test.YtjncnojplkljnaaDsJ
namespace Go.Proofs.Ytjncnojplkljnaa
open Go.RowKit

/-- Refs of the call's own, and an error. -/
def AnsR (w : World) (E : Int) (n : Nat) (R V : Nat → Int) (e : Ending) (w' : World) : Prop :=
  ∃ ao cp, e = .returned (.tuple #[.slice ao (lenE E n) cp, .int .i64 E]) ∧ OwR w.heap.size w' ao (lenE E n) cp R V ∧ Below w.heap.size w w'
set_option maxHeartbeats 4000000 in
set_option maxRecDepth 100000 in
theorem Refs_ok {k r c q : Int} {N W : Nat} (h : Par k r c q N W 0) (w : World) (bo : Option Addr) (bc : Nat) (F : Nat → UInt8) (hB : Bec w bo W bc F) (n : Nat) (h1 : 1 ≤ n) (h2 : n ≤ lea W) (E : Int) (hE : (if isL W q n F = true then (0 : Int) else 150) = E) :
    Calls Try.prog 13 #[.agg #[.int .i64 k, .int .i64 r, .int .i64 c, .int .i64 q], .slice bo W bc, .int .i64 (n : Int)] w (AnsR w E n (rdR F 0) (rdV F 0)) := by
  obtain ⟨hmy, hW, hW2, hq⟩ := h.fine
  have hll := lea_le hW2
  have hlr := lea_room W
  have HC1 := fun v => checkWidth_any h bo W bc v
  rw [if_pos rfl, if_pos rfl] at HC1
  have HC2 := fun v => checkMany_any h (n : Int) v
  rw [if_pos rfl, if_neg (by omega)] at HC2
  have HL := fun v hv => readLeaf_any v bo W bc n F hv (by omega) (by omega)
  have HF := fun v ro rc uo hr hu => fw_leaf h v 0 0 0 ro n rc (rdR F 0) (rdV F 0) hr (by omega) uo (W - 6 * n) (bc - 6 * n) (fun j => F (6 * n + j)) hu (by omega)
  rw [← isL_made W q F n (by omega)] at HF
  have HB : Hid (Bec w bo W bc F) := hB
  have HE : Hid ((if isL W q n F = true then (0 : Int) else 150) = E) := hE
  clear h hB hE hmy hq hll hlr
  unfold AnsR
  generalize isL W q n F = ok at *
  obtain ⟨w0, hw0⟩ : ∃ w0, w0 = w.alloc (.cells #[.int .i64 k, .int .i64 r, .int .i64 c, .int .i64 q] 24) := ⟨_, rfl⟩
  have b0 : Below w.heap.size w w0 := by rw [hw0]; exact below_alloc _ _
  have HP : Hid (∀ u, Below w0.heap.size w0 u → u.cell? ⟨w.heap.size, 0, none⟩ = some (.int .i64 k) ∧ u.cell? ⟨w.heap.size, 1, none⟩ = some (.int .i64 r) ∧ u.cell? ⟨w.heap.size, 2, none⟩ = some (.int .i64 c) ∧ u.cell? ⟨w.heap.size, 3, none⟩ = some (.int .i64 q)) := fun u hu => par_held hw0 hu
  have HBB : Hid (Below w.heap.size w w0) := b0
  cases ok
  · obtain rfl : (150 : Int) = E := HE.out
    rw [lenE_not (by decide)]
    go_enter Try.func13, Try.ntmps13
    go_wp2_with fail
    rw [← hw0]
    clear hw0 b0
    refine (HC1 _).mono ?_
    rintro e wa ⟨rfl, ha⟩
    obtain ⟨s0, s1, s2, s3⟩ := HP.out wa ha
    go_wp2_with fail
    refine (HC2 _).mono ?_
    rintro e wb ⟨rfl, hb⟩
    have k2 := below_then ha hb
    clear s0 s1 s2 s3
    go_wp2_with fail
    refine (HL _ (HB.out.below (below_then HBB.out k2))).mono ?_
    rintro e wc ⟨ro, rc, uo, rfl, hown, hrest, hc⟩
    obtain ⟨wd, hwd⟩ : ∃ wd, wd = wc.alloc (.cells #[.int .i64 0, .int .i64 0, .int .i64 0, .slice ro n rc, .slice uo (W - 6 * n) (bc - 6 * n)] 56) := ⟨_, rfl⟩
    have bd : Below wc.heap.size wc wd := by rw [hwd]; exact below_alloc _ _
    have k4 : Below w0.heap.size w0 wd := below_then (below_then k2 hc) bd
    have hor := (hown.below bd).mono (below_then HBB.out k2).size
    have HO : Hid (OwR w.heap.size wd ro n rc (rdR F 0) (rdV F 0)) := hor
    have HRS : Hid (RdU wd uo (W - 6 * n) (fun j => F (6 * n + j))) := (hrest wd (HB.out.below (below_then HBB.out k4))).rd
    have c3 : ∀ u, Below wd.heap.size wd u → u.cell? ⟨wc.heap.size, 3, none⟩ = some (.slice ro n rc) := fun u hu => blk_held hwd hu 3 rfl
    have HC3 : Hid (∀ u, Below wd.heap.size wd u → u.cell? ⟨wc.heap.size, 3, none⟩ = some (.slice ro n rc)) := c3
    obtain ⟨⟨m0, m1, m2, m3, m4⟩, _⟩ := con_held hwd (Below.refl _ _)
    obtain ⟨s0, s1, s2, s3⟩ := HP.out (wc.alloc (.cells #[.int .i64 0, .int .i64 0, .int .i64 0, .slice ro n rc, .slice uo (W - 6 * n) (bc - 6 * n)] 56)) (by rw [← hwd]; exact k4)
    have HK4 : Hid (Below w0.heap.size w0 wd) := k4
    clear ha hb hc k2 k4 bd hown hor hrest c3
    go_wp2_with fail
    rw [← hwd]
    clear hwd
    refine (HF wd ro rc uo HO.out.rec.rd HRS.out).mono ?_
    rintro e we ⟨pt, rfl, hpt, he⟩
    have HPT : Hid ((if pt = 5 then (0 : Int) else 150) = 150) := if_neg (by simpa using hpt)
    have HK5 : Hid (Below wd.heap.size wd we) := he
    have x3 := HC3.out we he
    clear he hpt s0 s1 s2 s3
    go_wp2_with fail
    refine (err_any pt _).mono ?_
    rintro e wf ⟨rfl, hwf⟩
    obtain rfl := hwf.symm
    rw [HPT.out]
    go_wp2_with fail
    go_ret2
    exact ⟨none, 0, rfl, owr_nil _ _ _ _, below_then (below_then HBB.out HK4.out) HK5.out⟩
  · obtain rfl : (0 : Int) = E := HE.out
    rw [lenE_zero]
    go_enter Try.func13, Try.ntmps13
    go_wp2_with fail
    rw [← hw0]
    clear hw0 b0
    refine (HC1 _).mono ?_
    rintro e wa ⟨rfl, ha⟩
    obtain ⟨s0, s1, s2, s3⟩ := HP.out wa ha
    go_wp2_with fail
    refine (HC2 _).mono ?_
    rintro e wb ⟨rfl, hb⟩
    have k2 := below_then ha hb
    clear s0 s1 s2 s3
    go_wp2_with fail
    refine (HL _ (HB.out.below (below_then HBB.out k2))).mono ?_
    rintro e wc ⟨ro, rc, uo, rfl, hown, hrest, hc⟩
    obtain ⟨wd, hwd⟩ : ∃ wd, wd = wc.alloc (.cells #[.int .i64 0, .int .i64 0, .int .i64 0, .slice ro n rc, .slice uo (W - 6 * n) (bc - 6 * n)] 56) := ⟨_, rfl⟩
    have bd : Below wc.heap.size wc wd := by rw [hwd]; exact below_alloc _ _
    have k4 : Below w0.heap.size w0 wd := below_then (below_then k2 hc) bd
    have hor := (hown.below bd).mono (below_then HBB.out k2).size
    have HO : Hid (OwR w.heap.size wd ro n rc (rdR F 0) (rdV F 0)) := hor
    have HRS : Hid (RdU wd uo (W - 6 * n) (fun j => F (6 * n + j))) := (hrest wd (HB.out.below (below_then HBB.out k4))).rd
    have c3 : ∀ u, Below wd.heap.size wd u → u.cell? ⟨wc.heap.size, 3, none⟩ = some (.slice ro n rc) := fun u hu => blk_held hwd hu 3 rfl
    have HC3 : Hid (∀ u, Below wd.heap.size wd u → u.cell? ⟨wc.heap.size, 3, none⟩ = some (.slice ro n rc)) := c3
    obtain ⟨⟨m0, m1, m2, m3, m4⟩, _⟩ := con_held hwd (Below.refl _ _)
    obtain ⟨s0, s1, s2, s3⟩ := HP.out (wc.alloc (.cells #[.int .i64 0, .int .i64 0, .int .i64 0, .slice ro n rc, .slice uo (W - 6 * n) (bc - 6 * n)] 56)) (by rw [← hwd]; exact k4)
    have HK4 : Hid (Below w0.heap.size w0 wd) := k4
    clear ha hb hc k2 k4 bd hown hor hrest c3
    go_wp2_with fail
    rw [← hwd]
    clear hwd
    refine (HF wd ro rc uo HO.out.rec.rd HRS.out).mono ?_
    rintro e we ⟨pt, rfl, hpt, he⟩
    have HPT : Hid ((if pt = 5 then (0 : Int) else 150) = 0) := if_pos (by simpa using hpt)
    have HK5 : Hid (Below wd.heap.size wd we) := he
    have x3 := HC3.out we he
    clear he hpt s0 s1 s2 s3
    go_wp2_with fail
    refine (err_any pt _).mono ?_
    rintro e wf ⟨rfl, hwf⟩
    obtain rfl := hwf.symm
    rw [HPT.out]
    go_wp2_with fail
    go_ret2
    exact ⟨ro, rc, rfl, HO.out.below HK5.out, below_then (below_then HBB.out HK4.out) HK5.out⟩
set_option maxHeartbeats 4000000 in
set_option maxRecDepth 100000 in
theorem Refs_no1 {k r c q : Int} {N W : Nat} {y : Int} (h : Par k r c q N W y) (w : World) (bo : Option Addr) (m bc : Nat) (n : Int) (E : Int) (hE : (if y = 0 then (if m = W then (0 : Int) else 20) else y) = E) (hne : E ≠ 0) (t : Nat) (R V : Nat → Int) :
    Calls Try.prog 13 #[.agg #[.int .i64 k, .int .i64 r, .int .i64 c, .int .i64 q], .slice bo m bc, .int .i64 n] w (AnsR w E t R V) := by
  have HC := fun v => checkWidth_any h bo m bc v
  rw [hE] at HC
  have hz2 : (E != 0) = true := by simpa using hne
  unfold AnsR
  rw [lenE_not hne]
  clear h hE hne
  obtain ⟨w0, hw0⟩ : ∃ w0, w0 = w.alloc (.cells #[.int .i64 k, .int .i64 r, .int .i64 c, .int .i64 q] 24) := ⟨_, rfl⟩
  have b0 : Below w.heap.size w w0 := by rw [hw0]; exact below_alloc _ _
  go_enter Try.func13, Try.ntmps13
  go_wp2_with fail
  rw [← hw0]
  refine (HC _).mono ?_
  rintro e wa ⟨rfl, ha⟩
  clear hw0
  go_wp2_with fail
  go_ret2
  exact ⟨none, 0, rfl, owr_nil _ _ _ _, below_then b0 ha⟩
set_option maxHeartbeats 4000000 in
set_option maxRecDepth 100000 in
theorem Refs_no2 {k r c q : Int} {N W : Nat} (h : Par k r c q N W 0) (w : World) (bo : Option Addr) (bc : Nat) (n : Int) (hn : n < 1 ∨ ((lea W : Nat) : Int) < n) (t : Nat) (R V : Nat → Int) :
    Calls Try.prog 13 #[.agg #[.int .i64 k, .int .i64 r, .int .i64 c, .int .i64 q], .slice bo W bc, .int .i64 n] w (AnsR w 20 t R V) := by
  have HC1 := fun v => checkWidth_any h bo W bc v
  rw [if_pos rfl, if_pos rfl] at HC1
  have HC2 := fun v => checkMany_any h n v
  rw [if_pos rfl, if_pos hn] at HC2
  unfold AnsR
  rw [lenE_not (by decide)]
  clear h hn
  obtain ⟨w0, hw0⟩ : ∃ w0, w0 = w.alloc (.cells #[.int .i64 k, .int .i64 r, .int .i64 c, .int .i64 q] 24) := ⟨_, rfl⟩
  have b0 : Below w.heap.size w w0 := by rw [hw0]; exact below_alloc _ _
  go_enter Try.func13, Try.ntmps13
  go_wp2_with fail
  rw [← hw0]
  refine (HC1 _).mono ?_
  rintro e wa ⟨rfl, ha⟩
  obtain ⟨s0, s1, s2, s3⟩ := par_held hw0 ha
  clear hw0
  go_wp2_with fail
  refine (HC2 _).mono ?_
  rintro e wb ⟨rfl, hb⟩
  go_wp2_with fail
  go_ret2
  exact ⟨none, 0, rfl, owr_nil _ _ _ _, below_then (below_then b0 ha) hb⟩
theorem Refs_any {k r c q : Int} {N W : Nat} {y : Int} (h : Par k r c q N W y) (w : World) (bo : Option Addr) (m bc : Nat) (F : Nat → UInt8) (hB : Bec w bo m bc F) (n : Int) (E : Int) (hE : erR y W q m n F = E) :
    Calls Try.prog 13 #[.agg #[.int .i64 k, .int .i64 r, .int .i64 c, .int .i64 q], .slice bo m bc, .int .i64 n] w (AnsR w E n.toNat (rdR F 0) (rdV F 0)) := by
  unfold erR at hE
  rcases h.err with rfl | rfl
  · rw [if_pos rfl] at hE
    by_cases hm : m = W
    · rw [if_pos hm] at hE
      subst hm
      by_cases hn : n < 1 ∨ ((lea m : Nat) : Int) < n
      · rw [if_pos hn] at hE
        subst hE
        exact Refs_no2 h w bo bc n hn _ _ _
      · rw [if_neg hn] at hE
        obtain ⟨t, rfl⟩ : ∃ t : Nat, n = (t : Int) := ⟨n.toNat, by omega⟩
        rw [Int.toNat_natCast] at hE ⊢
        exact Refs_ok h w bo bc F hB t (by omega) (by omega) E hE
    · rw [if_neg hm] at hE
      exact Refs_no1 h w bo m bc n E (by rw [if_pos rfl, if_neg hm]; exact hE) (by rw [← hE]; decide) _ _ _
  · rw [if_neg (by decide)] at hE
    exact Refs_no1 h w bo m bc n E (by rw [if_neg (by decide)]; exact hE) (by rw [← hE]; decide) _ _ _
end Go.Proofs.Ytjncnojplkljnaa
