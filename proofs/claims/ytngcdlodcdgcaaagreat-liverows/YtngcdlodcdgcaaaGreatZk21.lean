import Derived.Lib.BufferWrite
import Derived.Test.YtngcdlodcdgcaaaGreatZk20
namespace Go.Proofs.YtngcdlodcdgcaaaGreat.De
open Go.RowKit
def lenI (E x : Int) : Int := if E = 0 then x else 0
theorem lenI_zero (x : Int) : lenI 0 x = x := if_pos rfl
theorem lenI_not {E : Int} (h : E ≠ 0) (x : Int) : lenI E x = 0 := if_neg h
def AnsD (w : World) (E A D : Int) (n : Nat) (R V : Nat -> Int) (e : Ending) (w' : World) : Prop :=
  ∃ ao cp, e = .returned (.tuple #[.agg #[.int .i64 (lenI E A), .int .i64 (lenI E D), .slice ao (lenE E n) cp], .int .i64 E]) /\ OwR w.heap.size w' ao (lenE E n) cp R V /\ Below w.heap.size w w'
set_option maxHeartbeats 4000000 in
set_option maxRecDepth 100000 in
theorem Parse_ok {k r c q : Int} {N W : Nat} (h : Par k r c q N W 0) (w : World) (bo : Option Addr) (bc : Nat) (F : Nat -> UInt8) (hB : Bec w bo W bc F) (E : Int) (hE : (if isD W q F = true then (0 : Int) else 150) = E) :
    Calls Tryz.prog 76 #[.agg #[.int .i64 k, .int .i64 r, .int .i64 c, .int .i64 q], .slice bo W bc] w (AnsD w E ((nm F 0 4 : Nat) : Int) ((nm F 4 1 : Nat) : Int) (nm F 5 2) (rdR F 7) (rdV F 7)) := by
  obtain ⟨hmy, hW, hW2, hq⟩ := h.fine
  have HC1 := fun v => checkWidth_any h bo W bc v
  rw [if_pos rfl, if_pos rfl] at HC1
  have HL := fun v hv => readDesc_any v bo W bc F hv hW (by omega)
  obtain ⟨s, d, x, nn, er, h'⟩ := made_any k r c q ((nm F 0 4 : Nat) : Int) W
  have HF' : ∀ m, m = min (nm F 5 2) (dir W) -> ∀ v ro rc uo uc, RdR v ro m (rdR F 7) (rdV F 7) -> RdU v uo (W - 7 - 6 * m) (fun j => F (7 + 6 * m + j)) -> Calls Tryz.prog 105 #[.agg #[.int .i64 ((nm F 0 4 : Nat) : Int), .int .i64 ((nm F 4 1 : Nat) : Int), .int .i64 ((nm F 5 2 : Nat) : Int), .slice ro m rc, .slice uo (W - 7 - 6 * m) uc], .agg #[.int .i64 k, .int .i64 r, .int .i64 c, .int .i64 q], .int .i64 0] v fun e w' => ∃ pt : Int, e = .returned (.int .i64 pt) /\ decide (pt = 5) = isD W q F /\ Below v.heap.size v w' := by
    intro m hm v ro rc uo uc hr hu
    have := fw_desc h h' v ((nm F 4 1 : Nat) : Int) ((nm F 5 2 : Nat) : Int) ro m rc (rdR F 7) (rdV F 7) hr (fun _ => by have := dir_le hW2; omega) uo (W - 7 - 6 * m) uc (fun j => F (7 + 6 * m + j)) hu (by omega)
    rw [isD_made h F h' m hm]
    exact this
  have HM2 : Hid (isD W q F = true -> ∀ m, m = min (nm F 5 2) (dir W) -> m = nm F 5 2) := fun hd m hm => by
    have := (okD_few hW (isD_true hd).1).1
    omega
  have HB : Hid (Bec w bo W bc F) := hB
  have HE : Hid ((if isD W q F = true then (0 : Int) else 150) = E) := hE
  clear h hB hE hmy hq h'
  unfold AnsD
  generalize isD W q F = ok at *
  generalize nm F 0 4 = A at *
  generalize nm F 4 1 = D at *
  generalize nm F 5 2 = M at *
  generalize dir W = dd at *
  generalize rdR F 7 = R at *
  generalize rdV F 7 = V at *
  obtain ⟨w0, hw0⟩ : ∃ w0, w0 = w.alloc (.cells #[.int .i64 k, .int .i64 r, .int .i64 c, .int .i64 q] 23) := ⟨_, rfl⟩
  obtain ⟨w1, hw1⟩ : ∃ w1, w1 = w0.alloc (.cells #[.int .i64 0, .int .i64 0, .slice none 0 0] 62) := ⟨_, rfl⟩
  have b0 : Below w.heap.size w w0 := by rw [hw0]; exact below_alloc _ _
  have b1 : Below w0.heap.size w0 w1 := by rw [hw1]; exact below_alloc _ _
  have z0 : w0.heap.size = w.heap.size + 1 := by rw [hw0]; simp
  have HZ1 : Hid (w1.heap.size = w.heap.size + 2) := by show _ = _; rw [hw1]; simp [z0]
  have HP : Hid (∀ u, Below w1.heap.size w1 u -> (u.cell? ⟨w.heap.size, 0, none⟩ = some (.int .i64 k) /\ u.cell? ⟨w.heap.size, 1, none⟩ = some (.int .i64 r) /\ u.cell? ⟨w.heap.size, 2, none⟩ = some (.int .i64 c) /\ u.cell? ⟨w.heap.size, 3, none⟩ = some (.int .i64 q)) /\ (u.cell? ⟨w.heap.size + 1, 0, none⟩ = some (.int .i64 0) /\ u.cell? ⟨w.heap.size + 1, 1, none⟩ = some (.int .i64 0) /\ u.cell? ⟨w.heap.size + 1, 2, none⟩ = some (.slice none 0 0)) /\ ∀ i, u.frozen? ⟨w.heap.size + 1, i, none⟩ = false) := fun u hu => ⟨par_held hw0 (below_then b1 hu), by rw [<- z0]; exact ⟨⟨blk_held hw1 hu 0 rfl, blk_held hw1 hu 1 rfl, blk_held hw1 hu 2 rfl⟩, blk_free hw1 hu⟩⟩
  have HBB : Hid (Below w.heap.size w w1) := below_then b0 b1
  cases ok
  · obtain rfl : (150 : Int) = E := HE.out
    rw [lenE_not (by decide), lenI_not (by decide), lenI_not (by decide)]
    go_enter Tryz.func76, Tryz.ntmps76
    go_wp2_with fail
    rw [<- hw0, <- hw1]
    clear hw0 hw1 z0 b0 b1
    refine (HC1 _).mono ?_
    rintro e wa ⟨rfl, ha⟩
    go_wp2_with fail
    refine (HL _ (HB.out.below (below_then HBB.out ha))).mono ?_
    rintro e wc ⟨ro, rc, uo, m, uc, hmm, rfl, hown, hrest, hc⟩
    have HF := HF' m hmm
    have HMM : Hid (m = min M dd) := hmm
    clear hmm
    obtain ⟨wd, hwd⟩ : ∃ wd, wd = wc.alloc (.cells #[.int .i64 (A : Int), .int .i64 (D : Int), .int .i64 (M : Int), .slice ro m rc, .slice uo (W - 7 - 6 * m) uc] 171) := ⟨_, rfl⟩
    have bd : Below wc.heap.size wc wd := by rw [hwd]; exact below_alloc _ _
    have k4 : Below w1.heap.size w1 wd := below_then (below_then ha hc) bd
    have hor := (hown.below bd).mono (below_then HBB.out ha).size
    have HO : Hid (OwR w.heap.size wd ro m rc R V) := hor
    have HOB : Hid (w.heap.size + 2 <= wa.heap.size /\ OwR wa.heap.size wd ro m rc R V) := ⟨by have := ha.size; rw [HZ1.out] at this; exact this, hown.below bd⟩
    have HRS : Hid (RdU wd uo (W - 7 - 6 * m) (fun j => F (7 + 6 * m + j))) := (hrest wd (HB.out.below (below_then HBB.out k4))).rd
    have HC3 : Hid (∀ u, Below wd.heap.size wd u -> u.cell? ⟨wc.heap.size, 0, none⟩ = some (.int .i64 (A : Int)) /\ u.cell? ⟨wc.heap.size, 1, none⟩ = some (.int .i64 (D : Int)) /\ u.cell? ⟨wc.heap.size, 3, none⟩ = some (.slice ro m rc)) := fun u hu => ⟨blk_held hwd hu 0 rfl, blk_held hwd hu 1 rfl, blk_held hwd hu 3 rfl⟩
    obtain ⟨⟨m0, m1, m2, m3, m4⟩, _⟩ := con_held hwd (Below.refl _ _)
    obtain ⟨⟨s0, s1, s2, s3⟩, _⟩ := HP.out (wc.alloc (.cells #[.int .i64 (A : Int), .int .i64 (D : Int), .int .i64 (M : Int), .slice ro m rc, .slice uo (W - 7 - 6 * m) uc] 171)) (by rw [<- hwd]; exact k4)
    have HK4 : Hid (Below w1.heap.size w1 wd) := k4
    clear ha hc k4 bd hown hor hrest
    go_wp2_with fail
    rw [<- hwd]
    clear hwd
    refine (HF wd ro rc uo uc HO.out.rec.rd HRS.out).mono ?_
    rintro e we ⟨pt, rfl, hpt, he⟩
    have HPT : Hid ((if pt = 5 then (0 : Int) else 150) = 150) := if_neg (by simpa using hpt)
    have HK5 : Hid (Below wd.heap.size wd we) := he
    obtain ⟨x0, x1, x3⟩ := HC3.out we he
    obtain ⟨_, ⟨t0, t1, t2⟩, f⟩ := HP.out we (below_then HK4.out he)
    clear he hpt s0 s1 s2 s3
    go_wp2_with fail
    refine (err_any pt _).mono ?_
    rintro e wf ⟨rfl, hwf⟩
    obtain rfl := hwf.symm
    rw [HPT.out]
    have HKK : Hid (Below w.heap.size w we) := below_then (below_then HBB.out HK4.out) HK5.out
    have HON : Hid (OwR wa.heap.size we ro m rc R V) := HOB.out.2.below HK5.out
    have HZA : Hid (w.heap.size + 2 <= wa.heap.size) := HOB.out.1
    clear HO HOB HRS HC3 HF HF'
    go_wp2_with fail
    refine bodyPost_ret (v := .tuple #[.agg #[.int .i64 0, .int .i64 0, .slice none 0 0], .int .i64 150]) (by simp [results, Tryz.results76, go_sem, t0, t1, t2]) rfl ⟨none, 0, rfl, owr_nil _ _ _ _, ?_⟩
    exact ((HKK.out.setCell (Nat.le_succ _) _).setCell (Nat.le_succ _) _).setCell (Nat.le_succ _) _
  · obtain rfl : (0 : Int) = E := HE.out
    rw [lenE_zero, lenI_zero, lenI_zero]
    have HM3 : Hid (∀ m, m = min M dd -> m = M) := HM2.out (by trivial)
    clear HM2
    go_enter Tryz.func76, Tryz.ntmps76
    go_wp2_with fail
    rw [<- hw0, <- hw1]
    clear hw0 hw1 z0 b0 b1
    refine (HC1 _).mono ?_
    rintro e wa ⟨rfl, ha⟩
    go_wp2_with fail
    refine (HL _ (HB.out.below (below_then HBB.out ha))).mono ?_
    rintro e wc ⟨ro, rc, uo, m, uc, hmm, rfl, hown, hrest, hc⟩
    have HF := HF' m hmm
    have HMM : Hid (m = min M dd) := hmm
    clear hmm
    obtain ⟨wd, hwd⟩ : ∃ wd, wd = wc.alloc (.cells #[.int .i64 (A : Int), .int .i64 (D : Int), .int .i64 (M : Int), .slice ro m rc, .slice uo (W - 7 - 6 * m) uc] 171) := ⟨_, rfl⟩
    have bd : Below wc.heap.size wc wd := by rw [hwd]; exact below_alloc _ _
    have k4 : Below w1.heap.size w1 wd := below_then (below_then ha hc) bd
    have hor := (hown.below bd).mono (below_then HBB.out ha).size
    have HO : Hid (OwR w.heap.size wd ro m rc R V) := hor
    have HOB : Hid (w.heap.size + 2 <= wa.heap.size /\ OwR wa.heap.size wd ro m rc R V) := ⟨by have := ha.size; rw [HZ1.out] at this; exact this, hown.below bd⟩
    have HRS : Hid (RdU wd uo (W - 7 - 6 * m) (fun j => F (7 + 6 * m + j))) := (hrest wd (HB.out.below (below_then HBB.out k4))).rd
    have HC3 : Hid (∀ u, Below wd.heap.size wd u -> u.cell? ⟨wc.heap.size, 0, none⟩ = some (.int .i64 (A : Int)) /\ u.cell? ⟨wc.heap.size, 1, none⟩ = some (.int .i64 (D : Int)) /\ u.cell? ⟨wc.heap.size, 3, none⟩ = some (.slice ro m rc)) := fun u hu => ⟨blk_held hwd hu 0 rfl, blk_held hwd hu 1 rfl, blk_held hwd hu 3 rfl⟩
    obtain ⟨⟨m0, m1, m2, m3, m4⟩, _⟩ := con_held hwd (Below.refl _ _)
    obtain ⟨⟨s0, s1, s2, s3⟩, _⟩ := HP.out (wc.alloc (.cells #[.int .i64 (A : Int), .int .i64 (D : Int), .int .i64 (M : Int), .slice ro m rc, .slice uo (W - 7 - 6 * m) uc] 171)) (by rw [<- hwd]; exact k4)
    have HK4 : Hid (Below w1.heap.size w1 wd) := k4
    clear ha hc k4 bd hown hor hrest
    go_wp2_with fail
    rw [<- hwd]
    clear hwd
    refine (HF wd ro rc uo uc HO.out.rec.rd HRS.out).mono ?_
    rintro e we ⟨pt, rfl, hpt, he⟩
    have HPT : Hid ((if pt = 5 then (0 : Int) else 150) = 0) := if_pos (by simpa using hpt)
    have HK5 : Hid (Below wd.heap.size wd we) := he
    obtain ⟨x0, x1, x3⟩ := HC3.out we he
    obtain ⟨_, ⟨t0, t1, t2⟩, f⟩ := HP.out we (below_then HK4.out he)
    clear he hpt s0 s1 s2 s3
    go_wp2_with fail
    refine (err_any pt _).mono ?_
    rintro e wf ⟨rfl, hwf⟩
    obtain rfl := hwf.symm
    rw [HPT.out]
    have HKK : Hid (Below w.heap.size w we) := below_then (below_then HBB.out HK4.out) HK5.out
    have HON : Hid (OwR wa.heap.size we ro m rc R V) := HOB.out.2.below HK5.out
    have HZA : Hid (w.heap.size + 2 <= wa.heap.size) := HOB.out.1
    clear HO HOB HRS HC3 HF HF'
    go_wp2_with fail
    refine bodyPost_ret (v := .tuple #[.agg #[.int .i64 (A : Int), .int .i64 (D : Int), .slice ro m rc], .int .i64 0]) (by simp [results, Tryz.results76, go_sem, t0, t1, t2]) rfl ⟨ro, rc, by rw [HM3.out m HMM.out], ?_, ?_⟩
    · rw [<- HM3.out m HMM.out]
      have h5 := HZA.out
      refine OwR.mono (B := wa.heap.size) (HON.out.stay fun t ht ht2 => ?_) (by omega)
      have hne : t ≠ w.heap.size + 1 := by omega
      rw [heap_setCell_other _ _ _ _ hne, heap_setCell_other _ _ _ _ hne, heap_setCell_other _ _ _ _ hne]
    · exact ((HKK.out.setCell (Nat.le_succ _) _).setCell (Nat.le_succ _) _).setCell (Nat.le_succ _) _
set_option maxHeartbeats 4000000 in
set_option maxRecDepth 100000 in
theorem Parse_no {k r c q : Int} {N W : Nat} {y : Int} (h : Par k r c q N W y) (w : World) (bo : Option Addr) (m bc : Nat) (E : Int) (hE : (if y = 0 then (if m = W then (0 : Int) else 20) else y) = E) (hne : E ≠ 0) (A D : Int) (t : Nat) (R V : Nat -> Int) :
    Calls Tryz.prog 76 #[.agg #[.int .i64 k, .int .i64 r, .int .i64 c, .int .i64 q], .slice bo m bc] w (AnsD w E A D t R V) := by
  have HC := fun v => checkWidth_any h bo m bc v
  rw [hE] at HC
  have hz2 : (E != 0) = true := by simpa using hne
  unfold AnsD
  rw [lenE_not hne, lenI_not hne, lenI_not hne]
  clear h hE hne
  obtain ⟨w0, hw0⟩ : ∃ w0, w0 = w.alloc (.cells #[.int .i64 k, .int .i64 r, .int .i64 c, .int .i64 q] 23) := ⟨_, rfl⟩
  obtain ⟨w1, hw1⟩ : ∃ w1, w1 = w0.alloc (.cells #[.int .i64 0, .int .i64 0, .slice none 0 0] 62) := ⟨_, rfl⟩
  have b0 : Below w.heap.size w w0 := by rw [hw0]; exact below_alloc _ _
  have b1 : Below w0.heap.size w0 w1 := by rw [hw1]; exact below_alloc _ _
  have z0 : w0.heap.size = w.heap.size + 1 := by rw [hw0]; simp
  go_enter Tryz.func76, Tryz.ntmps76
  go_wp2_with fail
  rw [<- hw0, <- hw1]
  refine (HC _).mono ?_
  rintro e wa ⟨rfl, ha⟩
  have t0 := blk_held hw1 ha 0 rfl
  have t1 := blk_held hw1 ha 1 rfl
  have t2 := blk_held hw1 ha 2 rfl
  have f := blk_free hw1 ha
  rw [z0] at t0 t1 t2 f
  clear hw0 hw1
  go_wp2_with fail
  refine bodyPost_ret (v := .tuple #[.agg #[.int .i64 0, .int .i64 0, .slice none 0 0], .int .i64 E]) (by simp [results, Tryz.results76, go_sem, t0, t1, t2]) rfl ⟨none, 0, rfl, owr_nil _ _ _ _, ?_⟩
  have hB := below_then (below_then b0 b1) ha
  exact ((hB.setCell (Nat.le_succ _) _).setCell (Nat.le_succ _) _).setCell (Nat.le_succ _) _
theorem Parse_any {k r c q : Int} {N W : Nat} {y : Int} (h : Par k r c q N W y) (w : World) (bo : Option Addr) (m bc : Nat) (F : Nat -> UInt8) (hB : Bec w bo m bc F) (E : Int) (hE : erB y W q m F = E) :
    Calls Tryz.prog 76 #[.agg #[.int .i64 k, .int .i64 r, .int .i64 c, .int .i64 q], .slice bo m bc] w (AnsD w E ((nm F 0 4 : Nat) : Int) ((nm F 4 1 : Nat) : Int) (nm F 5 2) (rdR F 7) (rdV F 7)) := by
  unfold erB at hE
  rcases h.err with rfl | rfl
  · rw [if_pos rfl] at hE
    by_cases hm : m = W
    · rw [if_pos hm] at hE
      subst hm
      exact Parse_ok h w bo bc F hB E hE
    · rw [if_neg hm] at hE
      exact Parse_no h w bo m bc E (by rw [if_pos rfl, if_neg hm]; exact hE) (by rw [<- hE]; decide) _ _ _ _ _
  · rw [if_neg (by decide)] at hE
    exact Parse_no h w bo m bc E (by rw [if_neg (by decide)]; exact hE) (by rw [<- hE]; decide) _ _ _ _ _
end Go.Proofs.YtngcdlodcdgcaaaGreat.De
namespace Go.Proofs.YtngcdlodcdgcaaaGreat
open Go.RowKit
def AnsO (w : World) (E A D : Int) (M : Nat) (R V : Nat -> Int) (y : Int) (l s : Nat) (SR SV : Nat -> Int) (e : Ending) (w' : World) : Prop :=
  ∃ ao cp lo lc so sc, e = .returned (.tuple #[.agg #[.int .i64 (De.lenI E A), .int .i64 (De.lenI E D), .slice ao (lenE E M) cp], .int .i64 (De.lenI E y), .slice lo (lenE E l) lc, .slice so (lenE E s) sc, .int .i64 E]) /\ De.OwR w.heap.size w' ao (lenE E M) cp R V /\ De.OwR w.heap.size w' lo (lenE E l) lc R V /\ De.OwR w.heap.size w' so (lenE E s) sc SR SV /\ Below w.heap.size w w'
theorem ansO_bad {w w' : World} {E : Int} (hE : E ≠ 0) (hb : Below w.heap.size w w') (A D : Int) (M : Nat) (R V : Nat -> Int) (y : Int) (l s : Nat) (SR SV : Nat -> Int) :
    AnsO w E A D M R V y l s SR SV (.returned (.tuple #[.agg #[.int .i64 0, .int .i64 0, .slice none 0 0], .int .i64 0, .slice none 0 0, .slice none 0 0, .int .i64 E])) w' := by
  unfold AnsO
  rw [lenE_ne M hE, lenE_ne l hE, lenE_ne s hE, De.lenI_not hE, De.lenI_not hE, De.lenI_not hE]
  exact ⟨none, 0, none, 0, none, 0, rfl, De.owr_nil _ _ _ _, De.owr_nil _ _ _ _, De.owr_nil _ _ _ _, hb⟩
set_option maxHeartbeats 4000000 in
set_option maxRecDepth 100000 in
theorem obj_e1 {k r c q : Int} (w : World) (lo : Option Addr) (n cl n' : Nat) (o x : Int) (hx : x ≠ 0) (G : Nat -> List UInt8)
    (HA : Hid (∀ u, Below w.heap.size w u -> Calls Tryz.prog 39 #[.agg #[.int .i64 k, .int .i64 r, .int .i64 c, .int .i64 q, .slice lo n cl], .int .i64 o] u fun e w' => ∃ lo' A' C', e = .returned (.tuple #[.slice lo' n' n', .int .i64 x]) /\ Im.Im u.heap.size w' lo' (2 * n') A' C' G /\ Below u.heap.size u w')) (A D : Int) (M : Nat) (R V : Nat -> Int) (y : Int) (l s : Nat) (SR SV : Nat -> Int) :
    Calls Tryz.prog 27 #[.agg #[.int .i64 k, .int .i64 r, .int .i64 c, .int .i64 q, .slice lo n cl], .int .i64 o] w (AnsO w x A D M R V y l s SR SV) := by
  have hz : (x != 0) = true := by simpa using hx
  have HX : Hid (x ≠ 0) := hx
  have HO : Hid (OB w w.heap.size (objW w k r c q lo n cl) k r c q lo n cl (.int .i64 0) (.int .i64 0) (.slice none 0 0) (.int .i64 0) (.slice none 0 0) (.slice none 0 0) (.int .i64 0)) := ob_new w k r c q lo n cl
  have hmf : ∀ (fn : Fn) (first cap : Array Value) (w : World), (Instr.makeFunc fn first cap).run Tryz.prog w = .ok (.func fn first cap) w := fun _ _ _ _ => rfl
  clear hx
  go_enter_defers Tryz.func27, Tryz.ntmps27
  go_wp2_with fail
  refine (HA.out (objW w k r c q lo n cl) HO.out.bel).mono ?_
  rintro e wa ⟨lo', A', C', rfl, _, ha⟩
  have O1 := HO.out.below ha
  have HO1 : Hid (OB w w.heap.size wa k r c q lo n cl (.int .i64 0) (.int .i64 0) (.slice none 0 0) (.int .i64 0) (.slice none 0 0) (.slice none 0 0) (.int .i64 0)) := O1
  obtain ⟨_, ⟨t0, t1, t2⟩, t3, t4, t5, t6⟩ := O1.cells
  obtain ⟨f1, f2, f3, f4, f5⟩ := O1.free
  clear O1 ha HA HO
  go_wp2_with fail
  refine leaves_cons (f := 38) (args := #[.pointer (some ⟨w.heap.size + 5, 0, none⟩), .pointer (some ⟨w.heap.size + 1, 0, none⟩), .pointer (some ⟨w.heap.size + 2, 0, none⟩), .pointer (some ⟨w.heap.size + 3, 0, none⟩), .pointer (some ⟨w.heap.size + 4, 0, none⟩)]) (by simp) (by simp [go_sem]) ?_
  refine (obj_defer (HO1.out.setE (.int .i64 x)) .returning).mono ?_
  rintro e u' w'' ⟨rfl, rfl, ⟨h0, _⟩ | ⟨_, hO, _⟩⟩
  · exact absurd h0 HX.out
  · obtain ⟨_, ⟨v0, v1, v2⟩, v3, v4, v5, v6⟩ := hO.cells
    exact ⟨_, by simp [results, Tryz.results27, go_sem, v0, v1, v2, v3, v4, v5, v6], ansO_bad HX.out hO.bel _ _ _ _ _ _ _ _ _ _⟩
end Go.Proofs.YtngcdlodcdgcaaaGreat
namespace Go.Proofs.YtngcdlodcdgcaaaGreat
open Go.RowKit
theorem byF_splice {n o k : Nat} (G H : Nat -> UInt8) (h : o + k <= n) : (byF n G).take o ++ (byF k H ++ (byF n G).drop (o + k)) = byF n (upR G o k H) := by
  have e1 : ((byF n G).take o).length = o := by rw [List.length_take, byF_length]; omega
  apply List.ext_getElem?
  intro j
  by_cases h1 : j < o
  · rw [List.getElem?_append_left (by omega), List.getElem?_take_of_lt h1, byF_get _ _ _ (by omega), byF_get _ _ _ (by omega), upR_out (by omega)]
  · rw [List.getElem?_append_right (by omega), e1]
    by_cases h2 : j < o + k
    · rw [List.getElem?_append_left (by rw [byF_length]; omega), byF_get _ _ _ (by omega), byF_get _ _ _ (by omega), upR_in (by omega)]
    · rw [List.getElem?_append_right (by rw [byF_length]; omega), byF_length, List.getElem?_drop, show o + k + (j - o - k) = j by omega]
      by_cases h3 : j < n
      · rw [byF_get _ _ _ h3, byF_get _ _ _ h3, upR_out (by omega)]
      · rw [List.getElem?_eq_none (by rw [byF_length]; omega), List.getElem?_eq_none (by rw [byF_length]; omega)]
theorem only_setRow (w : World) (g : Nat) (cs : Array Value) : Only (fun b => b = g) w (w.setRow g cs) := ⟨rfl, rfl, rfl, by simp [World.setRow], fun k _ hk => setRow_other w g k cs hk⟩
theorem run_copy_bk {w : World} {g n off k dC : Nat} {G H : Nat -> UInt8} {bo : Option Addr} {cb : Nat} (h0 : 0 < k) (hg : Bk w g n G) (hb : Bec w bo k cb H) (hfit : off + k <= n) :
    ∃ w', (Builtin.copy_ #[74, 74] 3 #[.slice (some ⟨g, off, none⟩) k dC, .slice bo k cb]).run Tryz.prog w = .ok (goInt k) w' /\ Bk w' g n (upR G off k H) /\ Only (fun b => b = g) w w' := by
  obtain ⟨b, bof, rfl, hc⟩ := hb.rd h0
  have hl : (byF k H).length = Nat.min k k := by rw [byF_length]; exact (Nat.min_self k).symm
  have hrun := run_copy_row (P := Tryz.prog) w 74 74 3 5 g off k dC ⟨b, bof, none⟩ k cb (byF n G).toArray 5 (byF k H) Tryz.underlying74 (by kernel_rfl) hg hl (bec_news hb) (by simp [byF_length]; exact hfit) (byF_one k H)
  rw [byF_length] at hrun
  refine ⟨_, hrun, ?_, only_setRow _ _ _⟩
  unfold Bk
  rw [<- byF_splice G H hfit]
  have := setRow_heap w g _ ((byF n G).take off ++ (byF k H ++ (byF n G).drop (off + k))).toArray 5 _ hg
  simpa using this
def Cel (w : World) (b : Nat) (cs : List Value) : Prop := ∀ i v, cs[i]? = some v -> w.cell? ⟨b, i, none⟩ = some v
theorem Cel.below {w w' : World} {b : Nat} {cs : List Value} (h : Cel w b cs) (ho : Below w.heap.size w w') : Cel w' b cs := fun i v hv => held (h i v hv) ho
theorem cel_new {w w0 : World} {cs : Array Value} {t : TypeId} (h0 : w0 = w.alloc (.cells cs t)) : Cel w0 w.heap.size cs.toList := fun i _ hv => blk_held h0 (Below.refl _ _) i (by simpa using hv)
end Go.Proofs.YtngcdlodcdgcaaaGreat
namespace Go.Proofs.YtngcdlodcdgcaaaGreat
open Go.RowKit
def lvv (a v : Nat -> Int) : Nat -> List Value
  | 0 => []
  | n + 1 => lvv a v n ++ [.int .i64 (a n), .int .u8 (if n = 0 then 2 else 1), .int .i64 (v n)]
def OwV (B : Nat) (w : World) (ao : Option Addr) (n cap : Nat) (a v : Nat -> Int) : Prop := w.ownsRow B 45 3 (.slice ao n cap) n (lvv a v n)
theorem OwV.stay {B : Nat} {w w' : World} {ao : Option Addr} {n cap : Nat} {a v : Nat -> Int} (h : OwV B w ao n cap a v) (hb : ∀ g, B <= g -> g < w.heap.size -> w'.heap[g]? = w.heap[g]?) : OwV B w' ao n cap a v := by
  refine ⟨h.1, ?_⟩
  rcases h.2 with h1 | ⟨g, cap', cur, h1, h2, h3, h4⟩
  · exact .inl h1
  · exact .inr ⟨g, cap', cur, h1, h2, by rw [hb g h2 (Array.getElem?_eq_some_iff.1 h3).1]; exact h3, h4⟩
theorem OwV.below {B : Nat} {w w' : World} {ao : Option Addr} {n cap : Nat} {a v : Nat -> Int} (h : OwV B w ao n cap a v) (hb : Below w.heap.size w w') : OwV B w' ao n cap a v := h.stay fun g _ hg => hb.block g hg
theorem info57 : (Tryz.prog.info? 45).map (fun i => (i.zero, i.size, i.bytes)) = some (some (.agg #[.int .i64 0, .int .u8 0, .int .i64 0]), 3, 24) := by kernel_rfl
theorem wpList_append_live {w : World} {ops : Array Oper} {rest : List Oper} {o : Oper} {a : Act} {Q : Exit -> Act -> World -> Prop} (hgd : o.guard = none) (s x : Operand)
    (ho : o.op = .call { callee := .builtin .append, args := #[s, x], argTypes := #[29, 29] }) (B k ca g : Nat) (ao : Option Addr) (Ra Va : Nat -> Int) (p t : Int)
    (hs : a.eval s = .slice ao k ca) (hx : a.eval x = .slice (some ⟨g, 0, none⟩) 1 1) (h : OwV B w ao k ca Ra Va) (hp : Ra k = p) (ht : Va k = t) (hk0 : 0 < k)
    (c0 : w.cell? ⟨g, 0, none⟩ = some (.int .i64 p)) (c1 : w.cell? ⟨g, 1, none⟩ = some (.int .u8 1)) (c2 : w.cell? ⟨g, 2, none⟩ = some (.int .i64 t)) (hk : k <= 100000) (hB : B <= w.heap.size)
    (cont : ∀ ao' c' w', Hid (OwV B w' ao' (k + 1) c' Ra Va) -> w.grownBy w' (Value.slice ao k ca).ownBlock -> wpList Tryz.prog ops Q rest (a.put o.dst (.slice ao' (k + 1) c')) w') : wpList Tryz.prog ops Q (o :: rest) a w := by
  obtain ⟨j0, hj, hj0, hj1, hj2⟩ := info_parts info57
  refine wpList_append_own w hgd s x 29 ho B 45 j0 (.agg #[.int .i64 0, .int .u8 0, .int .i64 0]) 3 24 Tryz.underlying29 hj hj0 hj1 hj2 rfl (by decide) (.slice ao k ca) k (lvv Ra Va k) hs h ⟨g, 0, none⟩ 1 1 [.int .i64 p, .int .u8 1, .int .i64 t] hx rfl (fun j u hu => ?_) (fun u hu => ?_) (by unfold maxLen; omega) (by omega) hB ?_
  · rw [Addr.add_lit, Nat.zero_add]
    match j, hu with
    | 0, hu => cases hu; exact c0
    | 1, hu => cases hu; exact c1
    | 2, hu => cases hu; exact c2
    | n + 3, hu => simp at hu
  · simp at hu
    rcases hu with rfl | rfl | rfl <;> rfl
  · intro v' w' h1 h2 _
    obtain ⟨ao', c', rfl⟩ : ∃ ao' c', v' = .slice ao' (k + 1) c' := by
      rcases h1.2 with ⟨rfl, e⟩ | ⟨g, cap, cur, rfl, _⟩
      · rw [e]; exact ⟨none, 0, rfl⟩
      · exact ⟨_, cap, rfl⟩
    refine cont ao' c' w' ?_ h2
    show w'.ownsRow B 45 3 _ _ (lvv Ra Va (k + 1))
    rw [lvv, if_neg (by omega), hp, ht]; exact h1
def AnsLv (w : World) (E : Int) (n : Nat) (a v : Nat -> Int) (e : Ending) (w' : World) : Prop :=
  ∃ ao cp, e = .returned (.tuple #[.slice ao (lenE E n) cp, .int .i64 E]) /\ OwV w.heap.size w' ao (lenE E n) cp a v /\ Below w.heap.size w w'
def lvA (o : Int) (l : Nat) (R SR : Nat -> Int) (i : Nat) : Int := if i = 0 then o else De.apI l R SR (i - 1)
theorem lvA_zero (o : Int) (l : Nat) (R SR : Nat -> Int) : lvA o l R SR 0 = o := if_pos rfl
theorem lvA_succ (o : Int) (l : Nat) (R SR : Nat -> Int) (i : Nat) : lvA o l R SR (i + 1) = De.apI l R SR i := by unfold lvA; rw [if_neg (by omega)]; rfl
theorem owr_grown {B B' : Nat} {w w' : World} {ao av : Option Addr} {n cp m ac : Nat} {R V a v : Nat -> Int} (h : De.OwR B w ao n cp R V) (hv : OwV B' w av m ac a v) (hg : w.grownBy w' (Value.slice av m ac).ownBlock) : De.OwR B w' ao n cp R V := by
  refine ⟨h.1, ?_⟩
  rcases h.2 with h1 | ⟨g, cap', cur, h1, h2, h3, h4⟩
  · exact .inl h1
  · refine .inr ⟨g, cap', cur, h1, h2, ?_, h4⟩
    rw [hg.block g (Array.getElem?_eq_some_iff.1 h3).1 ?_]
    · exact h3
    · intro e
      rcases hv.2 with ⟨e1, _⟩ | ⟨g', c', cur', e1, _, e3, _⟩
      · rw [e1] at e; cases e
      · rw [e1] at e
        have e' : g' = g := by have : some g = some g' := e; cases this; rfl
        subst e'
        rw [h3] at e3
        have := Option.some.inj e3
        injection this with _ q _
        exact absurd q (by decide)
set_option maxHeartbeats 4000000 in
set_option maxRecDepth 100000 in
theorem Stripes_bad {k r c q : Int} (w : World) (lo : Option Addr) (n cl : Nat) (o E : Int) (hE : E ≠ 0) (A D : Int) (M : Nat) (R V : Nat -> Int) (y : Int) (l s : Nat) (SR SV : Nat -> Int)
    (HA : Hid (∀ u, Below w.heap.size w u -> Calls Tryz.prog 27 #[.agg #[.int .i64 k, .int .i64 r, .int .i64 c, .int .i64 q, .slice lo n cl], .int .i64 o] u (AnsO u E A D M R V y l s SR SV))) (m : Nat) (a v : Nat -> Int) :
    Calls Tryz.prog 13 #[.agg #[.int .i64 k, .int .i64 r, .int .i64 c, .int .i64 q, .slice lo n cl], .int .i64 o] w (AnsLv w E m a v) := by
  have hz : (E != 0) = true := by simpa using hE
  unfold AnsO at HA
  unfold AnsLv
  rw [lenE_ne M hE, lenE_ne l hE, lenE_ne s hE, De.lenI_not hE, De.lenI_not hE, De.lenI_not hE] at HA
  rw [lenE_ne m hE]
  clear hE
  obtain ⟨w0, hw0⟩ : ∃ w0, w0 = w.alloc (.cells #[.int .i64 k, .int .i64 r, .int .i64 c, .int .i64 q, .slice lo n cl] 26) := ⟨_, rfl⟩
  have b0 : Below w.heap.size w w0 := by rw [hw0]; exact below_alloc _ _
  go_enter Tryz.func13, Tryz.ntmps13
  go_wp2_with fail
  rw [<- hw0]
  refine (HA.out _ b0).mono ?_
  rintro e wa ⟨ao, cp, lo', lc, so, sc, rfl, _, _, _, ha⟩
  clear hw0 HA
  go_wp2_with fail
  go_ret2
  exact ⟨none, 0, rfl, World.ownsRow_nil _ _ _ _, below_then (below_then b0 ha) (below_alloc _ _)⟩
set_option maxHeartbeats 4000000 in
set_option maxRecDepth 100000 in
theorem Stripes_good {k r c q : Int} (w : World) (lo : Option Addr) (n cl : Nat) (o : Int) (A D : Int) (M : Nat) (R V : Nat -> Int) (y : Int) (l s : Nat) (hl : l <= 1000) (hs : s <= 5000) (SR SV : Nat -> Int)
    (HA : Hid (∀ u, Below w.heap.size w u -> Calls Tryz.prog 27 #[.agg #[.int .i64 k, .int .i64 r, .int .i64 c, .int .i64 q, .slice lo n cl], .int .i64 o] u (AnsO u 0 A D M R V y l s SR SV))) :
    Calls Tryz.prog 13 #[.agg #[.int .i64 k, .int .i64 r, .int .i64 c, .int .i64 q, .slice lo n cl], .int .i64 o] w (AnsLv w 0 (l + s + 1) (lvA o l R SR) (lvA y l V SV)) := by
  unfold AnsO at HA
  unfold AnsLv
  rw [lenE_zero, lenE_zero, lenE_zero, De.lenI_zero, De.lenI_zero, De.lenI_zero] at HA
  rw [lenE_zero]
  obtain ⟨w0, hw0⟩ : ∃ w0, w0 = w.alloc (.cells #[.int .i64 k, .int .i64 r, .int .i64 c, .int .i64 q, .slice lo n cl] 26) := ⟨_, rfl⟩
  have b0 : Below w.heap.size w w0 := by rw [hw0]; exact below_alloc _ _
  go_enter Tryz.func13, Tryz.ntmps13
  go_wp2_with fail
  rw [<- hw0]
  refine (HA.out _ b0).mono ?_
  rintro e wa ⟨ao, cp, lo', lc, so, sc, rfl, _, h2, h3, ha⟩
  obtain ⟨wb, hwb⟩ : ∃ wb, wb = wa.alloc (.cells #[.int .i64 A, .int .i64 D, .slice ao M cp] 62) := ⟨_, rfl⟩
  obtain ⟨wc, hwc⟩ : ∃ wc, wc = wb.alloc (.cells #[.int .i64 o, .int .u8 2, .int .i64 y] 45) := ⟨_, rfl⟩
  obtain ⟨wd, hwd⟩ : ∃ wd, wd = wc.alloc (.cells #[.slice lo' l lc, .slice so s sc] 60) := ⟨_, rfl⟩
  have bb : Below wa.heap.size wa wb := by rw [hwb]; exact below_alloc _ _
  have bc : Below wb.heap.size wb wc := by rw [hwc]; exact below_alloc _ _
  have bd : Below wc.heap.size wc wd := by rw [hwd]; exact below_alloc _ _
  have zb : wb.heap.size = wa.heap.size + 1 := by rw [hwb]; simp
  have zc : wc.heap.size = wa.heap.size + 2 := by rw [hwc]; simp [zb]
  have b1 := below_then b0 ha
  have HB1 : Hid (Below w.heap.size w wd) := below_then (below_then (below_then b1 bb) bc) bd
  have HV1 : Hid (OwV w.heap.size wd (some ⟨wb.heap.size, 0, none⟩) 1 1 (lvA o l R SR) (lvA y l V SV)) := by
    refine OwV.below ?_ bd
    show wc.ownsRow w.heap.size 45 3 _ _ _
    rw [hwc]
    have h := World.ownsRow_lit (base := w.heap.size) (size := 3) (e := 45) wb #[.int .i64 o, .int .u8 2, .int .i64 y] 1 (below_then b1 bb).size (by decide) rfl
    simpa [lvv, lvA_zero] using h
  have HC := concatR_any wd (wa.heap.size + 2) lo' so l lc s sc R V SR SV (by rw [<- zc]; exact blk_held hwd (Below.refl _ _) 0 rfl) (by rw [<- zc]; exact blk_held hwd (Below.refl _ _) 1 rfl) hl hs ((h2.rec.below (below_then (below_then bb bc) bd))) ((h3.rec.below (below_then (below_then bb bc) bd)))
  have HZ : Hid (w.heap.size <= wd.heap.size) := HB1.out.size
  rw [zb] at HV1
  clear h2 h3 HA
  go_wp2_with fail
  rw [<- hwb, <- hwc, <- hwd]
  clear hw0 hwb hwc hwd bb bc bd zb zc b0 b1 ha
  refine HC.mono ?_
  rintro e we ⟨ro, rc, rfl, hro, hbe⟩
  have HR1 : Hid (De.OwR wd.heap.size we ro (l + s) rc (De.apI l R SR) (De.apI l V SV)) := hro
  have HB2 : Hid (Below w.heap.size w we) := below_then HB1.out hbe
  have HV2 : Hid (OwV w.heap.size we (some ⟨wa.heap.size + 1, 0, none⟩) 1 1 (lvA o l R SR) (lvA y l V SV)) := HV1.out.below hbe
  clear hro hbe HC HV1 HB1
  go_wp2_with fail
  go_loopw [11, 35] (fun x i wr => ∃ j : Nat, j <= l + s /\ i = .int .i64 (j : Int) /\ ∃ av ac, x = .slice av (j + 1) ac /\ Hid (OwV w.heap.size wr av (j + 1) ac (lvA o l R SR) (lvA y l V SV)) /\ Hid (De.OwR wd.heap.size wr ro (l + s) rc (De.apI l R SR) (De.apI l V SV)) /\ Hid (Below w.heap.size w wr)) (fun _ i _ => l + s - (intOf i).toNat)
  case atStart => exact ⟨0, Nat.zero_le _, rfl, _, _, rfl, HV2, HR1, HB2⟩
  case round =>
    obtain ⟨j, hj, rfl, av, ac, rfl, hv, hr, hb⟩ := hrel
    by_cases hlt : j < l + s
    · obtain ⟨g, rfl, hg1, hg2⟩ := hr.out.at_ (by omega)
      obtain ⟨c0, c1⟩ := hr.out.cell hlt
      have i1 : (0 : Int) <= (j : Int) := by omega
      have i2 : (j : Int) < ((l + s : Nat) : Int) := by omega
      obtain ⟨p, hp⟩ : ∃ p, De.apI l R SR j = p := ⟨_, rfl⟩
      obtain ⟨t, ht⟩ : ∃ t, De.apI l V SV j = t := ⟨_, rfl⟩
      rw [hp] at c0
      rw [ht] at c1
      have hwr := hb.out.size
      obtain ⟨wf, hwf⟩ : ∃ wf, wf = wr.alloc (.cells #[.int .i64 p, .int .i64 t] 67) := ⟨_, rfl⟩
      obtain ⟨wg, hwg⟩ : ∃ wg, wg = wf.alloc (.cells #[.int .i64 p, .int .u8 1, .int .i64 t] 45) := ⟨_, rfl⟩
      have bf : Below wr.heap.size wr wf := by rw [hwf]; exact below_alloc _ _
      have bg : Below wf.heap.size wf wg := by rw [hwg]; exact below_alloc _ _
      have zf : wf.heap.size = wr.heap.size + 1 := by rw [hwf]; simp
      have HVg : Hid (OwV w.heap.size wg av (j + 1) ac (lvA o l R SR) (lvA y l V SV)) := hv.out.below (below_then bf bg)
      have HRg : Hid (De.OwR wd.heap.size wg (some ⟨g, 0, none⟩) (l + s) rc (De.apI l R SR) (De.apI l V SV)) := hr.out.below (below_then bf bg)
      have HBg : Hid (Below w.heap.size w wg) := below_then hb.out (below_then bf bg)
      have k0 := blk_held hwg (Below.refl _ _) 0 rfl
      have k1 := blk_held hwg (Below.refl _ _) 1 rfl
      have k2 := blk_held hwg (Below.refl _ _) 2 rfl
      have HP : Hid (lvA o l R SR (j + 1) = p) := by show _ = _; rw [lvA_succ]; exact hp
      have HT : Hid (lvA y l V SV (j + 1) = t) := by show _ = _; rw [lvA_succ]; exact ht
      have HWG : Hid (w.heap.size <= wg.heap.size) := HBg.out.size
      rw [zf] at k0 k1 k2
      have HW : Hid ((wr.alloc (.cells #[.int .i64 p, .int .i64 t] 67)).alloc (.cells #[.int .i64 p, .int .u8 1, .int .i64 t] 45) = wg) := by show _ = _; rw [hwg, hwf]
      have K0 : Hid (wg.cell? ⟨wr.heap.size + 1, 0, none⟩ = some (.int .i64 p) /\ wg.cell? ⟨wr.heap.size + 1, 1, none⟩ = some (.int .u8 1) /\ wg.cell? ⟨wr.heap.size + 1, 2, none⟩ = some (.int .i64 t)) := ⟨k0, k1, k2⟩
      clear hv hr bf bg zf hp ht hwr hwf hwg k0 k1 k2
      go_wp2_with (at_builtin; rw [HW.out]; refine wpList_append_live (by rfl) (.tmp 39) (.tmp 45) (by rfl) w.heap.size (j + 1) ac (wr.heap.size + 1) av (lvA o l R SR) (lvA y l V SV) p t (by rfl) (by rfl) HVg.out HP.out HT.out (Nat.succ_pos _) K0.out.1 K0.out.2.1 K0.out.2.2 (by omega) HWG.out ?_; intro ao' c' w' hov hgr)
      have HR3 : Hid (De.OwR wd.heap.size w' (some ⟨g, 0, none⟩) (l + s) rc (De.apI l R SR) (De.apI l V SV)) := owr_grown HRg.out HVg.out hgr
      have HB3 : Hid (Below w.heap.size w w') := HBg.out.grown hgr HWG.out (fun r hr => (World.ownsRow.lt HVg.out r hr).1)
      clear hgr c0 c1
      go_roundw
      case rel => exact ⟨j + 1, by omega, by go_num, ao', c', rfl, hov, HR3, HB3⟩
      case measure => simp [intOf]; omega
    · obtain rfl : j = l + s := by omega
      go_wp2_with fail
      go_ret2
      exact ⟨_, _, rfl, hv.out, hb.out⟩
end Go.Proofs.YtngcdlodcdgcaaaGreat
