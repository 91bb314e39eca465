import Derived.Test.YtdmpiipllmjloaaGreatPj25
import Derived.Test.YtdmpiipllmjloaaGreatPj36
import Derived.Test.YtdmpiipllmjloaaGreatPj48
namespace Go.Proofs.YtdmpiipllmjloaaGreat.De
open Go.RowKit
def lenI (E x : Int) : Int := if E = 0 then x else 0
theorem lenI_zero (x : Int) : lenI 0 x = x := if_pos rfl
theorem lenI_not {E : Int} (h : E ≠ 0) (x : Int) : lenI E x = 0 := if_neg h
def AnsD (w : World) (E A D : Int) (n : Nat) (R V : Nat -> Int) (e : Ending) (w' : World) : Prop :=
  ∃ ao cp, e = .returned (.tuple #[.agg #[.int .i64 (lenI E A), .int .i64 (lenI E D), .slice ao (lenE E n) cp], .int .i64 E]) /\ OwR w.heap.size w' ao (lenE E n) cp R V /\ Below w.heap.size w w'
set_option maxHeartbeats 4000000 in
set_option maxRecDepth 100000 in
theorem Parse_ok {k r c q : Int} {N W : Nat} (h : Par k r c q N W 0) (w : World) (bo : Option Addr) (bc : Nat) (F : Nat -> UInt8) (hB : Bec w bo W bc F) (E : Int) (hE : (if isD W q F = true then (0 : Int) else 150) = E) :
    Calls Tryz.prog 23 #[.agg #[.int .i64 k, .int .i64 r, .int .i64 c, .int .i64 q], .slice bo W bc] w (AnsD w E ((nm F 0 4 : Nat) : Int) ((nm F 4 1 : Nat) : Int) (nm F 5 2) (rdR F 7) (rdV F 7)) := by
  obtain ⟨hmy, hW, hW2, hq⟩ := h.fine
  have HC1 := fun v => checkWidth_any h bo W bc v
  rw [if_pos rfl, if_pos rfl] at HC1
  have HL := fun v hv => readDesc_any v bo W bc F hv hW (by omega)
  obtain ⟨s, d, x, nn, er, h'⟩ := made_any k r c q ((nm F 0 4 : Nat) : Int) W
  have HF' : ∀ m, m = min (nm F 5 2) (dir W) -> ∀ v ro rc uo uc, RdR v ro m (rdR F 7) (rdV F 7) -> RdU v uo (W - 7 - 6 * m) (fun j => F (7 + 6 * m + j)) -> Calls Tryz.prog 45 #[.agg #[.int .i64 ((nm F 0 4 : Nat) : Int), .int .i64 ((nm F 4 1 : Nat) : Int), .int .i64 ((nm F 5 2 : Nat) : Int), .slice ro m rc, .slice uo (W - 7 - 6 * m) uc], .agg #[.int .i64 k, .int .i64 r, .int .i64 c, .int .i64 q], .int .i64 0] v fun e w' => ∃ pt : Int, e = .returned (.int .i64 pt) /\ decide (pt = 5) = isD W q F /\ Below v.heap.size v w' := by
    intro m hm v ro rc uo uc hr hu
    have := fw_desc h h' v ((nm F 4 1 : Nat) : Int) ((nm F 5 2 : Nat) : Int) ro m rc (rdR F 7) (rdV F 7) hr (fun _ => by have := dir_le hW2; omega) uo (W - 7 - 6 * m) uc (fun j => F (7 + 6 * m + j)) hu (by omega)
    rw [isD_made h F h' m hm]
    exact this
  have HM2 : Hid (isD W q F = true -> ∀ m, m = min (nm F 5 2) (dir W) -> m = nm F 5 2) := fun hd m hm => by
    have := (okD_few hW (isD_true hd).1).1
    omega
  have HB : Hid (Bec w bo W bc F) := hB
  have HE : Hid ((if isD W q F = true then (0 : Int) else 150) = E) := hE
  clear h hB hE hmy hq h'
  unfold AnsD
  generalize isD W q F = ok at *
  generalize nm F 0 4 = A at *
  generalize nm F 4 1 = D at *
  generalize nm F 5 2 = M at *
  generalize dir W = dd at *
  generalize rdR F 7 = R at *
  generalize rdV F 7 = V at *
  obtain ⟨w0, hw0⟩ : ∃ w0, w0 = w.alloc (.cells #[.int .i64 k, .int .i64 r, .int .i64 c, .int .i64 q] 23) := ⟨_, rfl⟩
  obtain ⟨w1, hw1⟩ : ∃ w1, w1 = w0.alloc (.cells #[.int .i64 0, .int .i64 0, .slice none 0 0] 27) := ⟨_, rfl⟩
  have b0 : Below w.heap.size w w0 := by rw [hw0]; exact below_alloc _ _
  have b1 : Below w0.heap.size w0 w1 := by rw [hw1]; exact below_alloc _ _
  have z0 : w0.heap.size = w.heap.size + 1 := by rw [hw0]; simp
  have HZ1 : Hid (w1.heap.size = w.heap.size + 2) := by show _ = _; rw [hw1]; simp [z0]
  have HP : Hid (∀ u, Below w1.heap.size w1 u -> (u.cell? ⟨w.heap.size, 0, none⟩ = some (.int .i64 k) /\ u.cell? ⟨w.heap.size, 1, none⟩ = some (.int .i64 r) /\ u.cell? ⟨w.heap.size, 2, none⟩ = some (.int .i64 c) /\ u.cell? ⟨w.heap.size, 3, none⟩ = some (.int .i64 q)) /\ (u.cell? ⟨w.heap.size + 1, 0, none⟩ = some (.int .i64 0) /\ u.cell? ⟨w.heap.size + 1, 1, none⟩ = some (.int .i64 0) /\ u.cell? ⟨w.heap.size + 1, 2, none⟩ = some (.slice none 0 0)) /\ ∀ i, u.frozen? ⟨w.heap.size + 1, i, none⟩ = false) := fun u hu => ⟨par_held hw0 (below_then b1 hu), by rw [<- z0]; exact ⟨⟨blk_held hw1 hu 0 rfl, blk_held hw1 hu 1 rfl, blk_held hw1 hu 2 rfl⟩, blk_free hw1 hu⟩⟩
  have HBB : Hid (Below w.heap.size w w1) := below_then b0 b1
  cases ok
  · obtain rfl : (150 : Int) = E := HE.out
    rw [lenE_not (by decide), lenI_not (by decide), lenI_not (by decide)]
    go_enter Tryz.func23, Tryz.ntmps23
    go_wp2_with fail
    rw [<- hw0, <- hw1]
    clear hw0 hw1 z0 b0 b1
    refine (HC1 _).mono ?_
    rintro e wa ⟨rfl, ha⟩
    go_wp2_with fail
    refine (HL _ (HB.out.below (below_then HBB.out ha))).mono ?_
    rintro e wc ⟨ro, rc, uo, m, uc, hmm, rfl, hown, hrest, hc⟩
    have HF := HF' m hmm
    have HMM : Hid (m = min M dd) := hmm
    clear hmm
    obtain ⟨wd, hwd⟩ : ∃ wd, wd = wc.alloc (.cells #[.int .i64 (A : Int), .int .i64 (D : Int), .int .i64 (M : Int), .slice ro m rc, .slice uo (W - 7 - 6 * m) uc] 102) := ⟨_, rfl⟩
    have bd : Below wc.heap.size wc wd := by rw [hwd]; exact below_alloc _ _
    have k4 : Below w1.heap.size w1 wd := below_then (below_then ha hc) bd
    have hor := (hown.below bd).mono (below_then HBB.out ha).size
    have HO : Hid (OwR w.heap.size wd ro m rc R V) := hor
    have HOB : Hid (w.heap.size + 2 <= wa.heap.size /\ OwR wa.heap.size wd ro m rc R V) := ⟨by have := ha.size; rw [HZ1.out] at this; exact this, hown.below bd⟩
    have HRS : Hid (RdU wd uo (W - 7 - 6 * m) (fun j => F (7 + 6 * m + j))) := (hrest wd (HB.out.below (below_then HBB.out k4))).rd
    have HC3 : Hid (∀ u, Below wd.heap.size wd u -> u.cell? ⟨wc.heap.size, 0, none⟩ = some (.int .i64 (A : Int)) /\ u.cell? ⟨wc.heap.size, 1, none⟩ = some (.int .i64 (D : Int)) /\ u.cell? ⟨wc.heap.size, 3, none⟩ = some (.slice ro m rc)) := fun u hu => ⟨blk_held hwd hu 0 rfl, blk_held hwd hu 1 rfl, blk_held hwd hu 3 rfl⟩
    obtain ⟨⟨m0, m1, m2, m3, m4⟩, _⟩ := con_held hwd (Below.refl _ _)
    obtain ⟨⟨s0, s1, s2, s3⟩, _⟩ := HP.out (wc.alloc (.cells #[.int .i64 (A : Int), .int .i64 (D : Int), .int .i64 (M : Int), .slice ro m rc, .slice uo (W - 7 - 6 * m) uc] 102)) (by rw [<- hwd]; exact k4)
    have HK4 : Hid (Below w1.heap.size w1 wd) := k4
    clear ha hc k4 bd hown hor hrest
    go_wp2_with fail
    rw [<- hwd]
    clear hwd
    refine (HF wd ro rc uo uc HO.out.rec.rd HRS.out).mono ?_
    rintro e we ⟨pt, rfl, hpt, he⟩
    have HPT : Hid ((if pt = 5 then (0 : Int) else 150) = 150) := if_neg (by simpa using hpt)
    have HK5 : Hid (Below wd.heap.size wd we) := he
    obtain ⟨x0, x1, x3⟩ := HC3.out we he
    obtain ⟨_, ⟨t0, t1, t2⟩, f⟩ := HP.out we (below_then HK4.out he)
    clear he hpt s0 s1 s2 s3
    go_wp2_with fail
    refine (err_any pt _).mono ?_
    rintro e wf ⟨rfl, hwf⟩
    obtain rfl := hwf.symm
    rw [HPT.out]
    have HKK : Hid (Below w.heap.size w we) := below_then (below_then HBB.out HK4.out) HK5.out
    have HON : Hid (OwR wa.heap.size we ro m rc R V) := HOB.out.2.below HK5.out
    have HZA : Hid (w.heap.size + 2 <= wa.heap.size) := HOB.out.1
    clear HO HOB HRS HC3 HF HF'
    go_wp2_with fail
    refine bodyPost_ret (v := .tuple #[.agg #[.int .i64 0, .int .i64 0, .slice none 0 0], .int .i64 150]) (by simp [results, Tryz.results23, go_sem, t0, t1, t2]) rfl ⟨none, 0, rfl, owr_nil _ _ _ _, ?_⟩
    exact ((HKK.out.setCell (Nat.le_succ _) _).setCell (Nat.le_succ _) _).setCell (Nat.le_succ _) _
  · obtain rfl : (0 : Int) = E := HE.out
    rw [lenE_zero, lenI_zero, lenI_zero]
    have HM3 : Hid (∀ m, m = min M dd -> m = M) := HM2.out (by trivial)
    clear HM2
    go_enter Tryz.func23, Tryz.ntmps23
    go_wp2_with fail
    rw [<- hw0, <- hw1]
    clear hw0 hw1 z0 b0 b1
    refine (HC1 _).mono ?_
    rintro e wa ⟨rfl, ha⟩
    go_wp2_with fail
    refine (HL _ (HB.out.below (below_then HBB.out ha))).mono ?_
    rintro e wc ⟨ro, rc, uo, m, uc, hmm, rfl, hown, hrest, hc⟩
    have HF := HF' m hmm
    have HMM : Hid (m = min M dd) := hmm
    clear hmm
    obtain ⟨wd, hwd⟩ : ∃ wd, wd = wc.alloc (.cells #[.int .i64 (A : Int), .int .i64 (D : Int), .int .i64 (M : Int), .slice ro m rc, .slice uo (W - 7 - 6 * m) uc] 102) := ⟨_, rfl⟩
    have bd : Below wc.heap.size wc wd := by rw [hwd]; exact below_alloc _ _
    have k4 : Below w1.heap.size w1 wd := below_then (below_then ha hc) bd
    have hor := (hown.below bd).mono (below_then HBB.out ha).size
    have HO : Hid (OwR w.heap.size wd ro m rc R V) := hor
    have HOB : Hid (w.heap.size + 2 <= wa.heap.size /\ OwR wa.heap.size wd ro m rc R V) := ⟨by have := ha.size; rw [HZ1.out] at this; exact this, hown.below bd⟩
    have HRS : Hid (RdU wd uo (W - 7 - 6 * m) (fun j => F (7 + 6 * m + j))) := (hrest wd (HB.out.below (below_then HBB.out k4))).rd
    have HC3 : Hid (∀ u, Below wd.heap.size wd u -> u.cell? ⟨wc.heap.size, 0, none⟩ = some (.int .i64 (A : Int)) /\ u.cell? ⟨wc.heap.size, 1, none⟩ = some (.int .i64 (D : Int)) /\ u.cell? ⟨wc.heap.size, 3, none⟩ = some (.slice ro m rc)) := fun u hu => ⟨blk_held hwd hu 0 rfl, blk_held hwd hu 1 rfl, blk_held hwd hu 3 rfl⟩
    obtain ⟨⟨m0, m1, m2, m3, m4⟩, _⟩ := con_held hwd (Below.refl _ _)
    obtain ⟨⟨s0, s1, s2, s3⟩, _⟩ := HP.out (wc.alloc (.cells #[.int .i64 (A : Int), .int .i64 (D : Int), .int .i64 (M : Int), .slice ro m rc, .slice uo (W - 7 - 6 * m) uc] 102)) (by rw [<- hwd]; exact k4)
    have HK4 : Hid (Below w1.heap.size w1 wd) := k4
    clear ha hc k4 bd hown hor hrest
    go_wp2_with fail
    rw [<- hwd]
    clear hwd
    refine (HF wd ro rc uo uc HO.out.rec.rd HRS.out).mono ?_
    rintro e we ⟨pt, rfl, hpt, he⟩
    have HPT : Hid ((if pt = 5 then (0 : Int) else 150) = 0) := if_pos (by simpa using hpt)
    have HK5 : Hid (Below wd.heap.size wd we) := he
    obtain ⟨x0, x1, x3⟩ := HC3.out we he
    obtain ⟨_, ⟨t0, t1, t2⟩, f⟩ := HP.out we (below_then HK4.out he)
    clear he hpt s0 s1 s2 s3
    go_wp2_with fail
    refine (err_any pt _).mono ?_
    rintro e wf ⟨rfl, hwf⟩
    obtain rfl := hwf.symm
    rw [HPT.out]
    have HKK : Hid (Below w.heap.size w we) := below_then (below_then HBB.out HK4.out) HK5.out
    have HON : Hid (OwR wa.heap.size we ro m rc R V) := HOB.out.2.below HK5.out
    have HZA : Hid (w.heap.size + 2 <= wa.heap.size) := HOB.out.1
    clear HO HOB HRS HC3 HF HF'
    go_wp2_with fail
    refine bodyPost_ret (v := .tuple #[.agg #[.int .i64 (A : Int), .int .i64 (D : Int), .slice ro m rc], .int .i64 0]) (by simp [results, Tryz.results23, go_sem, t0, t1, t2]) rfl ⟨ro, rc, by rw [HM3.out m HMM.out], ?_, ?_⟩
    · rw [<- HM3.out m HMM.out]
      have h5 := HZA.out
      refine OwR.mono (B := wa.heap.size) (HON.out.stay fun t ht ht2 => ?_) (by omega)
      have hne : t ≠ w.heap.size + 1 := by omega
      rw [heap_setCell_other _ _ _ _ hne, heap_setCell_other _ _ _ _ hne, heap_setCell_other _ _ _ _ hne]
    · exact ((HKK.out.setCell (Nat.le_succ _) _).setCell (Nat.le_succ _) _).setCell (Nat.le_succ _) _
set_option maxHeartbeats 4000000 in
set_option maxRecDepth 100000 in
theorem Parse_no {k r c q : Int} {N W : Nat} {y : Int} (h : Par k r c q N W y) (w : World) (bo : Option Addr) (m bc : Nat) (E : Int) (hE : (if y = 0 then (if m = W then (0 : Int) else 20) else y) = E) (hne : E ≠ 0) (A D : Int) (t : Nat) (R V : Nat -> Int) :
    Calls Tryz.prog 23 #[.agg #[.int .i64 k, .int .i64 r, .int .i64 c, .int .i64 q], .slice bo m bc] w (AnsD w E A D t R V) := by
  have HC := fun v => checkWidth_any h bo m bc v
  rw [hE] at HC
  have hz2 : (E != 0) = true := by simpa using hne
  unfold AnsD
  rw [lenE_not hne, lenI_not hne, lenI_not hne]
  clear h hE hne
  obtain ⟨w0, hw0⟩ : ∃ w0, w0 = w.alloc (.cells #[.int .i64 k, .int .i64 r, .int .i64 c, .int .i64 q] 23) := ⟨_, rfl⟩
  obtain ⟨w1, hw1⟩ : ∃ w1, w1 = w0.alloc (.cells #[.int .i64 0, .int .i64 0, .slice none 0 0] 27) := ⟨_, rfl⟩
  have b0 : Below w.heap.size w w0 := by rw [hw0]; exact below_alloc _ _
  have b1 : Below w0.heap.size w0 w1 := by rw [hw1]; exact below_alloc _ _
  have z0 : w0.heap.size = w.heap.size + 1 := by rw [hw0]; simp
  go_enter Tryz.func23, Tryz.ntmps23
  go_wp2_with fail
  rw [<- hw0, <- hw1]
  refine (HC _).mono ?_
  rintro e wa ⟨rfl, ha⟩
  have t0 := blk_held hw1 ha 0 rfl
  have t1 := blk_held hw1 ha 1 rfl
  have t2 := blk_held hw1 ha 2 rfl
  have f := blk_free hw1 ha
  rw [z0] at t0 t1 t2 f
  clear hw0 hw1
  go_wp2_with fail
  refine bodyPost_ret (v := .tuple #[.agg #[.int .i64 0, .int .i64 0, .slice none 0 0], .int .i64 E]) (by simp [results, Tryz.results23, go_sem, t0, t1, t2]) rfl ⟨none, 0, rfl, owr_nil _ _ _ _, ?_⟩
  have hB := below_then (below_then b0 b1) ha
  exact ((hB.setCell (Nat.le_succ _) _).setCell (Nat.le_succ _) _).setCell (Nat.le_succ _) _
theorem Parse_any {k r c q : Int} {N W : Nat} {y : Int} (h : Par k r c q N W y) (w : World) (bo : Option Addr) (m bc : Nat) (F : Nat -> UInt8) (hB : Bec w bo m bc F) (E : Int) (hE : erB y W q m F = E) :
    Calls Tryz.prog 23 #[.agg #[.int .i64 k, .int .i64 r, .int .i64 c, .int .i64 q], .slice bo m bc] w (AnsD w E ((nm F 0 4 : Nat) : Int) ((nm F 4 1 : Nat) : Int) (nm F 5 2) (rdR F 7) (rdV F 7)) := by
  unfold erB at hE
  rcases h.err with rfl | rfl
  · rw [if_pos rfl] at hE
    by_cases hm : m = W
    · rw [if_pos hm] at hE
      subst hm
      exact Parse_ok h w bo bc F hB E hE
    · rw [if_neg hm] at hE
      exact Parse_no h w bo m bc E (by rw [if_pos rfl, if_neg hm]; exact hE) (by rw [<- hE]; decide) _ _ _ _ _
  · rw [if_neg (by decide)] at hE
    exact Parse_no h w bo m bc E (by rw [if_neg (by decide)]; exact hE) (by rw [<- hE]; decide) _ _ _ _ _
end Go.Proofs.YtdmpiipllmjloaaGreat.De
namespace Go.Proofs.YtdmpiipllmjloaaGreat
open Go.RowKit
def Askd (w : World) (fn : Nat) (k r c q : Int) (ro : Option Addr) (rn rc : Nat) (y : Int) (z : Bool) (E : Int) : Prop := ∀ u, Below w.heap.size w u -> Calls Tryz.prog fn #[.agg #[.int .i64 k, .int .i64 r, .int .i64 c, .int .i64 q, .slice ro rn rc]] u fun e w' => e = .returned (.tuple #[.int .i64 y, .bool z, .int .i64 E]) /\ Below u.heap.size u w'
theorem Askd.below {w w' : World} {fn : Nat} {k r c q : Int} {ro : Option Addr} {rn rc : Nat} {y : Int} {z : Bool} {E : Int} (h : Askd w fn k r c q ro rn rc y z E) (hb : Below w.heap.size w w') : Askd w' fn k r c q ro rn rc y z E := fun u hu => h u (below_then hb hu)
set_option maxHeartbeats 1000000 in
set_option maxRecDepth 100000 in
theorem cwin_any {k r c q : Int} {N W : Nat} {x : Int} (h : Par k r c q N W x) (w : World) (ro : Option Addr) (rn rc : Nat) (A : Nat -> Option Addr) (L C : Nat -> Nat) (F : Nat -> Nat -> UInt8) (hr : Rw w ro rn A L C F) (E : Int) (hE : erR x N c rn L = E) (y : Int) (hy : Cn.rdv E (Cn.wins k (Cn.hP N c L F) (Cn.hQ N c L F) N) 0 = y) (z : Bool) (hz : Cn.rdb E (Cn.wins k (Cn.hP N c L F) (Cn.hQ N c L F) N) 0 = z) : Askd w 17 k r c q ro rn rc y z E := fun u hu => by
  obtain ⟨w0, hw0⟩ : ∃ w0, w0 = u.alloc (.cells #[.int .i64 k, .int .i64 r, .int .i64 c, .int .i64 q, .slice ro rn rc] 53) := ⟨_, rfl⟩
  have b0 : Below u.heap.size u w0 := by rw [hw0]; exact below_alloc _ _
  have HH := Cn.Winner_any h w0 ro rn rc A L C F (hr.below (below_then hu b0)) E hE y hy z hz
  clear hr hE h hy hz
  go_enter Tryz.func17, Tryz.ntmps17
  go_wp2_with fail
  rw [<- hw0]
  refine HH.mono ?_
  rintro e wa ⟨rfl, ha⟩
  have BA : Hid (Below u.heap.size u wa) := below_then b0 ha
  clear ha b0 hw0 HH
  go_wp2_with fail
  refine bodyPost_ret (v := .tuple #[.int .i64 y, .bool z, .int .i64 E]) (by simp [results, Tryz.results17, go_sem]) rfl ?_
  exact ⟨rfl, BA.out⟩
set_option maxHeartbeats 1000000 in
set_option maxRecDepth 100000 in
theorem orNone_any (fn : Nat) (hfn : ∀ xs w, (callFunc fn xs).run Tryz.prog w = .ok (.enter fn xs) w) {k r c q : Int} (w : World) (ro : Option Addr) (rn rc : Nat) (y : Int) (z : Bool) (E : Int) (h : Askd w fn k r c q ro rn rc y z E) :
    Calls Tryz.prog 16 #[.agg #[.int .i64 k, .int .i64 r, .int .i64 c, .int .i64 q], .slice ro rn rc, .func (.func fn) #[] #[]] w fun e w' => e = .returned (.tuple #[.int .i64 y, .int .i64 E]) /\ Below w.heap.size w w' := by
  obtain ⟨w0, hw0⟩ : ∃ w0, w0 = w.alloc (.cells #[.int .i64 k, .int .i64 r, .int .i64 c, .int .i64 q] 23) := ⟨_, rfl⟩
  have b0 : Below w.heap.size w w0 := by rw [hw0]; exact below_alloc _ _
  have HH := h w0 b0
  clear h
  go_enter Tryz.func16, Tryz.ntmps16
  go_wp2_with fail
  rw [<- hw0]
  refine HH.mono ?_
  rintro e wa ⟨rfl, ha⟩
  have BA : Hid (Below w.heap.size w wa) := below_then b0 ha
  clear ha b0 hw0 HH
  go_wp2_with fail
  refine bodyPost_ret (v := .tuple #[.int .i64 y, .int .i64 E]) (by simp [results, Tryz.results16, go_sem]) rfl ?_
  exact ⟨rfl, BA.out⟩
def erOL (E : Int) (z : Bool) : Int := if E = 0 then (if z = true then 0 else 5) else E
def lenO (E : Int) (z : Bool) (y : Int) : Int := if E = 0 /\ z = false then 0 else y
set_option maxHeartbeats 1000000 in
set_option maxRecDepth 100000 in
theorem orLost_any (fn : Nat) (hfn : ∀ xs w, (callFunc fn xs).run Tryz.prog w = .ok (.enter fn xs) w) {k r c q : Int} (w : World) (ro : Option Addr) (rn rc : Nat) (y : Int) (z : Bool) (E : Int) (h : Askd w fn k r c q ro rn rc y z E) :
    Calls Tryz.prog 21 #[.agg #[.int .i64 k, .int .i64 r, .int .i64 c, .int .i64 q], .slice ro rn rc, .func (.func fn) #[] #[]] w fun e w' => e = .returned (.tuple #[.int .i64 (lenO E z y), .int .i64 (erOL E z)]) /\ Below w.heap.size w w' := by
  obtain ⟨w0, hw0⟩ : ∃ w0, w0 = w.alloc (.cells #[.int .i64 k, .int .i64 r, .int .i64 c, .int .i64 q] 23) := ⟨_, rfl⟩
  have b0 : Below w.heap.size w w0 := by rw [hw0]; exact below_alloc _ _
  have HH := h w0 b0
  clear h
  unfold lenO erOL
  by_cases hE : E = 0
  · subst hE
    cases z
    · rw [if_pos ⟨rfl, rfl⟩, if_pos rfl, if_neg (by decide)]
      go_enter Tryz.func21, Tryz.ntmps21
      go_wp2_with fail
      rw [<- hw0]
      refine HH.mono ?_
      rintro e wa ⟨rfl, ha⟩
      have BA : Hid (Below w.heap.size w wa) := below_then b0 ha
      clear ha b0 hw0 HH
      go_wp2_with fail
      refine bodyPost_ret (v := .tuple #[.int .i64 0, .int .i64 5]) (by simp [results, Tryz.results21, go_sem]) rfl ?_
      exact ⟨rfl, BA.out⟩
    · rw [if_neg (fun e => by cases e.2), if_pos rfl, if_pos rfl]
      go_enter Tryz.func21, Tryz.ntmps21
      go_wp2_with fail
      rw [<- hw0]
      refine HH.mono ?_
      rintro e wa ⟨rfl, ha⟩
      have BA : Hid (Below w.heap.size w wa) := below_then b0 ha
      clear ha b0 hw0 HH
      go_wp2_with fail
      refine bodyPost_ret (v := .tuple #[.int .i64 y, .int .i64 0]) (by simp [results, Tryz.results21, go_sem]) rfl ?_
      exact ⟨rfl, BA.out⟩
  · have hz : (E == 0) = false := by simpa using hE
    rw [if_neg (fun e => hE e.1), if_neg hE]
    clear hE
    go_enter Tryz.func21, Tryz.ntmps21
    go_wp2_with fail
    rw [<- hw0]
    refine HH.mono ?_
    rintro e wa ⟨rfl, ha⟩
    have BA : Hid (Below w.heap.size w wa) := below_then b0 ha
    clear ha b0 hw0 HH
    go_wp2_with fail
    refine bodyPost_ret (v := .tuple #[.int .i64 y, .int .i64 E]) (by simp [results, Tryz.results21, go_sem]) rfl ?_
    exact ⟨rfl, BA.out⟩
set_option maxHeartbeats 1000000 in
theorem isRow_any (w : World) (k r c q nu : Int) :
    Calls Tryz.prog 18 #[.agg #[.int .i64 k, .int .i64 r, .int .i64 c, .int .i64 q], .int .i64 nu] w fun e w' => e = .returned (.bool (decide (0 <= nu /\ nu < q))) /\ Below w.heap.size w w' := by
  by_cases h1 : 0 <= nu
  · have e1 : decide (0 <= nu) = true := decide_eq_true h1
    have e2 : decide (0 <= nu /\ nu < q) = decide (nu < q) := by simp [h1]
    rw [e2]
    go_enter Tryz.func18, Tryz.ntmps18
    go_wp2
    go_ret
    exact ⟨rfl, below_alloc _ _⟩
  · have e1 : decide (0 <= nu) = false := decide_eq_false h1
    have e2 : decide (0 <= nu /\ nu < q) = false := decide_eq_false fun h => h1 h.1
    rw [e2]
    go_enter Tryz.func18, Tryz.ntmps18
    go_wp2
    go_ret
    exact ⟨rfl, below_alloc _ _⟩
set_option maxHeartbeats 1000000 in
theorem Point_any {k r c q : Int} {N W : Nat} {x : Int} (h : Par k r c q N W x) (w : World) :
    Calls Tryz.prog 11 #[.agg #[.int .i64 k, .int .i64 r, .int .i64 c, .int .i64 q]] w fun e w' => e = .returned (.tuple #[.int .i64 (if x = 0 then k else 0), .int .i64 x]) /\ Below w.heap.size w w' := by
  have HC := fun w => Check_any k r c q w
  have hx : erP k r c q = x := h.erP
  rw [hx] at HC
  obtain ⟨w0, hw0⟩ : ∃ w0, w0 = w.alloc (.cells #[.int .i64 k, .int .i64 r, .int .i64 c, .int .i64 q] 23) := ⟨_, rfl⟩
  have b0 : Below w.heap.size w w0 := by rw [hw0]; exact below_alloc _ _
  clear h hx
  by_cases e : x = 0
  · subst e
    rw [if_pos rfl]
    go_enter Tryz.func11, Tryz.ntmps11
    go_wp2_with fail
    rw [<- hw0]
    refine (HC _).mono ?_
    rintro e wa ⟨rfl, ha⟩
    have s0 := (par_held hw0 ha).1
    have BA : Hid (Below w.heap.size w wa) := below_then b0 ha
    clear ha hw0
    go_wp2_with fail
    refine bodyPost_ret (v := .tuple #[.int .i64 k, .int .i64 0]) (by simp [results, Tryz.results11, go_sem]) rfl ?_
    exact ⟨rfl, BA.out⟩
  · have hz : (x != 0) = true := by simpa using e
    rw [if_neg e]
    clear e
    go_enter Tryz.func11, Tryz.ntmps11
    go_wp2_with fail
    rw [<- hw0]
    refine (HC _).mono ?_
    rintro e wa ⟨rfl, ha⟩
    have BA : Hid (Below w.heap.size w wa) := below_then b0 ha
    clear ha hw0
    go_wp2_with fail
    refine bodyPost_ret (v := .tuple #[.int .i64 0, .int .i64 x]) (by simp [results, Tryz.results11, go_sem]) rfl ?_
    exact ⟨rfl, BA.out⟩
end Go.Proofs.YtdmpiipllmjloaaGreat
