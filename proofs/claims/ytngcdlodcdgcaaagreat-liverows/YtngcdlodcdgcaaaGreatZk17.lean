import Derived.Test.YtngcdlodcdgcaaaGreatZk16
namespace Go.Proofs.YtngcdlodcdgcaaaGreat.De
open Go.RowKit
theorem _root_.Go.Proofs.YtngcdlodcdgcaaaGreat.Par.fine {k r c q : Int} {N W : Nat} (h : Par k r c q N W 0) : may k r c q = true /\ 32 <= W /\ W <= 768 /\ q <= 256 := by
  have hw := h.wide
  rcases h with ⟨h, h0, _, _⟩ | ⟨_, _, _, h⟩
  · obtain ⟨h1, h2, h3, h4, h5, h6, h7, h8, h9⟩ := may_true h
    exact ⟨h, by omega, hw, h9⟩
  · cases h
theorem rest_any (o l : Nat) (F : Nat -> UInt8) : (!anyB l (fun j => !decide (F (o + j) = 0))) = decide (∀ j, j < o + l -> o <= j -> F j = 0) := by
  unfold anyB
  rw [Bool.not_not]
  apply decide_eq_decide.2
  constructor
  · intro h j hj ho
    have : (!decide (F (o + (j - o)) = 0)) = false := h (j - o) (by omega)
    rw [show o + (j - o) = j by omega] at this
    simpa using this
  · intro h i hi
    have := h (o + i) (by omega) (by omega)
    simpa using this
theorem okD_made {k r c q : Int} {N W : Nat} (h : Par k r c q N W 0) {len : Int} {s d x nn : Nat} {er : Int} (h' : Made k r c q len W s d x nn er) (dep : Int) (n : Nat) (R V : Nat -> Int) :
    okD W q len dep n R V = (decide (er = 0 /\ dep = (d : Int) /\ (n : Int) = ((cns d s x : Nat) : Int)) && okL q n R V) := by
  obtain ⟨hm, _⟩ := h.fine
  unfold okD
  rw [show okL q n R V = decide (okL q n R V = true) by simp, <- Bool.decide_and]
  apply decide_eq_decide.2
  rw [show decide (okL q n R V = true) = okL q n R V by simp]
  rcases h' with ⟨_, h1, h2, h3, h4, h5, _, rfl⟩ | ⟨h1, rfl, rfl, rfl, _, rfl⟩ | ⟨_, _, h2, rfl, rfl, rfl, _, rfl⟩
  · have e1 : dpt W (up len.toNat W) = d := by unfold dpt; rw [<- h3, <- h4, h5]
    have e2 : cntD W (up len.toNat W) = cns d s x := by
      unfold cntD cns
      rw [<- h3, <- h4]
      by_cases hx : x = 0
      · rw [if_pos hx, if_pos (by omega)]
      · rw [if_neg hx, if_neg (by omega)]
    rw [e1, e2]
    constructor
    · rintro ⟨_, _, a, b, c⟩; exact ⟨⟨rfl, a, by omega⟩, c⟩
    · rintro ⟨⟨_, a, b⟩, c⟩; exact ⟨h1, h2, a, by omega, c⟩
  · constructor
    · rintro ⟨a, _⟩
      rcases h1 with h1 | h1
      · rw [hm] at h1; cases h1
      · omega
    · rintro ⟨⟨a, _⟩, _⟩; cases a
  · constructor
    · rintro ⟨_, a, _⟩; omega
    · rintro ⟨⟨a, _⟩, _⟩; cases a
theorem cns_few {k r c q : Int} {N W : Nat} (h : Par k r c q N W 0) {len : Int} {s d x nn : Nat} {er : Int} (h' : Made k r c q len W s d x nn er) : cns d s x <= dir W := by
  obtain ⟨_, hW, _, _⟩ := h.fine
  rcases h' with ⟨_, h1, h2, h3, h4, h5, _, rfl⟩ | ⟨h1, rfl, rfl, rfl, _, rfl⟩ | ⟨_, _, h2, rfl, rfl, rfl, _, rfl⟩
  · have := cntD_few (W := W) (len := len.toNat) hW (by omega)
    unfold cntD at this
    unfold cns
    rw [<- h3, <- h4] at this
    by_cases hx : x = 0
    · rw [if_pos hx] at this; rw [if_pos (by omega)]; exact this
    · rw [if_neg hx] at this; rw [if_neg (by omega)]; exact this
  · exact Nat.zero_le _
  · exact Nat.zero_le _
theorem isD_made {k r c q : Int} {N W : Nat} (h : Par k r c q N W 0) (F : Nat -> UInt8) {s d x nn : Nat} {er : Int} (h' : Made k r c q ((nm F 0 4 : Nat) : Int) W s d x nn er) (m : Nat) (hm : m = min (nm F 5 2) (dir W)) :
    isD W q F = (decide (er = 0 /\ ((nm F 4 1 : Nat) : Int) = (d : Int) /\ ((nm F 5 2 : Nat) : Int) = ((cns d s x : Nat) : Int)) && (okL q m (rdR F 7) (rdV F 7) && !anyB (W - 7 - 6 * m) (fun j => !decide (F (7 + 6 * m + j) = 0)))) := by
  obtain ⟨_, hW, _, _⟩ := h.fine
  have hd := dir_room hW
  unfold isD
  rw [okD_made h h', Bool.decide_and, rest_any]
  have hf := cns_few h h'
  by_cases hc : er = 0 /\ ((nm F 4 1 : Nat) : Int) = (d : Int) /\ ((nm F 5 2 : Nat) : Int) = ((cns d s x : Nat) : Int)
  · have e : m = nm F 5 2 := by omega
    rw [decide_eq_true hc, e]
    simp only [Bool.true_and]
    rw [show decide (okL q (nm F 5 2) (rdR F 7) (rdV F 7) = true) = okL q (nm F 5 2) (rdR F 7) (rdV F 7) by simp]
    congr 1
    apply decide_eq_decide.2
    rw [show 7 + 6 * nm F 5 2 + (W - 7 - 6 * nm F 5 2) = W by omega]
  · rw [decide_eq_false hc]; simp
theorem isL_made (W : Nat) (q : Int) (F : Nat -> UInt8) (n : Nat) (hn : 6 * n <= W) : isL W q n F = (okL q n (rdR F 0) (rdV F 0) && !anyB (W - 6 * n) (fun j => !decide (F (6 * n + j) = 0))) := by
  unfold isL
  rw [Bool.decide_and, rest_any, show 6 * n + (W - 6 * n) = W by omega]
  simp
set_option maxHeartbeats 1000000 in
set_option maxRecDepth 100000 in
theorem checkWidth_any {k r c q : Int} {N W : Nat} {y : Int} (h : Par k r c q N W y) (bo : Option Addr) (n bc : Nat) (w : World) :
    Calls Tryz.prog 103 #[.agg #[.int .i64 k, .int .i64 r, .int .i64 c, .int .i64 q], .slice bo n bc] w fun e w' => e = .returned (.int .i64 (if y = 0 then (if n = W then 0 else 20) else y)) /\ Below w.heap.size w w' := by
  have HW := fun w => Width_any h w
  have he := h.err
  clear h
  obtain ⟨w0, hw0⟩ : ∃ w0, w0 = w.alloc (.cells #[.int .i64 k, .int .i64 r, .int .i64 c, .int .i64 q] 23) := ⟨_, rfl⟩
  have b0 : Below w.heap.size w w0 := by rw [hw0]; exact below_alloc _ _
  rcases he with rfl | rfl
  · rw [if_pos rfl]
    by_cases hn : n = W
    · rw [if_pos hn]
      have hn2 : ((n : Int) != (W : Int)) = false := by rw [hn]; simp
      clear hn
      go_enter Tryz.func103, Tryz.ntmps103
      go_wp2_with fail
      rw [<- hw0]
      refine (HW _).mono ?_
      rintro e wa ⟨rfl, ha⟩
      clear hw0
      go_wp2_with fail
      go_ret
      exact ⟨rfl, below_then b0 ha⟩
    · rw [if_neg hn]
      have hn2 : ((n : Int) != (W : Int)) = true := by simpa using (by omega : ¬ (n : Int) = (W : Int))
      clear hn
      go_enter Tryz.func103, Tryz.ntmps103
      go_wp2_with fail
      rw [<- hw0]
      refine (HW _).mono ?_
      rintro e wa ⟨rfl, ha⟩
      clear hw0
      go_wp2_with fail
      go_ret
      exact ⟨rfl, below_then b0 ha⟩
  · rw [if_neg (by decide)]
    go_enter Tryz.func103, Tryz.ntmps103
    go_wp2_with fail
    rw [<- hw0]
    refine (HW _).mono ?_
    rintro e wa ⟨rfl, ha⟩
    clear hw0
    go_wp2_with fail
    go_ret
    exact ⟨rfl, below_then b0 ha⟩
end Go.Proofs.YtngcdlodcdgcaaaGreat.De
namespace Go.Proofs.YtngcdlodcdgcaaaGreat.De
open Go.RowKit
theorem lenE_not {E : Int} (h : E ≠ 0) (n : Nat) : lenE E n = 0 := if_neg h
end Go.Proofs.YtngcdlodcdgcaaaGreat.De
namespace Go.Proofs.YtngcdlodcdgcaaaGreat
open Go.RowKit
set_option maxHeartbeats 400000 in
set_option maxRecDepth 100000 in
theorem Leaf_any {k r c q : Int} {N W : Nat} {x : Int} (h : Par k r c q N W x) (w : World) :
    Calls Tryz.prog 78 #[.agg #[.int .i64 k, .int .i64 r, .int .i64 c, .int .i64 q]] w fun e w' => e = .returned (.tuple #[.int .i64 ((lea W : Nat) : Int), .int .i64 x]) /\ Below w.heap.size w w' := by
  have HC := fun w => measure_any h w
  clear h
  generalize dir W = d at *
  generalize lea W = l at *
  generalize mst W = m at *
  obtain ⟨w0, hw0⟩ : ∃ w0, w0 = w.alloc (.cells #[.int .i64 k, .int .i64 r, .int .i64 c, .int .i64 q] 23) := ⟨_, rfl⟩
  have b0 : Below w.heap.size w w0 := by rw [hw0]; exact below_alloc _ _
  go_enter Tryz.func78, Tryz.ntmps78
  go_wp2_with fail
  rw [<- hw0]
  refine (HC _).mono ?_
  rintro e wa ⟨rfl, ha⟩
  go_wp2_with fail
  go_ret2
  exact ⟨rfl, have hB := below_then b0 ha; hB.alloc hB.size _⟩
end Go.Proofs.YtngcdlodcdgcaaaGreat
namespace Go.Proofs.YtngcdlodcdgcaaaGreat.De
open Go.RowKit
end Go.Proofs.YtngcdlodcdgcaaaGreat.De
namespace Go.Proofs.YtngcdlodcdgcaaaGreat.De
open Go.RowKit
set_option maxHeartbeats 1000000 in
set_option maxRecDepth 100000 in
theorem checkMany_any {k r c q : Int} {N W : Nat} {y : Int} (h : Par k r c q N W y) (many : Int) (w : World) :
    Calls Tryz.prog 108 #[.agg #[.int .i64 k, .int .i64 r, .int .i64 c, .int .i64 q], .int .i64 many] w fun e w' => e = .returned (.int .i64 (if y = 0 then (if many < 1 \/ ((lea W : Nat) : Int) < many then 20 else 0) else y)) /\ Below w.heap.size w w' := by
  have HW := fun w => Leaf_any h w
  have he := h.err
  clear h
  generalize lea W = l at *
  obtain ⟨w0, hw0⟩ : ∃ w0, w0 = w.alloc (.cells #[.int .i64 k, .int .i64 r, .int .i64 c, .int .i64 q] 23) := ⟨_, rfl⟩
  have b0 : Below w.heap.size w w0 := by rw [hw0]; exact below_alloc _ _
  rcases he with rfl | rfl
  · rw [if_pos rfl]
    by_cases h1 : many < 1
    · rw [if_pos (.inl h1)]
      go_enter Tryz.func108, Tryz.ntmps108
      go_wp2_with fail
      rw [<- hw0]
      refine (HW _).mono ?_
      rintro e wa ⟨rfl, ha⟩
      clear hw0
      go_wp2_with fail
      go_ret
      exact ⟨rfl, below_then b0 ha⟩
    · by_cases h2 : (l : Int) < many
      · rw [if_pos (.inr h2)]
        go_enter Tryz.func108, Tryz.ntmps108
        go_wp2_with fail
        rw [<- hw0]
        refine (HW _).mono ?_
        rintro e wa ⟨rfl, ha⟩
        clear hw0
        go_wp2_with fail
        go_ret
        exact ⟨rfl, below_then b0 ha⟩
      · rw [if_neg (by omega)]
        go_enter Tryz.func108, Tryz.ntmps108
        go_wp2_with fail
        rw [<- hw0]
        refine (HW _).mono ?_
        rintro e wa ⟨rfl, ha⟩
        clear hw0
        go_wp2_with fail
        go_ret
        exact ⟨rfl, below_then b0 ha⟩
  · rw [if_neg (by decide)]
    go_enter Tryz.func108, Tryz.ntmps108
    go_wp2_with fail
    rw [<- hw0]
    refine (HW _).mono ?_
    rintro e wa ⟨rfl, ha⟩
    clear hw0
    go_wp2_with fail
    go_ret
    exact ⟨rfl, below_then b0 ha⟩
def AnsR (w : World) (E : Int) (n : Nat) (R V : Nat -> Int) (e : Ending) (w' : World) : Prop :=
  ∃ ao cp, e = .returned (.tuple #[.slice ao (lenE E n) cp, .int .i64 E]) /\ OwR w.heap.size w' ao (lenE E n) cp R V /\ Below w.heap.size w w'
set_option maxHeartbeats 4000000 in
set_option maxRecDepth 100000 in
theorem Refs_ok {k r c q : Int} {N W : Nat} (h : Par k r c q N W 0) (w : World) (bo : Option Addr) (bc : Nat) (F : Nat -> UInt8) (hB : Bec w bo W bc F) (n : Nat) (h1 : 1 <= n) (h2 : n <= lea W) (E : Int) (hE : (if isL W q n F = true then (0 : Int) else 150) = E) :
    Calls Tryz.prog 79 #[.agg #[.int .i64 k, .int .i64 r, .int .i64 c, .int .i64 q], .slice bo W bc, .int .i64 (n : Int)] w (AnsR w E n (rdR F 0) (rdV F 0)) := by
  obtain ⟨hmy, hW, hW2, hq⟩ := h.fine
  have hll := lea_le hW2
  have hlr := lea_room W
  have HC1 := fun v => checkWidth_any h bo W bc v
  rw [if_pos rfl, if_pos rfl] at HC1
  have HC2 := fun v => checkMany_any h (n : Int) v
  rw [if_pos rfl, if_neg (by omega)] at HC2
  have HL := fun v hv => readLeaf_any v bo W bc n F hv (by omega) (by omega)
  have HF := fun v ro rc uo hr hu => fw_leaf h v 0 0 0 ro n rc (rdR F 0) (rdV F 0) hr (by omega) uo (W - 6 * n) (bc - 6 * n) (fun j => F (6 * n + j)) hu (by omega)
  rw [<- isL_made W q F n (by omega)] at HF
  have HB : Hid (Bec w bo W bc F) := hB
  have HE : Hid ((if isL W q n F = true then (0 : Int) else 150) = E) := hE
  clear h hB hE hmy hq hll hlr
  unfold AnsR
  generalize isL W q n F = ok at *
  obtain ⟨w0, hw0⟩ : ∃ w0, w0 = w.alloc (.cells #[.int .i64 k, .int .i64 r, .int .i64 c, .int .i64 q] 23) := ⟨_, rfl⟩
  have b0 : Below w.heap.size w w0 := by rw [hw0]; exact below_alloc _ _
  have HP : Hid (∀ u, Below w0.heap.size w0 u -> u.cell? ⟨w.heap.size, 0, none⟩ = some (.int .i64 k) /\ u.cell? ⟨w.heap.size, 1, none⟩ = some (.int .i64 r) /\ u.cell? ⟨w.heap.size, 2, none⟩ = some (.int .i64 c) /\ u.cell? ⟨w.heap.size, 3, none⟩ = some (.int .i64 q)) := fun u hu => par_held hw0 hu
  have HBB : Hid (Below w.heap.size w w0) := b0
  cases ok
  · obtain rfl : (150 : Int) = E := HE.out
    rw [lenE_not (by decide)]
    go_enter Tryz.func79, Tryz.ntmps79
    go_wp2_with fail
    rw [<- hw0]
    clear hw0 b0
    refine (HC1 _).mono ?_
    rintro e wa ⟨rfl, ha⟩
    obtain ⟨s0, s1, s2, s3⟩ := HP.out wa ha
    go_wp2_with fail
    refine (HC2 _).mono ?_
    rintro e wb ⟨rfl, hb⟩
    have k2 := below_then ha hb
    clear s0 s1 s2 s3
    go_wp2_with fail
    refine (HL _ (HB.out.below (below_then HBB.out k2))).mono ?_
    rintro e wc ⟨ro, rc, uo, rfl, hown, hrest, hc⟩
    obtain ⟨wd, hwd⟩ : ∃ wd, wd = wc.alloc (.cells #[.int .i64 0, .int .i64 0, .int .i64 0, .slice ro n rc, .slice uo (W - 6 * n) (bc - 6 * n)] 171) := ⟨_, rfl⟩
    have bd : Below wc.heap.size wc wd := by rw [hwd]; exact below_alloc _ _
    have k4 : Below w0.heap.size w0 wd := below_then (below_then k2 hc) bd
    have hor := (hown.below bd).mono (below_then HBB.out k2).size
    have HO : Hid (OwR w.heap.size wd ro n rc (rdR F 0) (rdV F 0)) := hor
    have HRS : Hid (RdU wd uo (W - 6 * n) (fun j => F (6 * n + j))) := (hrest wd (HB.out.below (below_then HBB.out k4))).rd
    have c3 : ∀ u, Below wd.heap.size wd u -> u.cell? ⟨wc.heap.size, 3, none⟩ = some (.slice ro n rc) := fun u hu => blk_held hwd hu 3 rfl
    have HC3 : Hid (∀ u, Below wd.heap.size wd u -> u.cell? ⟨wc.heap.size, 3, none⟩ = some (.slice ro n rc)) := c3
    obtain ⟨⟨m0, m1, m2, m3, m4⟩, _⟩ := con_held hwd (Below.refl _ _)
    obtain ⟨s0, s1, s2, s3⟩ := HP.out (wc.alloc (.cells #[.int .i64 0, .int .i64 0, .int .i64 0, .slice ro n rc, .slice uo (W - 6 * n) (bc - 6 * n)] 171)) (by rw [<- hwd]; exact k4)
    have HK4 : Hid (Below w0.heap.size w0 wd) := k4
    clear ha hb hc k2 k4 bd hown hor hrest c3
    go_wp2_with fail
    rw [<- hwd]
    clear hwd
    refine (HF wd ro rc uo HO.out.rec.rd HRS.out).mono ?_
    rintro e we ⟨pt, rfl, hpt, he⟩
    have HPT : Hid ((if pt = 5 then (0 : Int) else 150) = 150) := if_neg (by simpa using hpt)
    have HK5 : Hid (Below wd.heap.size wd we) := he
    have x3 := HC3.out we he
    clear he hpt s0 s1 s2 s3
    go_wp2_with fail
    refine (err_any pt _).mono ?_
    rintro e wf ⟨rfl, hwf⟩
    obtain rfl := hwf.symm
    rw [HPT.out]
    go_wp2_with fail
    go_ret2
    exact ⟨none, 0, rfl, owr_nil _ _ _ _, below_then (below_then HBB.out HK4.out) HK5.out⟩
  · obtain rfl : (0 : Int) = E := HE.out
    rw [lenE_zero]
    go_enter Tryz.func79, Tryz.ntmps79
    go_wp2_with fail
    rw [<- hw0]
    clear hw0 b0
    refine (HC1 _).mono ?_
    rintro e wa ⟨rfl, ha⟩
    obtain ⟨s0, s1, s2, s3⟩ := HP.out wa ha
    go_wp2_with fail
    refine (HC2 _).mono ?_
    rintro e wb ⟨rfl, hb⟩
    have k2 := below_then ha hb
    clear s0 s1 s2 s3
    go_wp2_with fail
    refine (HL _ (HB.out.below (below_then HBB.out k2))).mono ?_
    rintro e wc ⟨ro, rc, uo, rfl, hown, hrest, hc⟩
    obtain ⟨wd, hwd⟩ : ∃ wd, wd = wc.alloc (.cells #[.int .i64 0, .int .i64 0, .int .i64 0, .slice ro n rc, .slice uo (W - 6 * n) (bc - 6 * n)] 171) := ⟨_, rfl⟩
    have bd : Below wc.heap.size wc wd := by rw [hwd]; exact below_alloc _ _
    have k4 : Below w0.heap.size w0 wd := below_then (below_then k2 hc) bd
    have hor := (hown.below bd).mono (below_then HBB.out k2).size
    have HO : Hid (OwR w.heap.size wd ro n rc (rdR F 0) (rdV F 0)) := hor
    have HRS : Hid (RdU wd uo (W - 6 * n) (fun j => F (6 * n + j))) := (hrest wd (HB.out.below (below_then HBB.out k4))).rd
    have c3 : ∀ u, Below wd.heap.size wd u -> u.cell? ⟨wc.heap.size, 3, none⟩ = some (.slice ro n rc) := fun u hu => blk_held hwd hu 3 rfl
    have HC3 : Hid (∀ u, Below wd.heap.size wd u -> u.cell? ⟨wc.heap.size, 3, none⟩ = some (.slice ro n rc)) := c3
    obtain ⟨⟨m0, m1, m2, m3, m4⟩, _⟩ := con_held hwd (Below.refl _ _)
    obtain ⟨s0, s1, s2, s3⟩ := HP.out (wc.alloc (.cells #[.int .i64 0, .int .i64 0, .int .i64 0, .slice ro n rc, .slice uo (W - 6 * n) (bc - 6 * n)] 171)) (by rw [<- hwd]; exact k4)
    have HK4 : Hid (Below w0.heap.size w0 wd) := k4
    clear ha hb hc k2 k4 bd hown hor hrest c3
    go_wp2_with fail
    rw [<- hwd]
    clear hwd
    refine (HF wd ro rc uo HO.out.rec.rd HRS.out).mono ?_
    rintro e we ⟨pt, rfl, hpt, he⟩
    have HPT : Hid ((if pt = 5 then (0 : Int) else 150) = 0) := if_pos (by simpa using hpt)
    have HK5 : Hid (Below wd.heap.size wd we) := he
    have x3 := HC3.out we he
    clear he hpt s0 s1 s2 s3
    go_wp2_with fail
    refine (err_any pt _).mono ?_
    rintro e wf ⟨rfl, hwf⟩
    obtain rfl := hwf.symm
    rw [HPT.out]
    go_wp2_with fail
    go_ret2
    exact ⟨ro, rc, rfl, HO.out.below HK5.out, below_then (below_then HBB.out HK4.out) HK5.out⟩
set_option maxHeartbeats 4000000 in
set_option maxRecDepth 100000 in
theorem Refs_no1 {k r c q : Int} {N W : Nat} {y : Int} (h : Par k r c q N W y) (w : World) (bo : Option Addr) (m bc : Nat) (n : Int) (E : Int) (hE : (if y = 0 then (if m = W then (0 : Int) else 20) else y) = E) (hne : E ≠ 0) (t : Nat) (R V : Nat -> Int) :
    Calls Tryz.prog 79 #[.agg #[.int .i64 k, .int .i64 r, .int .i64 c, .int .i64 q], .slice bo m bc, .int .i64 n] w (AnsR w E t R V) := by
  have HC := fun v => checkWidth_any h bo m bc v
  rw [hE] at HC
  have hz2 : (E != 0) = true := by simpa using hne
  unfold AnsR
  rw [lenE_not hne]
  clear h hE hne
  obtain ⟨w0, hw0⟩ : ∃ w0, w0 = w.alloc (.cells #[.int .i64 k, .int .i64 r, .int .i64 c, .int .i64 q] 23) := ⟨_, rfl⟩
  have b0 : Below w.heap.size w w0 := by rw [hw0]; exact below_alloc _ _
  go_enter Tryz.func79, Tryz.ntmps79
  go_wp2_with fail
  rw [<- hw0]
  refine (HC _).mono ?_
  rintro e wa ⟨rfl, ha⟩
  clear hw0
  go_wp2_with fail
  go_ret2
  exact ⟨none, 0, rfl, owr_nil _ _ _ _, below_then b0 ha⟩
set_option maxHeartbeats 4000000 in
set_option maxRecDepth 100000 in
theorem Refs_no2 {k r c q : Int} {N W : Nat} (h : Par k r c q N W 0) (w : World) (bo : Option Addr) (bc : Nat) (n : Int) (hn : n < 1 \/ ((lea W : Nat) : Int) < n) (t : Nat) (R V : Nat -> Int) :
    Calls Tryz.prog 79 #[.agg #[.int .i64 k, .int .i64 r, .int .i64 c, .int .i64 q], .slice bo W bc, .int .i64 n] w (AnsR w 20 t R V) := by
  have HC1 := fun v => checkWidth_any h bo W bc v
  rw [if_pos rfl, if_pos rfl] at HC1
  have HC2 := fun v => checkMany_any h n v
  rw [if_pos rfl, if_pos hn] at HC2
  unfold AnsR
  rw [lenE_not (by decide)]
  clear h hn
  obtain ⟨w0, hw0⟩ : ∃ w0, w0 = w.alloc (.cells #[.int .i64 k, .int .i64 r, .int .i64 c, .int .i64 q] 23) := ⟨_, rfl⟩
  have b0 : Below w.heap.size w w0 := by rw [hw0]; exact below_alloc _ _
  go_enter Tryz.func79, Tryz.ntmps79
  go_wp2_with fail
  rw [<- hw0]
  refine (HC1 _).mono ?_
  rintro e wa ⟨rfl, ha⟩
  obtain ⟨s0, s1, s2, s3⟩ := par_held hw0 ha
  clear hw0
  go_wp2_with fail
  refine (HC2 _).mono ?_
  rintro e wb ⟨rfl, hb⟩
  go_wp2_with fail
  go_ret2
  exact ⟨none, 0, rfl, owr_nil _ _ _ _, below_then (below_then b0 ha) hb⟩
theorem Refs_any {k r c q : Int} {N W : Nat} {y : Int} (h : Par k r c q N W y) (w : World) (bo : Option Addr) (m bc : Nat) (F : Nat -> UInt8) (hB : Bec w bo m bc F) (n : Int) (E : Int) (hE : erR y W q m n F = E) :
    Calls Tryz.prog 79 #[.agg #[.int .i64 k, .int .i64 r, .int .i64 c, .int .i64 q], .slice bo m bc, .int .i64 n] w (AnsR w E n.toNat (rdR F 0) (rdV F 0)) := by
  unfold erR at hE
  rcases h.err with rfl | rfl
  · rw [if_pos rfl] at hE
    by_cases hm : m = W
    · rw [if_pos hm] at hE
      subst hm
      by_cases hn : n < 1 \/ ((lea m : Nat) : Int) < n
      · rw [if_pos hn] at hE
        subst hE
        exact Refs_no2 h w bo bc n hn _ _ _
      · rw [if_neg hn] at hE
        obtain ⟨t, rfl⟩ : ∃ t : Nat, n = (t : Int) := ⟨n.toNat, by omega⟩
        rw [Int.toNat_natCast] at hE ⊢
        exact Refs_ok h w bo bc F hB t (by omega) (by omega) E hE
    · rw [if_neg hm] at hE
      exact Refs_no1 h w bo m bc n E (by rw [if_pos rfl, if_neg hm]; exact hE) (by rw [<- hE]; decide) _ _ _
  · rw [if_neg (by decide)] at hE
    exact Refs_no1 h w bo m bc n E (by rw [if_neg (by decide)]; exact hE) (by rw [<- hE]; decide) _ _ _
end Go.Proofs.YtngcdlodcdgcaaaGreat.De
