import Derived.Test.YtdmpiipllmjloaaGreatPj45
namespace Go.Proofs.YtdmpiipllmjloaaGreat.De
open Go.RowKit
theorem Made.zero {k r c q len : Int} {W s d x n : Nat} {e : Int} (h : Made k r c q len W s d x n e) : (e = 0 /\ d <= 1) \/ (e ≠ 0 /\ s = 0 /\ d = 0 /\ x = 0) := by
  rcases h with ⟨_, _, _, _, _, h, _, rfl⟩ | ⟨_, rfl, rfl, rfl, _, rfl⟩ | ⟨_, _, _, rfl, rfl, rfl, _, rfl⟩
  · exact .inl ⟨rfl, by omega⟩
  · exact .inr ⟨by decide, rfl, rfl, rfl⟩
  · exact .inr ⟨by decide, rfl, rfl, rfl⟩
def cns (d s x : Nat) : Nat := if d = 0 then s else x
set_option maxHeartbeats 1000000 in
set_option maxRecDepth 100000 in
theorem dshape_any {k r c q : Int} {N W : Nat} {y : Int} (h : Par k r c q N W y) {len : Int} {s d x n : Nat} {e : Int} (h' : Made k r c q len W s d x n e) (w : World) :
    Calls Tryz.prog 79 #[.agg #[.int .i64 k, .int .i64 r, .int .i64 c, .int .i64 q], .int .i64 len] w fun e' w' => e' = .returned (.tuple #[.int .i64 (d : Int), .int .i64 ((cns d s x : Nat) : Int), .int .i64 e]) /\ Below w.heap.size w w' := by
  have HD := fun w => Depth_any h h' w
  have HS := fun w => Stripes_any h h' w
  have HL := fun w => Leaves_any h h' w
  have hz := h'.zero
  have HN : Hid (cns d s x = if d = 0 then s else x) := rfl
  clear h h'
  obtain ⟨w0, hw0⟩ : ∃ w0, w0 = w.alloc (.cells #[.int .i64 k, .int .i64 r, .int .i64 c, .int .i64 q] 23) := ⟨_, rfl⟩
  have b0 : Below w.heap.size w w0 := by rw [hw0]; exact below_alloc _ _
  rcases hz with ⟨rfl, hd⟩ | ⟨he, rfl, rfl, rfl⟩
  · by_cases hd0 : d = 0
    · subst hd0
      go_enter Tryz.func79, Tryz.ntmps79
      go_wp2_with fail
      rw [<- hw0]
      refine (HD _).mono ?_
      rintro e wa ⟨rfl, ha⟩
      obtain ⟨s0, s1, s2, s3⟩ := par_held hw0 ha
      clear hw0
      go_wp2_with fail
      refine (HS _).mono ?_
      rintro e wb ⟨rfl, hb⟩
      go_wp2_with fail
      refine bodyPost_ret (v := .tuple #[.int .i64 0, .int .i64 (s : Int), .int .i64 0]) (by simp [results, Tryz.results79, go_sem]) rfl ⟨?_, below_then (below_then b0 ha) hb⟩
      rfl
    · obtain rfl : d = 1 := by omega
      go_enter Tryz.func79, Tryz.ntmps79
      go_wp2_with fail
      rw [<- hw0]
      refine (HD _).mono ?_
      rintro e wa ⟨rfl, ha⟩
      obtain ⟨s0, s1, s2, s3⟩ := par_held hw0 ha
      clear hw0
      go_wp2_with fail
      refine (HL _).mono ?_
      rintro e wb ⟨rfl, hb⟩
      go_wp2_with fail
      refine bodyPost_ret (v := .tuple #[.int .i64 1, .int .i64 (x : Int), .int .i64 0]) (by simp [results, Tryz.results79, go_sem]) rfl ⟨?_, below_then (below_then b0 ha) hb⟩
      rw [HN.out, if_neg (by decide)]; rfl
  · have he2 : (e != 0) = true := by simpa using he
    go_enter Tryz.func79, Tryz.ntmps79
    go_wp2_with fail
    rw [<- hw0]
    refine (HD _).mono ?_
    rintro e wa ⟨rfl, ha⟩
    clear hw0
    go_wp2_with fail
    refine bodyPost_ret (v := .tuple #[.int .i64 0, .int .i64 0, .int .i64 _]) (by simp [results, Tryz.results79, go_sem]) rfl ⟨rfl, below_then b0 ha⟩
set_option maxHeartbeats 1000000 in
theorem err_any (pt : Int) (w : World) : Calls Tryz.prog 46 #[.int .i64 pt] w fun e w' => e = .returned (.int .i64 (if pt = 5 then 0 else 150)) /\ w' = w := by
  by_cases h : pt = 5
  · subst h
    rw [if_pos rfl]
    go_enter Tryz.func46, Tryz.ntmps46
    go_wp2
    go_ret
    exact ⟨rfl, rfl⟩
  · rw [if_neg h]
    have h2 : (pt == 5) = false := by simpa using h
    go_enter Tryz.func46, Tryz.ntmps46
    go_wp2
    go_ret
    exact ⟨rfl, rfl⟩
set_option maxHeartbeats 4000000 in
set_option maxRecDepth 100000 in
theorem fw_desc {k r c q : Int} {N W : Nat} {y : Int} (h : Par k r c q N W y) {len : Int} {s d x nn : Nat} {er : Int} (h' : Made k r c q len W s d x nn er) (w : World) (dep many : Int) (ro : Option Addr) (n rc : Nat) (R V : Nat -> Int) (hR : RdR w ro n R V) (hn : many = ((cns d s x : Nat) : Int) -> n <= 1000) (bo : Option Addr) (l bc : Nat) (F : Nat -> UInt8) (hB : RdU w bo l F) (hl : l <= 1000) :
    Calls Tryz.prog 45 #[.agg #[.int .i64 len, .int .i64 dep, .int .i64 many, .slice ro n rc, .slice bo l bc], .agg #[.int .i64 k, .int .i64 r, .int .i64 c, .int .i64 q], .int .i64 0] w fun e w' => ∃ pt : Int, e = .returned (.int .i64 pt) /\ decide (pt = 5) = (decide (er = 0 /\ dep = (d : Int) /\ many = ((cns d s x : Nat) : Int)) && (okL q n R V && !anyB l (fun j => !decide (F j = 0)))) /\ Below w.heap.size w w' := by
  have HS := fun w => dshape_any h h' w
  generalize cns d s x = cn at *
  have HR : Hid (RdR w ro n R V) := hR
  have HB : Hid (RdU w bo l F) := hB
  have HL : Hid (anyB n (fun i => !okR q (R i) (V i)) = !okL q n R V) := okL_any q n R V
  have HCR : Hid (many = (cn : Int) -> ∀ v pb, RdR v ro n R V -> (∀ u, Below v.heap.size v u -> u.cell? ⟨pb, 0, none⟩ = some (.int .i64 k) /\ u.cell? ⟨pb, 1, none⟩ = some (.int .i64 r) /\ u.cell? ⟨pb, 2, none⟩ = some (.int .i64 c) /\ u.cell? ⟨pb, 3, none⟩ = some (.int .i64 q)) -> Calls Tryz.prog 80 #[.slice ro n rc, .func (.func 81) #[] #[.pointer (some ⟨pb, 0, none⟩)]] v fun e w' => e = .returned (.bool (!okL q n R V)) /\ Below v.heap.size v w') := fun hmc v pb hv hp => by
    have := containsR_any v ro n rc 81 #[.pointer (some ⟨pb, 0, none⟩)] R V (fun i => !okR q (R i) (V i)) (hn hmc) (fun _ _ => rfl) hv (fun i hi u hu => by
      obtain ⟨p0, p1, p2, p3⟩ := hp u hu
      exact notMay_any k r c q (R i) (V i) pb u p0 p1 p2 p3)
    rw [HL.out] at this
    exact this
  have HCB : Hid (∀ v, RdU v bo l F -> Calls Tryz.prog 83 #[.slice bo l bc, .func (.func 84) #[] #[]] v fun e w' => e = .returned (.bool (anyB l (fun j => !decide (F j = 0)))) /\ Below v.heap.size v w') := fun v hv => containsB_any v bo l bc 84 #[] F _ hl (fun _ _ => rfl) hv (fun i hi u hu => notZero_any (F i) u)
  clear h h' hR hB HL hn
  generalize okL q n R V = ok at *
  generalize anyB l (fun j => !decide (F j = 0)) = z at *
  obtain ⟨w0, hw0⟩ : ∃ w0, w0 = w.alloc (.cells #[.int .i64 len, .int .i64 dep, .int .i64 many, .slice ro n rc, .slice bo l bc] 102) := ⟨_, rfl⟩
  obtain ⟨w1, hw1⟩ : ∃ w1, w1 = w0.alloc (.cells #[.int .i64 k, .int .i64 r, .int .i64 c, .int .i64 q] 23) := ⟨_, rfl⟩
  have b0 : Below w.heap.size w w0 := by rw [hw0]; exact below_alloc _ _
  have b1 : Below w0.heap.size w0 w1 := by rw [hw1]; exact below_alloc _ _
  have z0 : w0.heap.size = w.heap.size + 1 := by rw [hw0]; simp
  have HP : Hid (∀ u, Below w1.heap.size w1 u -> u.cell? ⟨w.heap.size + 1, 0, none⟩ = some (.int .i64 k) /\ u.cell? ⟨w.heap.size + 1, 1, none⟩ = some (.int .i64 r) /\ u.cell? ⟨w.heap.size + 1, 2, none⟩ = some (.int .i64 c) /\ u.cell? ⟨w.heap.size + 1, 3, none⟩ = some (.int .i64 q)) := fun u hu => by have := par_held hw1 hu; rw [z0] at this; exact this
  have HC : Hid (∀ u, Below w1.heap.size w1 u -> u.cell? ⟨w.heap.size, 0, none⟩ = some (.int .i64 len) /\ u.cell? ⟨w.heap.size, 1, none⟩ = some (.int .i64 dep) /\ u.cell? ⟨w.heap.size, 2, none⟩ = some (.int .i64 many) /\ u.cell? ⟨w.heap.size, 3, none⟩ = some (.slice ro n rc) /\ u.cell? ⟨w.heap.size, 4, none⟩ = some (.slice bo l bc)) := fun u hu => mea_held hw0 (below_then b1 hu)
  have HBB : Hid (Below w.heap.size w w1) := below_then b0 b1
  obtain ⟨p0, p1, p2, p3⟩ := HP.out _ (Below.refl _ _)
  obtain ⟨c0, c1, c2, c3, c4⟩ := HC.out _ (Below.refl _ _)
  by_cases he : er = 0
  · have he2 : (er != 0) = false := by simpa using he
    by_cases hd : dep = (d : Int)
    · have hd2 : (dep != (d : Int)) = false := by simpa using hd
      by_cases hm : many = (cn : Int)
      · have hm2 : (many != (cn : Int)) = false := by simpa using hm
        have HT : Hid (decide (er = 0 /\ dep = (d : Int) /\ many = (cn : Int)) = true) := decide_eq_true ⟨he, hd, hm⟩
        have HCQ := HCR.out hm
        have HCR : Hid (∀ v pb, RdR v ro n R V -> (∀ u, Below v.heap.size v u -> u.cell? ⟨pb, 0, none⟩ = some (.int .i64 k) /\ u.cell? ⟨pb, 1, none⟩ = some (.int .i64 r) /\ u.cell? ⟨pb, 2, none⟩ = some (.int .i64 c) /\ u.cell? ⟨pb, 3, none⟩ = some (.int .i64 q)) -> Calls Tryz.prog 80 #[.slice ro n rc, .func (.func 81) #[] #[.pointer (some ⟨pb, 0, none⟩)]] v fun e w' => e = .returned (.bool (!ok)) /\ Below v.heap.size v w') := HCQ
        clear HCQ he hd hm
        cases ok
        · go_enter Tryz.func45, Tryz.ntmps45
          go_wp2_with fail
          rw [<- hw0, <- hw1]
          clear hw0 hw1 z0 b0 b1
          refine (HS _).mono ?_
          rintro e wa ⟨rfl, ha⟩
          obtain ⟨g0, g1, g2, g3, g4⟩ := HC.out _ ha
          go_wp2_with fail
          refine (HCR.out wa _ (HR.out.below (below_then HBB.out ha)) (fun u hu => HP.out u (below_then ha hu))).mono ?_
          rintro e wb ⟨rfl, hb⟩
          go_wp2_with fail
          go_ret
          exact ⟨3, rfl, by rw [HT.out]; rfl, below_then (below_then HBB.out ha) hb⟩
        · cases z
          all_goals (
            go_enter Tryz.func45, Tryz.ntmps45
            go_wp2_with fail
            rw [<- hw0, <- hw1]
            clear hw0 hw1 z0 b0 b1
            refine (HS _).mono ?_
            rintro e wa ⟨rfl, ha⟩
            obtain ⟨g0, g1, g2, g3, g4⟩ := HC.out _ ha
            go_wp2_with fail
            refine (HCR.out wa _ (HR.out.below (below_then HBB.out ha)) (fun u hu => HP.out u (below_then ha hu))).mono ?_
            rintro e wb ⟨rfl, hb⟩
            have k1 := below_then ha hb
            obtain ⟨j0, j1, j2, j3, j4⟩ := HC.out _ k1
            go_wp2_with fail
            refine (HCB.out wb (HB.out.below (below_then HBB.out k1))).mono ?_
            rintro e wc ⟨rfl, hc⟩
            go_wp2_with fail
            go_ret
            exact ⟨_, rfl, by rw [HT.out]; rfl, below_then (below_then HBB.out k1) hc⟩)
      · have hm2 : (many != (cn : Int)) = true := by simpa using hm
        have HT : Hid (decide (er = 0 /\ dep = (d : Int) /\ many = (cn : Int)) = false) := decide_eq_false fun h => hm h.2.2
        clear he hd hm
        go_enter Tryz.func45, Tryz.ntmps45
        go_wp2_with fail
        rw [<- hw0, <- hw1]
        clear hw0 hw1 z0 b0 b1
        refine (HS _).mono ?_
        rintro e wa ⟨rfl, ha⟩
        obtain ⟨g0, g1, g2, g3, g4⟩ := HC.out _ ha
        go_wp2_with fail
        go_ret
        exact ⟨2, rfl, by rw [HT.out]; rfl, below_then HBB.out ha⟩
    · have hd2 : (dep != (d : Int)) = true := by simpa using hd
      have HT : Hid (decide (er = 0 /\ dep = (d : Int) /\ many = (cn : Int)) = false) := decide_eq_false fun h => hd h.2.1
      clear he hd
      go_enter Tryz.func45, Tryz.ntmps45
      go_wp2_with fail
      rw [<- hw0, <- hw1]
      clear hw0 hw1 z0 b0 b1
      refine (HS _).mono ?_
      rintro e wa ⟨rfl, ha⟩
      obtain ⟨g0, g1, g2, g3, g4⟩ := HC.out _ ha
      go_wp2_with fail
      go_ret
      exact ⟨1, rfl, by rw [HT.out]; rfl, below_then HBB.out ha⟩
  · have he2 : (er != 0) = true := by simpa using he
    have HT : Hid (decide (er = 0 /\ dep = (d : Int) /\ many = (cn : Int)) = false) := decide_eq_false fun h => he h.1
    clear he
    go_enter Tryz.func45, Tryz.ntmps45
    go_wp2_with fail
    rw [<- hw0, <- hw1]
    clear hw0 hw1 z0 b0 b1
    refine (HS _).mono ?_
    rintro e wa ⟨rfl, ha⟩
    obtain ⟨g0, g1, g2, g3, g4⟩ := HC.out _ ha
    go_wp2_with fail
    go_ret
    exact ⟨0, rfl, by rw [HT.out]; rfl, below_then HBB.out ha⟩
end Go.Proofs.YtdmpiipllmjloaaGreat.De
namespace Go.Proofs.YtdmpiipllmjloaaGreat.De
open Go.RowKit
theorem _root_.Go.Proofs.YtdmpiipllmjloaaGreat.Par.erP {k r c q : Int} {N W : Nat} {e : Int} (h : Par k r c q N W e) : erP k r c q = e := by
  unfold YtdmpiipllmjloaaGreat.erP
  rcases h with ⟨h, _, _, rfl⟩ | ⟨h, _, _, rfl⟩
  · rw [if_pos h]
  · rw [if_neg (by rw [h]; decide)]
theorem _root_.Go.Proofs.YtdmpiipllmjloaaGreat.Par.fine {k r c q : Int} {N W : Nat} (h : Par k r c q N W 0) : may k r c q = true /\ 32 <= W /\ W <= 768 /\ q <= 256 := by
  have hw := h.wide
  rcases h with ⟨h, h0, _, _⟩ | ⟨_, _, _, h⟩
  · obtain ⟨h1, h2, h3, h4, h5, h6, h7, h8, h9⟩ := may_true h
    exact ⟨h, by omega, hw, h9⟩
  · cases h
theorem rest_any (o l : Nat) (F : Nat -> UInt8) : (!anyB l (fun j => !decide (F (o + j) = 0))) = decide (∀ j, j < o + l -> o <= j -> F j = 0) := by
  unfold anyB
  rw [Bool.not_not]
  apply decide_eq_decide.2
  constructor
  · intro h j hj ho
    have : (!decide (F (o + (j - o)) = 0)) = false := h (j - o) (by omega)
    rw [show o + (j - o) = j by omega] at this
    simpa using this
  · intro h i hi
    have := h (o + i) (by omega) (by omega)
    simpa using this
theorem okD_made {k r c q : Int} {N W : Nat} (h : Par k r c q N W 0) {len : Int} {s d x nn : Nat} {er : Int} (h' : Made k r c q len W s d x nn er) (dep : Int) (n : Nat) (R V : Nat -> Int) :
    okD W q len dep n R V = (decide (er = 0 /\ dep = (d : Int) /\ (n : Int) = ((cns d s x : Nat) : Int)) && okL q n R V) := by
  obtain ⟨hm, _⟩ := h.fine
  unfold okD
  rw [show okL q n R V = decide (okL q n R V = true) by simp, <- Bool.decide_and]
  apply decide_eq_decide.2
  rw [show decide (okL q n R V = true) = okL q n R V by simp]
  rcases h' with ⟨_, h1, h2, h3, h4, h5, _, rfl⟩ | ⟨h1, rfl, rfl, rfl, _, rfl⟩ | ⟨_, _, h2, rfl, rfl, rfl, _, rfl⟩
  · have e1 : dpt W (up len.toNat W) = d := by unfold dpt; rw [<- h3, <- h4, h5]
    have e2 : cntD W (up len.toNat W) = cns d s x := by
      unfold cntD cns
      rw [<- h3, <- h4]
      by_cases hx : x = 0
      · rw [if_pos hx, if_pos (by omega)]
      · rw [if_neg hx, if_neg (by omega)]
    rw [e1, e2]
    constructor
    · rintro ⟨_, _, a, b, c⟩; exact ⟨⟨rfl, a, by omega⟩, c⟩
    · rintro ⟨⟨_, a, b⟩, c⟩; exact ⟨h1, h2, a, by omega, c⟩
  · constructor
    · rintro ⟨a, _⟩
      rcases h1 with h1 | h1
      · rw [hm] at h1; cases h1
      · omega
    · rintro ⟨⟨a, _⟩, _⟩; cases a
  · constructor
    · rintro ⟨_, a, _⟩; omega
    · rintro ⟨⟨a, _⟩, _⟩; cases a
theorem cns_few {k r c q : Int} {N W : Nat} (h : Par k r c q N W 0) {len : Int} {s d x nn : Nat} {er : Int} (h' : Made k r c q len W s d x nn er) : cns d s x <= dir W := by
  obtain ⟨_, hW, _, _⟩ := h.fine
  rcases h' with ⟨_, h1, h2, h3, h4, h5, _, rfl⟩ | ⟨h1, rfl, rfl, rfl, _, rfl⟩ | ⟨_, _, h2, rfl, rfl, rfl, _, rfl⟩
  · have := cntD_few (W := W) (len := len.toNat) hW (by omega)
    unfold cntD at this
    unfold cns
    rw [<- h3, <- h4] at this
    by_cases hx : x = 0
    · rw [if_pos hx] at this; rw [if_pos (by omega)]; exact this
    · rw [if_neg hx] at this; rw [if_neg (by omega)]; exact this
  · exact Nat.zero_le _
  · exact Nat.zero_le _
theorem isD_made {k r c q : Int} {N W : Nat} (h : Par k r c q N W 0) (F : Nat -> UInt8) {s d x nn : Nat} {er : Int} (h' : Made k r c q ((nm F 0 4 : Nat) : Int) W s d x nn er) (m : Nat) (hm : m = min (nm F 5 2) (dir W)) :
    isD W q F = (decide (er = 0 /\ ((nm F 4 1 : Nat) : Int) = (d : Int) /\ ((nm F 5 2 : Nat) : Int) = ((cns d s x : Nat) : Int)) && (okL q m (rdR F 7) (rdV F 7) && !anyB (W - 7 - 6 * m) (fun j => !decide (F (7 + 6 * m + j) = 0)))) := by
  obtain ⟨_, hW, _, _⟩ := h.fine
  have hd := dir_room hW
  unfold isD
  rw [okD_made h h', Bool.decide_and, rest_any]
  have hf := cns_few h h'
  by_cases hc : er = 0 /\ ((nm F 4 1 : Nat) : Int) = (d : Int) /\ ((nm F 5 2 : Nat) : Int) = ((cns d s x : Nat) : Int)
  · have e : m = nm F 5 2 := by omega
    rw [decide_eq_true hc, e]
    simp only [Bool.true_and]
    rw [show decide (okL q (nm F 5 2) (rdR F 7) (rdV F 7) = true) = okL q (nm F 5 2) (rdR F 7) (rdV F 7) by simp]
    congr 1
    apply decide_eq_decide.2
    rw [show 7 + 6 * nm F 5 2 + (W - 7 - 6 * nm F 5 2) = W by omega]
  · rw [decide_eq_false hc]; simp
set_option maxHeartbeats 1000000 in
set_option maxRecDepth 100000 in
theorem checkWidth_any {k r c q : Int} {N W : Nat} {y : Int} (h : Par k r c q N W y) (bo : Option Addr) (n bc : Nat) (w : World) :
    Calls Tryz.prog 43 #[.agg #[.int .i64 k, .int .i64 r, .int .i64 c, .int .i64 q], .slice bo n bc] w fun e w' => e = .returned (.int .i64 (if y = 0 then (if n = W then 0 else 20) else y)) /\ Below w.heap.size w w' := by
  have HW := fun w => Width_any h w
  have he := h.err
  clear h
  obtain ⟨w0, hw0⟩ : ∃ w0, w0 = w.alloc (.cells #[.int .i64 k, .int .i64 r, .int .i64 c, .int .i64 q] 23) := ⟨_, rfl⟩
  have b0 : Below w.heap.size w w0 := by rw [hw0]; exact below_alloc _ _
  rcases he with rfl | rfl
  · rw [if_pos rfl]
    by_cases hn : n = W
    · rw [if_pos hn]
      have hn2 : ((n : Int) != (W : Int)) = false := by rw [hn]; simp
      clear hn
      go_enter Tryz.func43, Tryz.ntmps43
      go_wp2_with fail
      rw [<- hw0]
      refine (HW _).mono ?_
      rintro e wa ⟨rfl, ha⟩
      clear hw0
      go_wp2_with fail
      go_ret
      exact ⟨rfl, below_then b0 ha⟩
    · rw [if_neg hn]
      have hn2 : ((n : Int) != (W : Int)) = true := by simpa using (by omega : ¬ (n : Int) = (W : Int))
      clear hn
      go_enter Tryz.func43, Tryz.ntmps43
      go_wp2_with fail
      rw [<- hw0]
      refine (HW _).mono ?_
      rintro e wa ⟨rfl, ha⟩
      clear hw0
      go_wp2_with fail
      go_ret
      exact ⟨rfl, below_then b0 ha⟩
  · rw [if_neg (by decide)]
    go_enter Tryz.func43, Tryz.ntmps43
    go_wp2_with fail
    rw [<- hw0]
    refine (HW _).mono ?_
    rintro e wa ⟨rfl, ha⟩
    clear hw0
    go_wp2_with fail
    go_ret
    exact ⟨rfl, below_then b0 ha⟩
set_option maxHeartbeats 4000000 in
set_option maxRecDepth 100000 in
theorem DCheck_any {k r c q : Int} {N W : Nat} {y : Int} (h : Par k r c q N W y) (w : World) (len dep : Int) (ro : Option Addr) (n rc : Nat) (R V : Nat -> Int) (hR : RdR w ro n R V) :
    Calls Tryz.prog 32 #[.agg #[.int .i64 k, .int .i64 r, .int .i64 c, .int .i64 q], .agg #[.int .i64 len, .int .i64 dep, .slice ro n rc]] w fun e w' => e = .returned (.int .i64 (erD y W q len dep n R V)) /\ Below w.heap.size w w' := by
  have HC := fun w => Check_any k r c q w
  rw [h.erP] at HC
  have HR : Hid (RdR w ro n R V) := hR
  clear hR
  obtain ⟨w0, hw0⟩ : ∃ w0, w0 = w.alloc (.cells #[.int .i64 k, .int .i64 r, .int .i64 c, .int .i64 q] 23) := ⟨_, rfl⟩
  obtain ⟨w1, hw1⟩ : ∃ w1, w1 = w0.alloc (.cells #[.int .i64 len, .int .i64 dep, .slice ro n rc] 27) := ⟨_, rfl⟩
  have b0 : Below w.heap.size w w0 := by rw [hw0]; exact below_alloc _ _
  have b1 : Below w0.heap.size w0 w1 := by rw [hw1]; exact below_alloc _ _
  have z0 : w0.heap.size = w.heap.size + 1 := by rw [hw0]; simp
  have HBB : Hid (Below w.heap.size w w1) := below_then b0 b1
  rcases h.err with rfl | rfl
  · obtain ⟨s, d, x, nn, er, h'⟩ := made_any k r c q len W
    have HF := fun v hr => fw_desc h h' v dep (n : Int) ro n rc R V hr (fun e => by have h1 := cns_few h h'; have h2 := dir_le h.wide; omega) none 0 0 (fun _ => 0) (fun hh => absurd hh (Nat.lt_irrefl 0)) (by omega)
    rw [show (okL q n R V && !anyB 0 (fun j => !decide ((fun _ => (0 : UInt8)) j = 0))) = okL q n R V from by show (okL q n R V && true) = _; simp, <- okD_made h h'] at HF
    obtain ⟨E, hE⟩ : ∃ E, E = erD 0 W q len dep n R V := ⟨_, rfl⟩
    rw [<- hE]
    have HE : Hid ((if okD W q len dep n R V = true then (0 : Int) else 150) = E) := hE.symm
    clear h h' hE
    generalize okD W q len dep n R V = ok at *
    go_enter Tryz.func32, Tryz.ntmps32
    go_wp2_with fail
    rw [<- hw0, <- hw1]
    refine (HC _).mono ?_
    rintro e wa ⟨rfl, ha⟩
    obtain ⟨s0, s1, s2, s3⟩ := par_held hw0 (below_then b1 ha)
    have d0 := blk_held hw1 ha 0 rfl
    have d1 := blk_held hw1 ha 1 rfl
    have d2 := blk_held hw1 ha 2 rfl
    rw [z0] at d0 d1 d2
    have u0 : ∀ o, (wa.alloc o).cell? ⟨w.heap.size, 0, none⟩ = some (.int .i64 k) := fun o => held s0 (below_alloc _ _)
    have u1 : ∀ o, (wa.alloc o).cell? ⟨w.heap.size, 1, none⟩ = some (.int .i64 r) := fun o => held s1 (below_alloc _ _)
    have u2 : ∀ o, (wa.alloc o).cell? ⟨w.heap.size, 2, none⟩ = some (.int .i64 c) := fun o => held s2 (below_alloc _ _)
    have u3 : ∀ o, (wa.alloc o).cell? ⟨w.heap.size, 3, none⟩ = some (.int .i64 q) := fun o => held s3 (below_alloc _ _)
    have k1 := below_then HBB.out ha
    have HK : Hid (∀ o, Below w.heap.size w (wa.alloc o)) := fun o => k1.alloc k1.size o
    clear hw0 hw1 z0 b0 b1 ha k1
    go_wp2_with fail
    refine (HF _ (HR.out.below (HK.out _))).mono ?_
    rintro e wb ⟨pt, rfl, hpt, hb⟩
    have HK2 : Hid (Below w.heap.size w wb) := below_then (HK.out _) hb
    have HPT : Hid ((if pt = 5 then (0 : Int) else 150) = E) := by
      show _ = _
      rw [<- HE.out, <- hpt]; simp
    clear hb hpt
    go_wp2_with fail
    refine (err_any pt _).mono ?_
    rintro e wc ⟨rfl, hwc⟩
    obtain rfl := hwc.symm
    rw [HPT.out]
    go_wp2_with fail
    go_ret
    exact ⟨rfl, HK2.out⟩
  · have HE : Hid (erD 2 W q len dep n R V = 2) := rfl
    clear h
    go_enter Tryz.func32, Tryz.ntmps32
    go_wp2_with fail
    rw [<- hw0, <- hw1]
    refine (HC _).mono ?_
    rintro e wa ⟨rfl, ha⟩
    clear hw0 hw1
    go_wp2_with fail
    go_ret
    exact ⟨by rw [HE.out]; rfl, below_then HBB.out ha⟩
end Go.Proofs.YtdmpiipllmjloaaGreat.De
