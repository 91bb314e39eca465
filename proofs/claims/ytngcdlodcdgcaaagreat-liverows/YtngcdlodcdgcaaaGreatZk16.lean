import Derived.Test.YtngcdlodcdgcaaaGreatZk15
namespace Go.Proofs.YtngcdlodcdgcaaaGreat.De
open Go.RowKit
theorem Made.zero {k r c q len : Int} {W s d x n : Nat} {e : Int} (h : Made k r c q len W s d x n e) : (e = 0 /\ d <= 1) \/ (e ≠ 0 /\ s = 0 /\ d = 0 /\ x = 0) := by
  rcases h with ⟨_, _, _, _, _, h, _, rfl⟩ | ⟨_, rfl, rfl, rfl, _, rfl⟩ | ⟨_, _, _, rfl, rfl, rfl, _, rfl⟩
  · exact .inl ⟨rfl, by omega⟩
  · exact .inr ⟨by decide, rfl, rfl, rfl⟩
  · exact .inr ⟨by decide, rfl, rfl, rfl⟩
def cns (d s x : Nat) : Nat := if d = 0 then s else x
set_option maxHeartbeats 1000000 in
set_option maxRecDepth 100000 in
theorem dshape_any {k r c q : Int} {N W : Nat} {y : Int} (h : Par k r c q N W y) {len : Int} {s d x n : Nat} {e : Int} (h' : Made k r c q len W s d x n e) (w : World) :
    Calls Tryz.prog 118 #[.agg #[.int .i64 k, .int .i64 r, .int .i64 c, .int .i64 q], .int .i64 len] w fun e' w' => e' = .returned (.tuple #[.int .i64 (d : Int), .int .i64 ((cns d s x : Nat) : Int), .int .i64 e]) /\ Below w.heap.size w w' := by
  have HD := fun w => Depth_any h h' w
  have HS := fun w => Stripes_any h h' w
  have HL := fun w => Leaves_any h h' w
  have hz := h'.zero
  have HN : Hid (cns d s x = if d = 0 then s else x) := rfl
  clear h h'
  obtain ⟨w0, hw0⟩ : ∃ w0, w0 = w.alloc (.cells #[.int .i64 k, .int .i64 r, .int .i64 c, .int .i64 q] 23) := ⟨_, rfl⟩
  have b0 : Below w.heap.size w w0 := by rw [hw0]; exact below_alloc _ _
  rcases hz with ⟨rfl, hd⟩ | ⟨he, rfl, rfl, rfl⟩
  · by_cases hd0 : d = 0
    · subst hd0
      go_enter Tryz.func118, Tryz.ntmps118
      go_wp2_with fail
      rw [<- hw0]
      refine (HD _).mono ?_
      rintro e wa ⟨rfl, ha⟩
      obtain ⟨s0, s1, s2, s3⟩ := par_held hw0 ha
      clear hw0
      go_wp2_with fail
      refine (HS _).mono ?_
      rintro e wb ⟨rfl, hb⟩
      go_wp2_with fail
      refine bodyPost_ret (v := .tuple #[.int .i64 0, .int .i64 (s : Int), .int .i64 0]) (by simp [results, Tryz.results118, go_sem]) rfl ⟨?_, below_then (below_then b0 ha) hb⟩
      rfl
    · obtain rfl : d = 1 := by omega
      go_enter Tryz.func118, Tryz.ntmps118
      go_wp2_with fail
      rw [<- hw0]
      refine (HD _).mono ?_
      rintro e wa ⟨rfl, ha⟩
      obtain ⟨s0, s1, s2, s3⟩ := par_held hw0 ha
      clear hw0
      go_wp2_with fail
      refine (HL _).mono ?_
      rintro e wb ⟨rfl, hb⟩
      go_wp2_with fail
      refine bodyPost_ret (v := .tuple #[.int .i64 1, .int .i64 (x : Int), .int .i64 0]) (by simp [results, Tryz.results118, go_sem]) rfl ⟨?_, below_then (below_then b0 ha) hb⟩
      rw [HN.out, if_neg (by decide)]; rfl
  · have he2 : (e != 0) = true := by simpa using he
    go_enter Tryz.func118, Tryz.ntmps118
    go_wp2_with fail
    rw [<- hw0]
    refine (HD _).mono ?_
    rintro e wa ⟨rfl, ha⟩
    clear hw0
    go_wp2_with fail
    refine bodyPost_ret (v := .tuple #[.int .i64 0, .int .i64 0, .int .i64 _]) (by simp [results, Tryz.results118, go_sem]) rfl ⟨rfl, below_then b0 ha⟩
set_option maxHeartbeats 1000000 in
theorem err_any (pt : Int) (w : World) : Calls Tryz.prog 106 #[.int .i64 pt] w fun e w' => e = .returned (.int .i64 (if pt = 5 then 0 else 150)) /\ w' = w := by
  by_cases h : pt = 5
  · subst h
    rw [if_pos rfl]
    go_enter Tryz.func106, Tryz.ntmps106
    go_wp2
    go_ret
    exact ⟨rfl, rfl⟩
  · rw [if_neg h]
    have h2 : (pt == 5) = false := by simpa using h
    go_enter Tryz.func106, Tryz.ntmps106
    go_wp2
    go_ret
    exact ⟨rfl, rfl⟩
set_option maxHeartbeats 4000000 in
set_option maxRecDepth 100000 in
theorem fw_leaf {k r c q : Int} {N W : Nat} {y : Int} (h : Par k r c q N W y) (w : World) (len dep many : Int) (ro : Option Addr) (n rc : Nat) (R V : Nat -> Int) (hR : RdR w ro n R V) (hn : n <= 1000) (bo : Option Addr) (l bc : Nat) (F : Nat -> UInt8) (hB : RdU w bo l F) (hl : l <= 1000) :
    Calls Tryz.prog 105 #[.agg #[.int .i64 len, .int .i64 dep, .int .i64 many, .slice ro n rc, .slice bo l bc], .agg #[.int .i64 k, .int .i64 r, .int .i64 c, .int .i64 q], .int .i64 3] w fun e w' => ∃ pt : Int, e = .returned (.int .i64 pt) /\ decide (pt = 5) = (okL q n R V && !anyB l (fun j => !decide (F j = 0))) /\ Below w.heap.size w w' := by
  obtain ⟨s, d, x, nn, er, h'⟩ := made_any k r c q len W
  have HS := fun w => dshape_any h h' w
  generalize cns d s x = cn at *
  have HR : Hid (RdR w ro n R V) := hR
  have HB : Hid (RdU w bo l F) := hB
  have HL : Hid (anyB n (fun i => !okR q (R i) (V i)) = !okL q n R V) := okL_any q n R V
  have HCR : Hid (∀ v pb, RdR v ro n R V -> (∀ u, Below v.heap.size v u -> u.cell? ⟨pb, 0, none⟩ = some (.int .i64 k) /\ u.cell? ⟨pb, 1, none⟩ = some (.int .i64 r) /\ u.cell? ⟨pb, 2, none⟩ = some (.int .i64 c) /\ u.cell? ⟨pb, 3, none⟩ = some (.int .i64 q)) -> Calls Tryz.prog 119 #[.slice ro n rc, .func (.func 120) #[] #[.pointer (some ⟨pb, 0, none⟩)]] v fun e w' => e = .returned (.bool (!okL q n R V)) /\ Below v.heap.size v w') := fun v pb hv hp => by
    have := containsR_any v ro n rc 120 #[.pointer (some ⟨pb, 0, none⟩)] R V (fun i => !okR q (R i) (V i)) hn (fun _ _ => rfl) hv (fun i hi u hu => by
      obtain ⟨p0, p1, p2, p3⟩ := hp u hu
      exact notMay_any k r c q (R i) (V i) pb u p0 p1 p2 p3)
    rw [HL.out] at this
    exact this
  have HCB : Hid (∀ v, RdU v bo l F -> Calls Tryz.prog 122 #[.slice bo l bc, .func (.func 123) #[] #[]] v fun e w' => e = .returned (.bool (anyB l (fun j => !decide (F j = 0)))) /\ Below v.heap.size v w') := fun v hv => containsB_any v bo l bc 123 #[] F _ hl (fun _ _ => rfl) hv (fun i hi u hu => notZero_any (F i) u)
  clear h h' hR hB HL
  generalize okL q n R V = ok at *
  generalize anyB l (fun j => !decide (F j = 0)) = z at *
  obtain ⟨w0, hw0⟩ : ∃ w0, w0 = w.alloc (.cells #[.int .i64 len, .int .i64 dep, .int .i64 many, .slice ro n rc, .slice bo l bc] 171) := ⟨_, rfl⟩
  obtain ⟨w1, hw1⟩ : ∃ w1, w1 = w0.alloc (.cells #[.int .i64 k, .int .i64 r, .int .i64 c, .int .i64 q] 23) := ⟨_, rfl⟩
  have b0 : Below w.heap.size w w0 := by rw [hw0]; exact below_alloc _ _
  have b1 : Below w0.heap.size w0 w1 := by rw [hw1]; exact below_alloc _ _
  have z0 : w0.heap.size = w.heap.size + 1 := by rw [hw0]; simp
  have HP : Hid (∀ u, Below w1.heap.size w1 u -> u.cell? ⟨w.heap.size + 1, 0, none⟩ = some (.int .i64 k) /\ u.cell? ⟨w.heap.size + 1, 1, none⟩ = some (.int .i64 r) /\ u.cell? ⟨w.heap.size + 1, 2, none⟩ = some (.int .i64 c) /\ u.cell? ⟨w.heap.size + 1, 3, none⟩ = some (.int .i64 q)) := fun u hu => by have := par_held hw1 hu; rw [z0] at this; exact this
  have HC : Hid (∀ u, Below w1.heap.size w1 u -> u.cell? ⟨w.heap.size, 0, none⟩ = some (.int .i64 len) /\ u.cell? ⟨w.heap.size, 1, none⟩ = some (.int .i64 dep) /\ u.cell? ⟨w.heap.size, 2, none⟩ = some (.int .i64 many) /\ u.cell? ⟨w.heap.size, 3, none⟩ = some (.slice ro n rc) /\ u.cell? ⟨w.heap.size, 4, none⟩ = some (.slice bo l bc)) := fun u hu => mea_held hw0 (below_then b1 hu)
  have HBB : Hid (Below w.heap.size w w1) := below_then b0 b1
  obtain ⟨p0, p1, p2, p3⟩ := HP.out _ (Below.refl _ _)
  obtain ⟨c0, c1, c2, c3, c4⟩ := HC.out _ (Below.refl _ _)
  cases ok
  · go_enter Tryz.func105, Tryz.ntmps105
    go_wp2_with fail
    rw [<- hw0, <- hw1]
    clear hw0 hw1 z0 b0 b1
    refine (HS _).mono ?_
    rintro e wa ⟨rfl, ha⟩
    obtain ⟨g0, g1, g2, g3, g4⟩ := HC.out _ ha
    go_wp2_with fail
    refine (HCR.out wa _ (HR.out.below (below_then HBB.out ha)) (fun u hu => HP.out u (below_then ha hu))).mono ?_
    rintro e wb ⟨rfl, hb⟩
    go_wp2_with fail
    go_ret
    exact ⟨3, rfl, rfl, below_then (below_then HBB.out ha) hb⟩
  · cases z
    all_goals (
      go_enter Tryz.func105, Tryz.ntmps105
      go_wp2_with fail
      rw [<- hw0, <- hw1]
      clear hw0 hw1 z0 b0 b1
      refine (HS _).mono ?_
      rintro e wa ⟨rfl, ha⟩
      obtain ⟨g0, g1, g2, g3, g4⟩ := HC.out _ ha
      go_wp2_with fail
      refine (HCR.out wa _ (HR.out.below (below_then HBB.out ha)) (fun u hu => HP.out u (below_then ha hu))).mono ?_
      rintro e wb ⟨rfl, hb⟩
      have k1 := below_then ha hb
      obtain ⟨j0, j1, j2, j3, j4⟩ := HC.out _ k1
      go_wp2_with fail
      refine (HCB.out wb (HB.out.below (below_then HBB.out k1))).mono ?_
      rintro e wc ⟨rfl, hc⟩
      go_wp2_with fail
      go_ret
      exact ⟨_, rfl, rfl, below_then (below_then HBB.out k1) hc⟩)
set_option maxHeartbeats 4000000 in
set_option maxRecDepth 100000 in
theorem fw_desc {k r c q : Int} {N W : Nat} {y : Int} (h : Par k r c q N W y) {len : Int} {s d x nn : Nat} {er : Int} (h' : Made k r c q len W s d x nn er) (w : World) (dep many : Int) (ro : Option Addr) (n rc : Nat) (R V : Nat -> Int) (hR : RdR w ro n R V) (hn : many = ((cns d s x : Nat) : Int) -> n <= 1000) (bo : Option Addr) (l bc : Nat) (F : Nat -> UInt8) (hB : RdU w bo l F) (hl : l <= 1000) :
    Calls Tryz.prog 105 #[.agg #[.int .i64 len, .int .i64 dep, .int .i64 many, .slice ro n rc, .slice bo l bc], .agg #[.int .i64 k, .int .i64 r, .int .i64 c, .int .i64 q], .int .i64 0] w fun e w' => ∃ pt : Int, e = .returned (.int .i64 pt) /\ decide (pt = 5) = (decide (er = 0 /\ dep = (d : Int) /\ many = ((cns d s x : Nat) : Int)) && (okL q n R V && !anyB l (fun j => !decide (F j = 0)))) /\ Below w.heap.size w w' := by
  have HS := fun w => dshape_any h h' w
  generalize cns d s x = cn at *
  have HR : Hid (RdR w ro n R V) := hR
  have HB : Hid (RdU w bo l F) := hB
  have HL : Hid (anyB n (fun i => !okR q (R i) (V i)) = !okL q n R V) := okL_any q n R V
  have HCR : Hid (many = (cn : Int) -> ∀ v pb, RdR v ro n R V -> (∀ u, Below v.heap.size v u -> u.cell? ⟨pb, 0, none⟩ = some (.int .i64 k) /\ u.cell? ⟨pb, 1, none⟩ = some (.int .i64 r) /\ u.cell? ⟨pb, 2, none⟩ = some (.int .i64 c) /\ u.cell? ⟨pb, 3, none⟩ = some (.int .i64 q)) -> Calls Tryz.prog 119 #[.slice ro n rc, .func (.func 120) #[] #[.pointer (some ⟨pb, 0, none⟩)]] v fun e w' => e = .returned (.bool (!okL q n R V)) /\ Below v.heap.size v w') := fun hmc v pb hv hp => by
    have := containsR_any v ro n rc 120 #[.pointer (some ⟨pb, 0, none⟩)] R V (fun i => !okR q (R i) (V i)) (hn hmc) (fun _ _ => rfl) hv (fun i hi u hu => by
      obtain ⟨p0, p1, p2, p3⟩ := hp u hu
      exact notMay_any k r c q (R i) (V i) pb u p0 p1 p2 p3)
    rw [HL.out] at this
    exact this
  have HCB : Hid (∀ v, RdU v bo l F -> Calls Tryz.prog 122 #[.slice bo l bc, .func (.func 123) #[] #[]] v fun e w' => e = .returned (.bool (anyB l (fun j => !decide (F j = 0)))) /\ Below v.heap.size v w') := fun v hv => containsB_any v bo l bc 123 #[] F _ hl (fun _ _ => rfl) hv (fun i hi u hu => notZero_any (F i) u)
  clear h h' hR hB HL hn
  generalize okL q n R V = ok at *
  generalize anyB l (fun j => !decide (F j = 0)) = z at *
  obtain ⟨w0, hw0⟩ : ∃ w0, w0 = w.alloc (.cells #[.int .i64 len, .int .i64 dep, .int .i64 many, .slice ro n rc, .slice bo l bc] 171) := ⟨_, rfl⟩
  obtain ⟨w1, hw1⟩ : ∃ w1, w1 = w0.alloc (.cells #[.int .i64 k, .int .i64 r, .int .i64 c, .int .i64 q] 23) := ⟨_, rfl⟩
  have b0 : Below w.heap.size w w0 := by rw [hw0]; exact below_alloc _ _
  have b1 : Below w0.heap.size w0 w1 := by rw [hw1]; exact below_alloc _ _
  have z0 : w0.heap.size = w.heap.size + 1 := by rw [hw0]; simp
  have HP : Hid (∀ u, Below w1.heap.size w1 u -> u.cell? ⟨w.heap.size + 1, 0, none⟩ = some (.int .i64 k) /\ u.cell? ⟨w.heap.size + 1, 1, none⟩ = some (.int .i64 r) /\ u.cell? ⟨w.heap.size + 1, 2, none⟩ = some (.int .i64 c) /\ u.cell? ⟨w.heap.size + 1, 3, none⟩ = some (.int .i64 q)) := fun u hu => by have := par_held hw1 hu; rw [z0] at this; exact this
  have HC : Hid (∀ u, Below w1.heap.size w1 u -> u.cell? ⟨w.heap.size, 0, none⟩ = some (.int .i64 len) /\ u.cell? ⟨w.heap.size, 1, none⟩ = some (.int .i64 dep) /\ u.cell? ⟨w.heap.size, 2, none⟩ = some (.int .i64 many) /\ u.cell? ⟨w.heap.size, 3, none⟩ = some (.slice ro n rc) /\ u.cell? ⟨w.heap.size, 4, none⟩ = some (.slice bo l bc)) := fun u hu => mea_held hw0 (below_then b1 hu)
  have HBB : Hid (Below w.heap.size w w1) := below_then b0 b1
  obtain ⟨p0, p1, p2, p3⟩ := HP.out _ (Below.refl _ _)
  obtain ⟨c0, c1, c2, c3, c4⟩ := HC.out _ (Below.refl _ _)
  by_cases he : er = 0
  · have he2 : (er != 0) = false := by simpa using he
    by_cases hd : dep = (d : Int)
    · have hd2 : (dep != (d : Int)) = false := by simpa using hd
      by_cases hm : many = (cn : Int)
      · have hm2 : (many != (cn : Int)) = false := by simpa using hm
        have HT : Hid (decide (er = 0 /\ dep = (d : Int) /\ many = (cn : Int)) = true) := decide_eq_true ⟨he, hd, hm⟩
        have HCQ := HCR.out hm
        have HCR : Hid (∀ v pb, RdR v ro n R V -> (∀ u, Below v.heap.size v u -> u.cell? ⟨pb, 0, none⟩ = some (.int .i64 k) /\ u.cell? ⟨pb, 1, none⟩ = some (.int .i64 r) /\ u.cell? ⟨pb, 2, none⟩ = some (.int .i64 c) /\ u.cell? ⟨pb, 3, none⟩ = some (.int .i64 q)) -> Calls Tryz.prog 119 #[.slice ro n rc, .func (.func 120) #[] #[.pointer (some ⟨pb, 0, none⟩)]] v fun e w' => e = .returned (.bool (!ok)) /\ Below v.heap.size v w') := HCQ
        clear HCQ he hd hm
        cases ok
        · go_enter Tryz.func105, Tryz.ntmps105
          go_wp2_with fail
          rw [<- hw0, <- hw1]
          clear hw0 hw1 z0 b0 b1
          refine (HS _).mono ?_
          rintro e wa ⟨rfl, ha⟩
          obtain ⟨g0, g1, g2, g3, g4⟩ := HC.out _ ha
          go_wp2_with fail
          refine (HCR.out wa _ (HR.out.below (below_then HBB.out ha)) (fun u hu => HP.out u (below_then ha hu))).mono ?_
          rintro e wb ⟨rfl, hb⟩
          go_wp2_with fail
          go_ret
          exact ⟨3, rfl, by rw [HT.out]; rfl, below_then (below_then HBB.out ha) hb⟩
        · cases z
          all_goals (
            go_enter Tryz.func105, Tryz.ntmps105
            go_wp2_with fail
            rw [<- hw0, <- hw1]
            clear hw0 hw1 z0 b0 b1
            refine (HS _).mono ?_
            rintro e wa ⟨rfl, ha⟩
            obtain ⟨g0, g1, g2, g3, g4⟩ := HC.out _ ha
            go_wp2_with fail
            refine (HCR.out wa _ (HR.out.below (below_then HBB.out ha)) (fun u hu => HP.out u (below_then ha hu))).mono ?_
            rintro e wb ⟨rfl, hb⟩
            have k1 := below_then ha hb
            obtain ⟨j0, j1, j2, j3, j4⟩ := HC.out _ k1
            go_wp2_with fail
            refine (HCB.out wb (HB.out.below (below_then HBB.out k1))).mono ?_
            rintro e wc ⟨rfl, hc⟩
            go_wp2_with fail
            go_ret
            exact ⟨_, rfl, by rw [HT.out]; rfl, below_then (below_then HBB.out k1) hc⟩)
      · have hm2 : (many != (cn : Int)) = true := by simpa using hm
        have HT : Hid (decide (er = 0 /\ dep = (d : Int) /\ many = (cn : Int)) = false) := decide_eq_false fun h => hm h.2.2
        clear he hd hm
        go_enter Tryz.func105, Tryz.ntmps105
        go_wp2_with fail
        rw [<- hw0, <- hw1]
        clear hw0 hw1 z0 b0 b1
        refine (HS _).mono ?_
        rintro e wa ⟨rfl, ha⟩
        obtain ⟨g0, g1, g2, g3, g4⟩ := HC.out _ ha
        go_wp2_with fail
        go_ret
        exact ⟨2, rfl, by rw [HT.out]; rfl, below_then HBB.out ha⟩
    · have hd2 : (dep != (d : Int)) = true := by simpa using hd
      have HT : Hid (decide (er = 0 /\ dep = (d : Int) /\ many = (cn : Int)) = false) := decide_eq_false fun h => hd h.2.1
      clear he hd
      go_enter Tryz.func105, Tryz.ntmps105
      go_wp2_with fail
      rw [<- hw0, <- hw1]
      clear hw0 hw1 z0 b0 b1
      refine (HS _).mono ?_
      rintro e wa ⟨rfl, ha⟩
      obtain ⟨g0, g1, g2, g3, g4⟩ := HC.out _ ha
      go_wp2_with fail
      go_ret
      exact ⟨1, rfl, by rw [HT.out]; rfl, below_then HBB.out ha⟩
  · have he2 : (er != 0) = true := by simpa using he
    have HT : Hid (decide (er = 0 /\ dep = (d : Int) /\ many = (cn : Int)) = false) := decide_eq_false fun h => he h.1
    clear he
    go_enter Tryz.func105, Tryz.ntmps105
    go_wp2_with fail
    rw [<- hw0, <- hw1]
    clear hw0 hw1 z0 b0 b1
    refine (HS _).mono ?_
    rintro e wa ⟨rfl, ha⟩
    obtain ⟨g0, g1, g2, g3, g4⟩ := HC.out _ ha
    go_wp2_with fail
    go_ret
    exact ⟨0, rfl, by rw [HT.out]; rfl, below_then HBB.out ha⟩
end Go.Proofs.YtngcdlodcdgcaaaGreat.De
