import Derived.Test.YtngcdlodcdgcaaaGreatZk14
namespace Go.Proofs.YtngcdlodcdgcaaaGreat.De
open Go.RowKit
theorem con_held {w w0 w1 : World} {x0 x1 x2 x3 x4 : Value} {t : TypeId} (h0 : w0 = w.alloc (.cells #[x0, x1, x2, x3, x4] t)) (hb : Below w0.heap.size w0 w1) :
    (w1.cell? ⟨w.heap.size, 0, none⟩ = some x0 /\ w1.cell? ⟨w.heap.size, 1, none⟩ = some x1 /\ w1.cell? ⟨w.heap.size, 2, none⟩ = some x2 /\ w1.cell? ⟨w.heap.size, 3, none⟩ = some x3 /\ w1.cell? ⟨w.heap.size, 4, none⟩ = some x4) /\ ∀ i, w1.frozen? ⟨w.heap.size, i, none⟩ = false := ⟨mea_held h0 hb, blk_free h0 hb⟩
set_option maxHeartbeats 4000000 in
set_option maxRecDepth 100000 in
theorem readDesc_go (w : World) (ao : Option Addr) (W cp : Nat) (F : Nat -> UInt8) (h : Bec w ao W cp F) (hW : 32 <= W) (hW2 : W <= 1000) (A D M dd m : Nat) (hA : nm F 0 4 = A) (hD : nm (fun j => F (4 + j)) 0 1 = D) (hMM : nm (fun j => F (4 + (1 + j))) 0 2 = M) (hM : M < 65536) (hdw : ((W - 7 : Nat) : Int) / 6 = (dd : Int)) (hd : 7 + 6 * dd <= W) (hm : m = min M dd) :
    Calls Tryz.prog 104 #[.slice ao W cp] w fun e w' => ∃ ro rc bo, e = .returned (.agg #[.int .i64 (A : Int), .int .i64 (D : Int), .int .i64 (M : Int), .slice ro m rc, .slice bo (W - 7 - 6 * m) (cp - 7 - 6 * m)]) /\ OwR w.heap.size w' ro m rc (rdR (fun j => F (7 + j)) 0) (rdV (fun j => F (7 + j)) 0) /\ (∀ u, Bec u ao W cp F -> Bec u bo (W - 7 - 6 * m) (cp - 7 - 6 * m) (fun j => F (7 + (6 * m + j)))) /\ Below w.heap.size w w' := by
  have HX : Hid (Bec w ao W cp F) := h
  have hroom := h.room
  have C1 := fun w h => takeNumber_any w ao W cp 4 F h (by omega) (by omega) (by omega)
  have C2 := fun w ao h => takeNumber_any w ao (W - 4) (cp - 4) 1 (fun j => F (4 + j)) h (by omega) (by omega) (by omega)
  have C3 := fun w ao h => takeNumber_any w ao (W - 4 - 1) (cp - 4 - 1) 2 (fun j => F (4 + (1 + j))) h (by omega) (by omega) (by omega)
  have e4 : (fun j => F (4 + (1 + (2 + j)))) = fun j => F (7 + j) := by funext j; rw [show 4 + (1 + (2 + j)) = 7 + j by omega]
  have e5 : W - 4 - 1 - 2 = W - 7 := by omega
  have e6 : cp - 4 - 1 - 2 = cp - 7 := by omega
  rw [hA] at C1
  rw [hD] at C2
  rw [hMM, e4, e5, e6] at C3
  have C4 := fun w ao h => readLeaf_any w ao (W - 7) (cp - 7) m (fun j => F (7 + j)) h (by omega) (by omega)
  have e7 : IntKind.i64.wrap (((W - 7 : Nat) : Int) / 6) = (dd : Int) := by rw [hdw, IntKind.wrap_i64]; omega
  clear hA hD hMM e4 e5 e6 h
  have hdd : dd <= 1000 := by omega
  generalize W - 4 = l1 at *
  generalize cp - 4 = c1 at *
  generalize l1 - 1 = l2 at *
  generalize c1 - 1 = c2 at *
  generalize rdR (fun j => F (7 + j)) 0 = R at *
  generalize rdV (fun j => F (7 + j)) 0 = V at *
  obtain ⟨l3, hl3⟩ : ∃ l, l = W - 7 := ⟨_, rfl⟩
  obtain ⟨c3, hc3⟩ : ∃ l, l = cp - 7 := ⟨_, rfl⟩
  rw [<- hl3] at C3 C4 hdw e7 ⊢
  rw [<- hc3] at C3 C4 ⊢
  have hl4 : l3 <= 1000 := by omega
  generalize l3 - 6 * m = l4 at *
  generalize c3 - 6 * m = c4 at *
  clear hl3 hc3 hroom hd
  obtain ⟨w0, hw0⟩ : ∃ w0, w0 = w.alloc (.cells #[.int .i64 0, .int .i64 0, .int .i64 0, .slice none 0 0, .slice none 0 0] 171) := ⟨_, rfl⟩
  have b0 : Below w.heap.size w w0 := by rw [hw0]; exact below_alloc _ _
  by_cases hlt : (dd : Int) < (M : Int)
  · obtain rfl : m = dd := by omega
    clear hm
    go_enter Tryz.func104, Tryz.ntmps104
    go_wp2_with fail
    rw [<- hw0]
    refine (C1 _ (HX.out.below b0)).mono ?_
    rintro e wa ⟨bo1, rfl, hb1, ha⟩
    have k1 := below_then b0 ha
    go_wp2_with fail
    refine (C2 _ bo1 (hb1 _ (HX.out.below k1))).mono ?_
    rintro e wb ⟨bo2, rfl, hb2, hb⟩
    have k2 := below_then k1 hb
    go_wp2_with fail
    refine (C3 _ bo2 (hb2 _ (hb1 _ (HX.out.below k2)))).mono ?_
    rintro e wc ⟨bo3, rfl, hb3, hc⟩
    have k3 := below_then (below_then ha hb) hc
    have HB4 : Hid (∀ u, Bec u ao W cp F -> Bec u bo3 l3 c3 (fun j => F (7 + j))) := fun u hu => hb3 _ (hb2 _ (hb1 _ hu))
    clear ha hb hc hb1 hb2 hb3 k1 k2
    go_wp2_with fail
    refine (C4 _ bo3 (HB4.out _ (HX.out.below (below_then b0 k3)))).mono ?_
    rintro e wd ⟨ro, rc, bo, rfl, hown, hbo, hd⟩
    have k4 := below_then k3 hd
    have hu : ∀ o, Below w0.heap.size w0 (wd.alloc o) := fun o => k4.alloc k4.size o
    have m0 := fun o => (con_held hw0 (hu o)).1.1
    have m1 := fun o => (con_held hw0 (hu o)).1.2.1
    have m2 := fun o => (con_held hw0 (hu o)).1.2.2.1
    have m3 := fun o => (con_held hw0 (hu o)).1.2.2.2.1
    have m4 := fun o => (con_held hw0 (hu o)).1.2.2.2.2
    have f := fun o i => (con_held hw0 (hu o)).2 i
    have HS : Hid (w.heap.size + 1 <= wc.heap.size) := by show _ <= _; have := k3.size; rw [hw0] at this; simpa using this
    have HK : Hid (Below w.heap.size w wd) := below_then b0 k4
    have HOW : Hid (OwR wc.heap.size wd ro m rc R V) := hown
    have HBO : Hid (∀ u, Bec u ao W cp F -> Bec u bo l4 c4 (fun j => F (7 + (6 * m + j)))) := fun u hu => hbo u (HB4.out u hu)
    have HWC : Hid (wc.heap.size <= wd.heap.size) := hd.size
    clear hw0 hu k3 k4 hown hbo hd HB4
    go_wp2_with fail
    refine bodyPost_ret (v := .agg #[.int .i64 (A : Int), .int .i64 (D : Int), .int .i64 (M : Int), .slice ro m rc, .slice bo l4 c4]) (by simp [results, Tryz.results104, go_sem, m0, m1, m2, m3, m4]) rfl ⟨ro, rc, bo, rfl, ?_, HBO.out, ?_⟩
    · have h5 := HS.out
      have h6 := HWC.out
      refine OwR.mono (B := wc.heap.size) (HOW.out.stay fun t ht ht2 => ?_) (by omega)
      have hne : t ≠ w.heap.size := by omega
      rw [heap_setCell_other _ _ _ _ hne, heap_setCell_other _ _ _ _ hne, heap_setCell_other _ _ _ _ hne, heap_setCell_other _ _ _ _ hne, heap_setCell_other _ _ _ _ hne, Below.heap_alloc _ _ _ ht2]
    · exact (((((HK.out.alloc HK.out.size _).setCell (Nat.le_refl _) _).setCell (Nat.le_refl _) _).setCell (Nat.le_refl _) _).setCell (Nat.le_refl _) _).setCell (Nat.le_refl _) _
  · obtain rfl : m = M := by omega
    clear hm
    go_enter Tryz.func104, Tryz.ntmps104
    go_wp2_with fail
    rw [<- hw0]
    refine (C1 _ (HX.out.below b0)).mono ?_
    rintro e wa ⟨bo1, rfl, hb1, ha⟩
    have k1 := below_then b0 ha
    go_wp2_with fail
    refine (C2 _ bo1 (hb1 _ (HX.out.below k1))).mono ?_
    rintro e wb ⟨bo2, rfl, hb2, hb⟩
    have k2 := below_then k1 hb
    go_wp2_with fail
    refine (C3 _ bo2 (hb2 _ (hb1 _ (HX.out.below k2)))).mono ?_
    rintro e wc ⟨bo3, rfl, hb3, hc⟩
    have k3 := below_then (below_then ha hb) hc
    have HB4 : Hid (∀ u, Bec u ao W cp F -> Bec u bo3 l3 c3 (fun j => F (7 + j))) := fun u hu => hb3 _ (hb2 _ (hb1 _ hu))
    clear ha hb hc hb1 hb2 hb3 k1 k2
    go_wp2_with fail
    refine (C4 _ bo3 (HB4.out _ (HX.out.below (below_then b0 k3)))).mono ?_
    rintro e wd ⟨ro, rc, bo, rfl, hown, hbo, hd⟩
    have k4 := below_then k3 hd
    have hu : ∀ o, Below w0.heap.size w0 (wd.alloc o) := fun o => k4.alloc k4.size o
    have m0 := fun o => (con_held hw0 (hu o)).1.1
    have m1 := fun o => (con_held hw0 (hu o)).1.2.1
    have m2 := fun o => (con_held hw0 (hu o)).1.2.2.1
    have m3 := fun o => (con_held hw0 (hu o)).1.2.2.2.1
    have m4 := fun o => (con_held hw0 (hu o)).1.2.2.2.2
    have f := fun o i => (con_held hw0 (hu o)).2 i
    have HS : Hid (w.heap.size + 1 <= wc.heap.size) := by show _ <= _; have := k3.size; rw [hw0] at this; simpa using this
    have HK : Hid (Below w.heap.size w wd) := below_then b0 k4
    have HOW : Hid (OwR wc.heap.size wd ro m rc R V) := hown
    have HBO : Hid (∀ u, Bec u ao W cp F -> Bec u bo l4 c4 (fun j => F (7 + (6 * m + j)))) := fun u hu => hbo u (HB4.out u hu)
    have HWC : Hid (wc.heap.size <= wd.heap.size) := hd.size
    clear hw0 hu k3 k4 hown hbo hd HB4
    go_wp2_with fail
    refine bodyPost_ret (v := .agg #[.int .i64 (A : Int), .int .i64 (D : Int), .int .i64 (m : Int), .slice ro m rc, .slice bo l4 c4]) (by simp [results, Tryz.results104, go_sem, m0, m1, m2, m3, m4]) rfl ⟨ro, rc, bo, rfl, ?_, HBO.out, ?_⟩
    · have h5 := HS.out
      have h6 := HWC.out
      refine OwR.mono (B := wc.heap.size) (HOW.out.stay fun t ht ht2 => ?_) (by omega)
      have hne : t ≠ w.heap.size := by omega
      rw [heap_setCell_other _ _ _ _ hne, heap_setCell_other _ _ _ _ hne, heap_setCell_other _ _ _ _ hne, heap_setCell_other _ _ _ _ hne, heap_setCell_other _ _ _ _ hne, Below.heap_alloc _ _ _ ht2]
    · exact (((((HK.out.alloc HK.out.size _).setCell (Nat.le_refl _) _).setCell (Nat.le_refl _) _).setCell (Nat.le_refl _) _).setCell (Nat.le_refl _) _).setCell (Nat.le_refl _) _
theorem readDesc_any (w : World) (ao : Option Addr) (W cp : Nat) (F : Nat -> UInt8) (h : Bec w ao W cp F) (hW : 32 <= W) (hW2 : W <= 1000) :
    Calls Tryz.prog 104 #[.slice ao W cp] w fun e w' => ∃ ro rc bo m c, m = min (nm F 5 2) (dir W) /\ e = .returned (.agg #[.int .i64 ((nm F 0 4 : Nat) : Int), .int .i64 ((nm F 4 1 : Nat) : Int), .int .i64 ((nm F 5 2 : Nat) : Int), .slice ro m rc, .slice bo (W - 7 - 6 * m) c]) /\ OwR w.heap.size w' ro m rc (rdR F 7) (rdV F 7) /\ (∀ u, Bec u ao W cp F -> Bec u bo (W - 7 - 6 * m) c (fun j => F (7 + 6 * m + j))) /\ Below w.heap.size w w' := by
  refine (readDesc_go w ao W cp F h hW hW2 (nm F 0 4) (nm F 4 1) (nm F 5 2) (dir W) (min (nm F 5 2) (dir W)) rfl (nm_move F 4 0 1) (nm_congr fun i _ => by rw [Nat.zero_add, <- Nat.add_assoc]) (nm_lt F 5 2) (by unfold dir; omega) (dir_room hW) rfl).mono ?_
  rintro e w' ⟨ro, rc, bo, rfl, h1, h2, h3⟩
  refine ⟨ro, rc, bo, _, _, rfl, rfl, h1.congr fun i _ => ⟨?_, ?_⟩, fun u hu => (h2 u hu).congr fun j _ => by rw [Nat.add_assoc], h3⟩
  · unfold rdR; rw [nm_move, Nat.zero_add]
  · unfold rdV; rw [nm_move, Nat.zero_add, Nat.add_assoc]
end Go.Proofs.YtngcdlodcdgcaaaGreat.De
namespace Go.Proofs.YtngcdlodcdgcaaaGreat.De
open Go.RowKit
set_option maxHeartbeats 400000 in
set_option maxRecDepth 100000 in
theorem mayBe_any (k r c q a v : Int) (w : World) :
    Calls Tryz.prog 121 #[.agg #[.int .i64 k, .int .i64 r, .int .i64 c, .int .i64 q], .agg #[.int .i64 a, .int .i64 v]] w fun e w' => e = .returned (.bool (okR q a v)) /\ Below w.heap.size w w' := by
  have HO : Hid (okR q a v = decide (0 <= a /\ a < q /\ 1 <= v /\ v <= 1073741824)) := rfl
  go_enter Tryz.func121, Tryz.ntmps121
  go_wp2
  all_goals (go_ret; refine ⟨ret_bool ?_, (below_alloc _ _).alloc (Nat.le_of_lt (by simp)) _⟩; rw [HO.out]; first | exact decide_eq_decide.2 (by omega) | exact (decide_eq_false (by omega)).symm | exact (decide_eq_true (by omega)).symm)
set_option maxHeartbeats 400000 in
set_option maxRecDepth 100000 in
theorem notMay_any (k r c q a v : Int) (pb : Nat) (w : World) (h0 : w.cell? ⟨pb, 0, none⟩ = some (.int .i64 k)) (h1 : w.cell? ⟨pb, 1, none⟩ = some (.int .i64 r)) (h2 : w.cell? ⟨pb, 2, none⟩ = some (.int .i64 c)) (h3 : w.cell? ⟨pb, 3, none⟩ = some (.int .i64 q)) :
    Calls Tryz.prog 120 #[.agg #[.int .i64 a, .int .i64 v], .pointer (some ⟨pb, 0, none⟩)] w fun e w' => e = .returned (.bool (!okR q a v)) /\ Below w.heap.size w w' := by
  have HC := fun w => mayBe_any k r c q a v w
  obtain ⟨w0, hw0⟩ : ∃ w0, w0 = w.alloc (.cells #[.int .i64 a, .int .i64 v] 67) := ⟨_, rfl⟩
  have b0 : Below w.heap.size w w0 := by rw [hw0]; exact below_alloc _ _
  have g0 := held h0 b0
  have g1 := held h1 b0
  have g2 := held h2 b0
  have g3 := held h3 b0
  have x0 := blk_held hw0 (Below.refl _ _) 0 rfl
  have x1 := blk_held hw0 (Below.refl _ _) 1 rfl
  have u0 : ∀ o, (w.alloc o).cell? ⟨pb, 0, none⟩ = some (.int .i64 k) := fun o => held h0 (below_alloc _ _)
  have u1 : ∀ o, (w.alloc o).cell? ⟨pb, 1, none⟩ = some (.int .i64 r) := fun o => held h1 (below_alloc _ _)
  have u2 : ∀ o, (w.alloc o).cell? ⟨pb, 2, none⟩ = some (.int .i64 c) := fun o => held h2 (below_alloc _ _)
  have u3 : ∀ o, (w.alloc o).cell? ⟨pb, 3, none⟩ = some (.int .i64 q) := fun o => held h3 (below_alloc _ _)
  generalize okR q a v = b at *
  go_enter Tryz.func120, Tryz.ntmps120
  go_wp2_with fail
  rw [<- hw0]
  refine (HC _).mono ?_
  rintro e wa ⟨rfl, ha⟩
  go_wp2_with fail
  go_ret
  exact ⟨rfl, below_then b0 ha⟩
set_option maxHeartbeats 400000 in
theorem notZero_any (u : UInt8) (w : World) : Calls Tryz.prog 123 #[.int .u8 ((u.toNat : Nat) : Int)] w fun e w' => e = .returned (.bool (!decide (u = 0))) /\ Below w.heap.size w w' := by
  have HU : Hid ((u.toNat : Int) = 0 ↔ u = 0) := ⟨fun h => UInt8.toNat_inj.1 (by simpa using h), fun h => by rw [h]; rfl⟩
  obtain ⟨x, hx⟩ : ∃ x : Nat, u.toNat = x := ⟨_, rfl⟩
  rw [hx] at HU ⊢
  clear hx
  go_enter Tryz.func123, Tryz.ntmps123
  go_wp2
  go_ret
  refine ⟨ret_bool ?_, Below.refl _ _⟩
  by_cases hu : x = 0
  · rw [decide_eq_true (HU.out.1 (by omega))]; subst hu; rfl
  · rw [decide_eq_false (fun h => hu (by have := HU.out.2 h; omega))]
    have : ¬ (x : Int) = 0 := by omega
    simpa using this
def RuleR (w : World) (fn : Nat) (cp : Array Value) (n : Nat) (R V : Nat -> Int) (P : Nat -> Bool) : Prop :=
  ∀ i, i < n -> ∀ v, Below w.heap.size w v -> Calls Tryz.prog fn (#[.agg #[.int .i64 (R i), .int .i64 (V i)]] ++ cp) v fun e w' => e = .returned (.bool (P i)) /\ Below v.heap.size v w'
set_option maxHeartbeats 1000000 in
set_option maxRecDepth 100000 in
theorem indexR_any (w : World) (ao : Option Addr) (n ca fn : Nat) (cp : Array Value) (R V : Nat -> Int) (P : Nat -> Bool) (hn : n <= 1000) (hfn : ∀ xs w, (callFunc fn xs).run Tryz.prog w = .ok (.enter fn xs) w) (hr : RdR w ao n R V) (hf : RuleR w fn cp n R V P) :
    Calls Tryz.prog 136 #[.slice ao n ca, .func (.func fn) #[] cp] w fun e w' => ∃ x : Int, e = .returned (.int .i64 x) /\ decide (0 <= x) = anyB n P /\ Below w.heap.size w w' := by
  have HR : Hid (RdR w ao n R V) := hr
  have HF : Hid (RuleR w fn cp n R V P) := hf
  clear hr hf
  by_cases hall : ∀ i, i < n -> P i = false
  · have HB : Hid (anyB n P = false) := by show _ = _; unfold anyB; rw [decide_eq_true hall]; rfl
    have HA : Hid (∀ i, i < n -> P i = false) := hall
    clear hall
    go_enter Tryz.func136, Tryz.ntmps136
    go_wp2
    go_loopw [8] (fun x wr => ∃ i : Nat, i <= n /\ x = .int .i64 i /\ Hid (Below w.heap.size w wr)) (fun x _ => n - (intOf x).toNat)
    case atStart => exact ⟨0, Nat.zero_le _, rfl, Below.refl _ _⟩
    case round =>
      obtain ⟨i, hi, rfl, hbel⟩ := hrel
      by_cases hlt : i < n
      · obtain ⟨b, off, rfl, hc⟩ := (HR.out.below hbel.out) (by omega)
        obtain ⟨q0, q1⟩ := hc i hlt
        have HC := HF.out i hlt wr hbel.out
        rw [HA.out i hlt] at HC
        clear hc
        have i1 : (0 : Int) <= (i : Int) := by omega
        have i2 : (i : Int) < (n : Int) := by omega
        go_wp2_with fail
        refine HC.mono ?_
        rintro e w' ⟨rfl, hw'⟩
        have HB2 : Hid (Below w.heap.size w w') := below_then hbel.out hw'
        clear hw'
        go_wp2_with fail
        exact ⟨⟨i + 1, by omega, by go_num, HB2⟩, by simp [intOf]; omega⟩
      · go_wp2
        go_ret
        exact ⟨_, rfl, by rw [HB.out]; rfl, hbel.out⟩
  · have HB : Hid (anyB n P = true) := by show _ = _; unfold anyB; rw [decide_eq_false hall]; rfl
    obtain ⟨q, hq, hne, heq⟩ := first_not hall
    have HE : Hid (∀ i, i < q -> P i = false) := heq
    have HN : Hid (P q = true) := by show _ = _; cases h : P q; exact absurd h hne; rfl
    clear hall hne heq
    go_enter Tryz.func136, Tryz.ntmps136
    go_wp2
    go_loopw [8] (fun x wr => ∃ i : Nat, i <= q /\ x = .int .i64 i /\ Hid (Below w.heap.size w wr)) (fun x _ => n - (intOf x).toNat)
    case atStart => exact ⟨0, Nat.zero_le _, rfl, Below.refl _ _⟩
    case round =>
      obtain ⟨i, hi, rfl, hbel⟩ := hrel
      have hlt : i < n := by omega
      obtain ⟨b, off, rfl, hc⟩ := (HR.out.below hbel.out) (by omega)
      obtain ⟨q0, q1⟩ := hc i hlt
      have HC := HF.out i hlt wr hbel.out
      clear hc
      have i1 : (0 : Int) <= (i : Int) := by omega
      have i2 : (i : Int) < (n : Int) := by omega
      by_cases hiq : i < q
      · rw [HE.out i hiq] at HC
        go_wp2_with fail
        refine HC.mono ?_
        rintro e w' ⟨rfl, hw'⟩
        have HB2 : Hid (Below w.heap.size w w') := below_then hbel.out hw'
        clear hw'
        go_wp2_with fail
        exact ⟨⟨i + 1, by omega, by go_num, HB2⟩, by simp [intOf]; omega⟩
      · obtain rfl : i = q := by omega
        rw [HN.out] at HC
        go_wp2_with fail
        refine HC.mono ?_
        rintro e w' ⟨rfl, hw'⟩
        have HB2 : Hid (Below w.heap.size w w') := below_then hbel.out hw'
        clear hw'
        go_wp2_with fail
        go_ret
        exact ⟨_, rfl, by rw [HB.out]; simp, HB2.out⟩
set_option maxHeartbeats 1000000 in
theorem containsR_any (w : World) (ao : Option Addr) (n ca fn : Nat) (cp : Array Value) (R V : Nat -> Int) (P : Nat -> Bool) (hn : n <= 1000) (hfn : ∀ xs w, (callFunc fn xs).run Tryz.prog w = .ok (.enter fn xs) w) (hr : RdR w ao n R V) (hf : RuleR w fn cp n R V P) :
    Calls Tryz.prog 119 #[.slice ao n ca, .func (.func fn) #[] cp] w fun e w' => e = .returned (.bool (anyB n P)) /\ Below w.heap.size w w' := by
  have HX := indexR_any w ao n ca fn cp R V P hn hfn hr hf
  clear hr hf hfn
  go_enter Tryz.func119, Tryz.ntmps119
  go_wp2_with (go_at_call 136; refine HX.mono ?_; rintro e w' ⟨x, rfl, hx, hb⟩)
  go_ret
  exact ⟨by rw [<- hx]; rfl, hb⟩
def RuleB (w : World) (fn : Nat) (cp : Array Value) (n : Nat) (F : Nat -> UInt8) (P : Nat -> Bool) : Prop :=
  ∀ i, i < n -> ∀ v, Below w.heap.size w v -> Calls Tryz.prog fn (#[.int .u8 (((F i).toNat : Nat) : Int)] ++ cp) v fun e w' => e = .returned (.bool (P i)) /\ Below v.heap.size v w'
set_option maxHeartbeats 1000000 in
set_option maxRecDepth 100000 in
theorem indexB_any (w : World) (ao : Option Addr) (n ca fn : Nat) (cp : Array Value) (F : Nat -> UInt8) (P : Nat -> Bool) (hn : n <= 1000) (hfn : ∀ xs w, (callFunc fn xs).run Tryz.prog w = .ok (.enter fn xs) w) (hr : RdU w ao n F) (hf : RuleB w fn cp n F P) :
    Calls Tryz.prog 137 #[.slice ao n ca, .func (.func fn) #[] cp] w fun e w' => ∃ x : Int, e = .returned (.int .i64 x) /\ decide (0 <= x) = anyB n P /\ Below w.heap.size w w' := by
  have HR : Hid (RdU w ao n F) := hr
  have HF : Hid (RuleB w fn cp n F P) := hf
  clear hr hf
  by_cases hall : ∀ i, i < n -> P i = false
  · have HB : Hid (anyB n P = false) := by show _ = _; unfold anyB; rw [decide_eq_true hall]; rfl
    have HA : Hid (∀ i, i < n -> P i = false) := hall
    clear hall
    go_enter Tryz.func137, Tryz.ntmps137
    go_wp2
    go_loopw [8] (fun x wr => ∃ i : Nat, i <= n /\ x = .int .i64 i /\ Hid (Below w.heap.size w wr)) (fun x _ => n - (intOf x).toNat)
    case atStart => exact ⟨0, Nat.zero_le _, rfl, Below.refl _ _⟩
    case round =>
      obtain ⟨i, hi, rfl, hbel⟩ := hrel
      by_cases hlt : i < n
      · obtain ⟨b, off, rfl, hc⟩ := (HR.out.below hbel.out) (by omega)
        have q0 := hc i hlt
        have HC := HF.out i hlt wr hbel.out
        rw [HA.out i hlt] at HC
        clear hc
        have i1 : (0 : Int) <= (i : Int) := by omega
        have i2 : (i : Int) < (n : Int) := by omega
        go_wp2_with fail
        refine HC.mono ?_
        rintro e w' ⟨rfl, hw'⟩
        have HB2 : Hid (Below w.heap.size w w') := below_then hbel.out hw'
        clear hw'
        go_wp2_with fail
        exact ⟨⟨i + 1, by omega, by go_num, HB2⟩, by simp [intOf]; omega⟩
      · go_wp2
        go_ret
        exact ⟨_, rfl, by rw [HB.out]; rfl, hbel.out⟩
  · have HB : Hid (anyB n P = true) := by show _ = _; unfold anyB; rw [decide_eq_false hall]; rfl
    obtain ⟨q, hq, hne, heq⟩ := first_not hall
    have HE : Hid (∀ i, i < q -> P i = false) := heq
    have HN : Hid (P q = true) := by show _ = _; cases h : P q; exact absurd h hne; rfl
    clear hall hne heq
    go_enter Tryz.func137, Tryz.ntmps137
    go_wp2
    go_loopw [8] (fun x wr => ∃ i : Nat, i <= q /\ x = .int .i64 i /\ Hid (Below w.heap.size w wr)) (fun x _ => n - (intOf x).toNat)
    case atStart => exact ⟨0, Nat.zero_le _, rfl, Below.refl _ _⟩
    case round =>
      obtain ⟨i, hi, rfl, hbel⟩ := hrel
      have hlt : i < n := by omega
      obtain ⟨b, off, rfl, hc⟩ := (HR.out.below hbel.out) (by omega)
      have q0 := hc i hlt
      have HC := HF.out i hlt wr hbel.out
      clear hc
      have i1 : (0 : Int) <= (i : Int) := by omega
      have i2 : (i : Int) < (n : Int) := by omega
      by_cases hiq : i < q
      · rw [HE.out i hiq] at HC
        go_wp2_with fail
        refine HC.mono ?_
        rintro e w' ⟨rfl, hw'⟩
        have HB2 : Hid (Below w.heap.size w w') := below_then hbel.out hw'
        clear hw'
        go_wp2_with fail
        exact ⟨⟨i + 1, by omega, by go_num, HB2⟩, by simp [intOf]; omega⟩
      · obtain rfl : i = q := by omega
        rw [HN.out] at HC
        go_wp2_with fail
        refine HC.mono ?_
        rintro e w' ⟨rfl, hw'⟩
        have HB2 : Hid (Below w.heap.size w w') := below_then hbel.out hw'
        clear hw'
        go_wp2_with fail
        go_ret
        exact ⟨_, rfl, by rw [HB.out]; simp, HB2.out⟩
set_option maxHeartbeats 1000000 in
theorem containsB_any (w : World) (ao : Option Addr) (n ca fn : Nat) (cp : Array Value) (F : Nat -> UInt8) (P : Nat -> Bool) (hn : n <= 1000) (hfn : ∀ xs w, (callFunc fn xs).run Tryz.prog w = .ok (.enter fn xs) w) (hr : RdU w ao n F) (hf : RuleB w fn cp n F P) :
    Calls Tryz.prog 122 #[.slice ao n ca, .func (.func fn) #[] cp] w fun e w' => e = .returned (.bool (anyB n P)) /\ Below w.heap.size w w' := by
  have HX := indexB_any w ao n ca fn cp F P hn hfn hr hf
  clear hr hf hfn
  go_enter Tryz.func122, Tryz.ntmps122
  go_wp2_with (go_at_call 137; refine HX.mono ?_; rintro e w' ⟨x, rfl, hx, hb⟩)
  go_ret
  exact ⟨by rw [<- hx]; rfl, hb⟩
end Go.Proofs.YtngcdlodcdgcaaaGreat.De
