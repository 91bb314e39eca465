/- What descriptors bytes are, by the program. -/
import Derived.Test.YtjncnojplkljnaaDsC
namespace Go.Proofs.Ytjncnojplkljnaa
open Go.RowKit

theorem con_held {w w0 w1 : World} {x0 x1 x2 x3 x4 : Value} {t : TypeId} (h0 : w0 = w.alloc (.cells #[x0, x1, x2, x3, x4] t)) (hb : Below w0.heap.size w0 w1) :
    (w1.cell? ⟨w.heap.size, 0, none⟩ = some x0 ∧ w1.cell? ⟨w.heap.size, 1, none⟩ = some x1 ∧ w1.cell? ⟨w.heap.size, 2, none⟩ = some x2 ∧ w1.cell? ⟨w.heap.size, 3, none⟩ = some x3 ∧ w1.cell? ⟨w.heap.size, 4, none⟩ = some x4) ∧ ∀ i, w1.frozen? ⟨w.heap.size, i, none⟩ = false := ⟨mea_held h0 hb, blk_free h0 hb⟩
set_option maxHeartbeats 4000000 in
set_option maxRecDepth 100000 in
theorem readDesc_go (w : World) (ao : Option Addr) (W cp : Nat) (F : Nat → UInt8) (h : Bec w ao W cp F) (hW : 32 ≤ W) (hW2 : W ≤ 1000) (A D M dd m : Nat) (hA : nm F 0 4 = A) (hD : nm (fun j => F (4 + j)) 0 1 = D) (hMM : nm (fun j => F (4 + (1 + j))) 0 2 = M) (hM : M < 65536) (hdw : ((W - 7 : Nat) : Int) / 6 = (dd : Int)) (hd : 7 + 6 * dd ≤ W) (hm : m = min M dd) :
    Calls Try.prog 38 #[.slice ao W cp] w fun e w' => ∃ ro rc bo, e = .returned (.agg #[.int .i64 (A : Int), .int .i64 (D : Int), .int .i64 (M : Int), .slice ro m rc, .slice bo (W - 7 - 6 * m) (cp - 7 - 6 * m)]) ∧ OwR w.heap.size w' ro m rc (rdR (fun j => F (7 + j)) 0) (rdV (fun j => F (7 + j)) 0) ∧ (∀ u, Bec u ao W cp F → Bec u bo (W - 7 - 6 * m) (cp - 7 - 6 * m) (fun j => F (7 + (6 * m + j)))) ∧ Below w.heap.size w w' := by
  have HX : Hid (Bec w ao W cp F) := h
  have hroom := h.room
  have C1 := fun w h => takeNumber_any w ao W cp 4 F h (by omega) (by omega) (by omega)
  have C2 := fun w ao h => takeNumber_any w ao (W - 4) (cp - 4) 1 (fun j => F (4 + j)) h (by omega) (by omega) (by omega)
  have C3 := fun w ao h => takeNumber_any w ao (W - 4 - 1) (cp - 4 - 1) 2 (fun j => F (4 + (1 + j))) h (by omega) (by omega) (by omega)
  have e4 : (fun j => F (4 + (1 + (2 + j)))) = fun j => F (7 + j) := by funext j; rw [show 4 + (1 + (2 + j)) = 7 + j by omega]
  have e5 : W - 4 - 1 - 2 = W - 7 := by omega
  have e6 : cp - 4 - 1 - 2 = cp - 7 := by omega
  rw [hA] at C1
  rw [hD] at C2
  rw [hMM, e4, e5, e6] at C3
  have C4 := fun w ao h => readLeaf_any w ao (W - 7) (cp - 7) m (fun j => F (7 + j)) h (by omega) (by omega)
  have e7 : IntKind.i64.wrap (((W - 7 : Nat) : Int) / 6) = (dd : Int) := by rw [hdw, IntKind.wrap_i64]; omega
  clear hA hD hMM e4 e5 e6 h
  have hdd : dd ≤ 1000 := by omega
  generalize W - 4 = l1 at *
  generalize cp - 4 = c1 at *
  generalize l1 - 1 = l2 at *
  generalize c1 - 1 = c2 at *
  generalize rdR (fun j => F (7 + j)) 0 = R at *
  generalize rdV (fun j => F (7 + j)) 0 = V at *
  obtain ⟨l3, hl3⟩ : ∃ l, l = W - 7 := ⟨_, rfl⟩
  obtain ⟨c3, hc3⟩ : ∃ l, l = cp - 7 := ⟨_, rfl⟩
  rw [← hl3] at C3 C4 hdw e7 ⊢
  rw [← hc3] at C3 C4 ⊢
  have hl4 : l3 ≤ 1000 := by omega
  generalize l3 - 6 * m = l4 at *
  generalize c3 - 6 * m = c4 at *
  clear hl3 hc3 hroom hd
  obtain ⟨w0, hw0⟩ : ∃ w0, w0 = w.alloc (.cells #[.int .i64 0, .int .i64 0, .int .i64 0, .slice none 0 0, .slice none 0 0] 56) := ⟨_, rfl⟩
  have b0 : Below w.heap.size w w0 := by rw [hw0]; exact below_alloc _ _
  by_cases hlt : (dd : Int) < (M : Int)
  · obtain rfl : m = dd := by omega
    clear hm
    go_enter Try.func38, Try.ntmps38
    go_wp2_with fail
    rw [← hw0]
    refine (C1 _ (HX.out.below b0)).mono ?_
    rintro e wa ⟨bo1, rfl, hb1, ha⟩
    have k1 := below_then b0 ha
    go_wp2_with fail
    refine (C2 _ bo1 (hb1 _ (HX.out.below k1))).mono ?_
    rintro e wb ⟨bo2, rfl, hb2, hb⟩
    have k2 := below_then k1 hb
    go_wp2_with fail
    refine (C3 _ bo2 (hb2 _ (hb1 _ (HX.out.below k2)))).mono ?_
    rintro e wc ⟨bo3, rfl, hb3, hc⟩
    have k3 := below_then (below_then ha hb) hc
    have HB4 : Hid (∀ u, Bec u ao W cp F → Bec u bo3 l3 c3 (fun j => F (7 + j))) := fun u hu => hb3 _ (hb2 _ (hb1 _ hu))
    clear ha hb hc hb1 hb2 hb3 k1 k2
    go_wp2_with fail
    refine (C4 _ bo3 (HB4.out _ (HX.out.below (below_then b0 k3)))).mono ?_
    rintro e wd ⟨ro, rc, bo, rfl, hown, hbo, hd⟩
    have k4 := below_then k3 hd
    have hu : ∀ o, Below w0.heap.size w0 (wd.alloc o) := fun o => k4.alloc k4.size o
    have m0 := fun o => (con_held hw0 (hu o)).1.1
    have m1 := fun o => (con_held hw0 (hu o)).1.2.1
    have m2 := fun o => (con_held hw0 (hu o)).1.2.2.1
    have m3 := fun o => (con_held hw0 (hu o)).1.2.2.2.1
    have m4 := fun o => (con_held hw0 (hu o)).1.2.2.2.2
    have f := fun o i => (con_held hw0 (hu o)).2 i
    have HS : Hid (w.heap.size + 1 ≤ wc.heap.size) := by show _ ≤ _; have := k3.size; rw [hw0] at this; simpa using this
    have HK : Hid (Below w.heap.size w wd) := below_then b0 k4
    have HOW : Hid (OwR wc.heap.size wd ro m rc R V) := hown
    have HBO : Hid (∀ u, Bec u ao W cp F → Bec u bo l4 c4 (fun j => F (7 + (6 * m + j)))) := fun u hu => hbo u (HB4.out u hu)
    have HWC : Hid (wc.heap.size ≤ wd.heap.size) := hd.size
    clear hw0 hu k3 k4 hown hbo hd HB4
    go_wp2_with fail
    refine bodyPost_ret (v := .agg #[.int .i64 (A : Int), .int .i64 (D : Int), .int .i64 (M : Int), .slice ro m rc, .slice bo l4 c4]) (by simp [results, Try.results38, go_sem, m0, m1, m2, m3, m4]) rfl ⟨ro, rc, bo, rfl, ?_, HBO.out, ?_⟩
    · have h5 := HS.out
      have h6 := HWC.out
      refine OwR.mono (B := wc.heap.size) (HOW.out.stay fun t ht ht2 => ?_) (by omega)
      have hne : t ≠ w.heap.size := by omega
      rw [heap_setCell_other _ _ _ _ hne, heap_setCell_other _ _ _ _ hne, heap_setCell_other _ _ _ _ hne, heap_setCell_other _ _ _ _ hne, heap_setCell_other _ _ _ _ hne, Below.heap_alloc _ _ _ ht2]
    · exact (((((HK.out.alloc HK.out.size _).setCell (Nat.le_refl _) _).setCell (Nat.le_refl _) _).setCell (Nat.le_refl _) _).setCell (Nat.le_refl _) _).setCell (Nat.le_refl _) _
  · obtain rfl : m = M := by omega
    clear hm
    go_enter Try.func38, Try.ntmps38
    go_wp2_with fail
    rw [← hw0]
    refine (C1 _ (HX.out.below b0)).mono ?_
    rintro e wa ⟨bo1, rfl, hb1, ha⟩
    have k1 := below_then b0 ha
    go_wp2_with fail
    refine (C2 _ bo1 (hb1 _ (HX.out.below k1))).mono ?_
    rintro e wb ⟨bo2, rfl, hb2, hb⟩
    have k2 := below_then k1 hb
    go_wp2_with fail
    refine (C3 _ bo2 (hb2 _ (hb1 _ (HX.out.below k2)))).mono ?_
    rintro e wc ⟨bo3, rfl, hb3, hc⟩
    have k3 := below_then (below_then ha hb) hc
    have HB4 : Hid (∀ u, Bec u ao W cp F → Bec u bo3 l3 c3 (fun j => F (7 + j))) := fun u hu => hb3 _ (hb2 _ (hb1 _ hu))
    clear ha hb hc hb1 hb2 hb3 k1 k2
    go_wp2_with fail
    refine (C4 _ bo3 (HB4.out _ (HX.out.below (below_then b0 k3)))).mono ?_
    rintro e wd ⟨ro, rc, bo, rfl, hown, hbo, hd⟩
    have k4 := below_then k3 hd
    have hu : ∀ o, Below w0.heap.size w0 (wd.alloc o) := fun o => k4.alloc k4.size o
    have m0 := fun o => (con_held hw0 (hu o)).1.1
    have m1 := fun o => (con_held hw0 (hu o)).1.2.1
    have m2 := fun o => (con_held hw0 (hu o)).1.2.2.1
    have m3 := fun o => (con_held hw0 (hu o)).1.2.2.2.1
    have m4 := fun o => (con_held hw0 (hu o)).1.2.2.2.2
    have f := fun o i => (con_held hw0 (hu o)).2 i
    have HS : Hid (w.heap.size + 1 ≤ wc.heap.size) := by show _ ≤ _; have := k3.size; rw [hw0] at this; simpa using this
    have HK : Hid (Below w.heap.size w wd) := below_then b0 k4
    have HOW : Hid (OwR wc.heap.size wd ro m rc R V) := hown
    have HBO : Hid (∀ u, Bec u ao W cp F → Bec u bo l4 c4 (fun j => F (7 + (6 * m + j)))) := fun u hu => hbo u (HB4.out u hu)
    have HWC : Hid (wc.heap.size ≤ wd.heap.size) := hd.size
    clear hw0 hu k3 k4 hown hbo hd HB4
    go_wp2_with fail
    refine bodyPost_ret (v := .agg #[.int .i64 (A : Int), .int .i64 (D : Int), .int .i64 (m : Int), .slice ro m rc, .slice bo l4 c4]) (by simp [results, Try.results38, go_sem, m0, m1, m2, m3, m4]) rfl ⟨ro, rc, bo, rfl, ?_, HBO.out, ?_⟩
    · have h5 := HS.out
      have h6 := HWC.out
      refine OwR.mono (B := wc.heap.size) (HOW.out.stay fun t ht ht2 => ?_) (by omega)
      have hne : t ≠ w.heap.size := by omega
      rw [heap_setCell_other _ _ _ _ hne, heap_setCell_other _ _ _ _ hne, heap_setCell_other _ _ _ _ hne, heap_setCell_other _ _ _ _ hne, heap_setCell_other _ _ _ _ hne, Below.heap_alloc _ _ _ ht2]
    · exact (((((HK.out.alloc HK.out.size _).setCell (Nat.le_refl _) _).setCell (Nat.le_refl _) _).setCell (Nat.le_refl _) _).setCell (Nat.le_refl _) _).setCell (Nat.le_refl _) _
theorem readDesc_any (w : World) (ao : Option Addr) (W cp : Nat) (F : Nat → UInt8) (h : Bec w ao W cp F) (hW : 32 ≤ W) (hW2 : W ≤ 1000) :
    Calls Try.prog 38 #[.slice ao W cp] w fun e w' => ∃ ro rc bo m c, m = min (nm F 5 2) (dir W) ∧ e = .returned (.agg #[.int .i64 ((nm F 0 4 : Nat) : Int), .int .i64 ((nm F 4 1 : Nat) : Int), .int .i64 ((nm F 5 2 : Nat) : Int), .slice ro m rc, .slice bo (W - 7 - 6 * m) c]) ∧ OwR w.heap.size w' ro m rc (rdR F 7) (rdV F 7) ∧ (∀ u, Bec u ao W cp F → Bec u bo (W - 7 - 6 * m) c (fun j => F (7 + 6 * m + j))) ∧ Below w.heap.size w w' := by
  refine (readDesc_go w ao W cp F h hW hW2 (nm F 0 4) (nm F 4 1) (nm F 5 2) (dir W) (min (nm F 5 2) (dir W)) rfl (nm_move F 4 0 1) (nm_congr fun i _ => by rw [Nat.zero_add, ← Nat.add_assoc]) (nm_lt F 5 2) (by unfold dir; omega) (dir_room hW) rfl).mono ?_
  rintro e w' ⟨ro, rc, bo, rfl, h1, h2, h3⟩
  refine ⟨ro, rc, bo, _, _, rfl, rfl, h1.congr fun i _ => ⟨?_, ?_⟩, fun u hu => (h2 u hu).congr fun j _ => by rw [Nat.add_assoc], h3⟩
  · unfold rdR; rw [nm_move, Nat.zero_add]
  · unfold rdV; rw [nm_move, Nat.zero_add, Nat.add_assoc]
end Go.Proofs.Ytjncnojplkljnaa
