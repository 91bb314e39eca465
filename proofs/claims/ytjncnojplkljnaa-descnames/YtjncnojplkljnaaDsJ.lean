/- A descriptor's bytes and a leaf's, by the program. -/
import Derived.Test.YtjncnojplkljnaaDsI
import Derived.Test.YtjncnojplkljnaaDsF
import Derived.Deep.RegionHeld3
namespace Go.Proofs.Ytjncnojplkljnaa
open Go.RowKit

def lenE (E : Int) (n : Nat) : Nat := if E = 0 then n else 0
theorem lenE_zero (n : Nat) : lenE 0 n = n := if_pos rfl
theorem lenE_not {E : Int} (h : E ≠ 0) (n : Nat) : lenE E n = 0 := if_neg h
/-- Bytes of the call's own, and an error. -/
def AnsB (w : World) (E : Int) (W : Nat) (G : Nat → UInt8) (e : Ending) (w' : World) : Prop :=
  ∃ ao cp, e = .returned (.tuple #[.slice ao (lenE E W) cp, .int .i64 E]) ∧ OwU w.heap.size w' ao (lenE E W) cp G ∧ Below w.heap.size w w'
theorem stg_desc {len dep : Int} {n : Nat} {R V : Nat → Int} (j : Nat) : stg 7 (hdB len.toNat dep.toNat n) n R V j = deB len dep n R V j := by
  unfold stg hdB deB
  by_cases h4 : j < 4
  · rw [if_pos (by omega), if_pos h4, if_pos h4]
  · by_cases h5 : j < 5
    · rw [if_pos (by omega), if_neg h4, if_neg h4, if_pos h5, if_pos h5]
    · by_cases h7 : j < 7
      · rw [if_pos h7, if_neg h4, if_neg h4, if_neg h5, if_neg h5, if_pos h7]
      · rw [if_neg h7, if_neg h4, if_neg h5, if_neg h7]
theorem okL_nums {q : Int} {n : Nat} {R V : Nat → Int} (hq : q ≤ 256) (h : okL q n R V = true) : ∀ i, i < n → (0 ≤ R i ∧ R i < 4294967296) ∧ 0 ≤ V i ∧ V i < 4294967296 := fun i hi => by
  have := okR_true (okL_true h i hi)
  omega
set_option maxHeartbeats 4000000 in
set_option maxRecDepth 100000 in
theorem Bytes_any {k r c q : Int} {N W : Nat} {y : Int} (h : Par k r c q N W y) (w : World) (len dep : Int) (ro : Option Addr) (n rc : Nat) (R V : Nat → Int) (hR : Rec w ro n rc R V) (E : Int) (hE : erD y W q len dep n R V = E) :
    Calls Try.prog 14 #[.agg #[.int .i64 k, .int .i64 r, .int .i64 c, .int .i64 q], .agg #[.int .i64 len, .int .i64 dep, .slice ro n rc]] w (AnsB w E W (deB len dep n R V)) := by
  have HC := fun v hv => DCheck_any h v len dep ro n rc R V hv
  rw [hE] at HC
  have HR : Hid (Rec w ro n rc R V) := hR
  clear hR
  unfold AnsB
  obtain ⟨w0, hw0⟩ : ∃ w0, w0 = w.alloc (.cells #[.int .i64 k, .int .i64 r, .int .i64 c, .int .i64 q] 24) := ⟨_, rfl⟩
  obtain ⟨w1, hw1⟩ : ∃ w1, w1 = w0.alloc (.cells #[.int .i64 len, .int .i64 dep, .slice ro n rc] 35) := ⟨_, rfl⟩
  have b0 : Below w.heap.size w w0 := by rw [hw0]; exact below_alloc _ _
  have b1 : Below w0.heap.size w0 w1 := by rw [hw1]; exact below_alloc _ _
  have z0 : w0.heap.size = w.heap.size + 1 := by rw [hw0]; simp
  have HBB : Hid (Below w.heap.size w w1) := below_then b0 b1
  have HP : Hid (∀ u, Below w1.heap.size w1 u → (u.cell? ⟨w.heap.size, 0, none⟩ = some (.int .i64 k) ∧ u.cell? ⟨w.heap.size, 1, none⟩ = some (.int .i64 r) ∧ u.cell? ⟨w.heap.size, 2, none⟩ = some (.int .i64 c) ∧ u.cell? ⟨w.heap.size, 3, none⟩ = some (.int .i64 q)) ∧ u.cell? ⟨w.heap.size + 1, 0, none⟩ = some (.int .i64 len) ∧ u.cell? ⟨w.heap.size + 1, 1, none⟩ = some (.int .i64 dep) ∧ u.cell? ⟨w.heap.size + 1, 2, none⟩ = some (.slice ro n rc)) := fun u hu => ⟨par_held hw0 (below_then b1 hu), by rw [← z0]; exact ⟨blk_held hw1 hu 0 rfl, blk_held hw1 hu 1 rfl, blk_held hw1 hu 2 rfl⟩⟩
  by_cases hz : E = 0
  · subst hz
    obtain ⟨rfl, hok⟩ := erD_of hE
    obtain ⟨hmy, hW, hW2, hq⟩ := h.fine
    obtain ⟨g1, g2, g3, g4, g5⟩ := okD_few hW hok
    have hdr := dir_room hW
    have hdl := dir_le hW2
    have HS := fun v ho hc hv => stripeOf_any h v ho 7 hc (hdB len.toNat dep.toNat n) hv ro n rc R V
    have HN : Hid (∀ i, i < n → (0 ≤ R i ∧ R i < 4294967296) ∧ 0 ≤ V i ∧ V i < 4294967296) := okL_nums hq g5
    have HH := fun v => appendHead_any v len.toNat dep.toNat n rc ro (by omega) (by omega) (by omega)
    rw [show ((len.toNat : Nat) : Int) = len by omega, show ((dep.toNat : Nat) : Int) = dep by omega] at HH
    rw [lenE_zero]
    have HG : Hid (∀ j, stg 7 (hdB len.toNat dep.toNat n) n R V j = deB len dep n R V j) := fun j => stg_desc j
    have hfit : 7 + 6 * n ≤ W := by omega
    clear h hE hok g1 g2 g3 g4 g5 hdr hdl hmy
    generalize hdB len.toNat dep.toNat n = HD at *
    go_enter Try.func14, Try.ntmps14
    go_wp2_with fail
    rw [← hw0, ← hw1]
    refine (HC _ (HR.out.rd.below HBB.out)).mono ?_
    rintro e wa ⟨rfl, ha⟩
    obtain ⟨⟨p0, p1, p2, p3⟩, d0, d1, d2⟩ := HP.out _ ha
    have HB1 : Hid (Below w1.heap.size w1 wa) := ha
    clear hw0 hw1 z0 b0 b1 ha
    go_wp2_with fail
    have HT : Hid (∀ v, Below wa.drew.heap.size wa.drew v → Below w1.heap.size w1 v) := fun v hv => below_then HB1.out (of_drew hv)
    go_region_held3 (fun u => (u.cell? ⟨w.heap.size, 0, none⟩ = some (.int .i64 k) ∧ u.cell? ⟨w.heap.size, 1, none⟩ = some (.int .i64 r) ∧ u.cell? ⟨w.heap.size, 2, none⟩ = some (.int .i64 c) ∧ u.cell? ⟨w.heap.size, 3, none⟩ = some (.int .i64 q)) ∧ u.cell? ⟨w.heap.size + 1, 0, none⟩ = some (.int .i64 len) ∧ u.cell? ⟨w.heap.size + 1, 1, none⟩ = some (.int .i64 dep) ∧ u.cell? ⟨w.heap.size + 1, 2, none⟩ = some (.slice ro n rc)) (go_keep)
      ((first
        | (go_at_call 37; refine (HH _).mono ?_; rintro e wb ⟨uo, uc, rfl, hu, hb⟩; obtain ⟨⟨q0, q1, q2, q3⟩, e0, e1, e2⟩ := HP.out _ (HT.out _ hb))
        | (go_at_call 34; refine (HS _ _ _ (hu.bec) (HR.out.below (below_then HBB.out (HT.out _ hb))) hfit HN.out).mono ?_; rintro e wc ⟨g, rfl, hg, hgl, hc⟩; obtain ⟨⟨t0, t1, t2, t3⟩, f0, f1, f2⟩ := HP.out _ (below_then (HT.out _ hb) hc))))
    all_goals (
      go_wp2
      go_ret2
      have hB := below_then HBB.out (below_then (HT.out _ hb) hc)
      exact ⟨some ⟨g, 0, none⟩, W, rfl, (hg.congr fun j _ => HG.out j).own (Nat.le_trans (below_then HBB.out (HT.out _ hb)).size hgl) (by omega), hB⟩)
  · have hz2 : (E != 0) = true := by simpa using hz
    rw [lenE_not hz]
    clear h hE hz
    go_enter Try.func14, Try.ntmps14
    go_wp2_with fail
    rw [← hw0, ← hw1]
    refine (HC _ (HR.out.rd.below HBB.out)).mono ?_
    rintro e wa ⟨rfl, ha⟩
    clear hw0 hw1 z0 b0 b1
    go_wp2_with fail
    go_ret2
    exact ⟨none, 0, rfl, owu_nil _ _ _, below_then HBB.out ha⟩
end Go.Proofs.Ytjncnojplkljnaa
