/- A leaf's bytes, by the program. -/
import Derived.Test.YtjncnojplkljnaaDsJ
namespace Go.Proofs.Ytjncnojplkljnaa
open Go.RowKit

theorem stg_leaf {n : Nat} {R V : Nat → Int} {H : Nat → UInt8} (j : Nat) : stg 0 H n R V j = lfB n R V j := by
  unfold stg; rw [if_neg (by omega), Nat.sub_zero]
set_option maxHeartbeats 4000000 in
set_option maxRecDepth 100000 in
theorem Leaf_ok {k r c q : Int} {N W : Nat} (h : Par k r c q N W 0) (w : World) (ro : Option Addr) (n rc : Nat) (R V : Nat → Int) (hR : Rec w ro n rc R V) (h1 : 1 ≤ n) (h2 : n ≤ lea W) (E : Int) (hE : (if okL q n R V = true then (0 : Int) else 150) = E) :
    Calls Try.prog 11 #[.agg #[.int .i64 k, .int .i64 r, .int .i64 c, .int .i64 q], .slice ro n rc] w (AnsB w E W (lfB n R V)) := by
  obtain ⟨hmy, hW, hW2, hq⟩ := h.fine
  have hll := lea_le hW2
  have hlr := lea_room W
  have HC := fun v => checkMany_any h (n : Int) v
  rw [if_pos rfl, if_neg (by omega)] at HC
  have HF := fun v hr => fw_leaf h v 0 0 0 ro n rc R V hr (by omega) none 0 0 (fun _ => 0) (fun hh => absurd hh (Nat.lt_irrefl 0)) (by omega)
  rw [show (okL q n R V && !anyB 0 (fun j => !decide ((fun _ => (0 : UInt8)) j = 0))) = okL q n R V from by show (okL q n R V && true) = _; simp] at HF
  have HS := fun v hr hok => stripeOf_any h v none 0 0 (fun _ => 0) (bec_nil _ _) ro n rc R V hr (by omega) hok
  have HN : Hid (okL q n R V = true → ∀ i, i < n → (0 ≤ R i ∧ R i < 4294967296) ∧ 0 ≤ V i ∧ V i < 4294967296) := fun h => okL_nums hq h
  have HR : Hid (Rec w ro n rc R V) := hR
  have HE : Hid ((if okL q n R V = true then (0 : Int) else 150) = E) := hE
  have HG : Hid (∀ j, stg 0 (fun _ => 0) n R V j = lfB n R V j) := fun j => stg_leaf j
  clear h hR hE hmy hq hll hlr
  unfold AnsB
  generalize okL q n R V = ok at *
  obtain ⟨w0, hw0⟩ : ∃ w0, w0 = w.alloc (.cells #[.int .i64 k, .int .i64 r, .int .i64 c, .int .i64 q] 24) := ⟨_, rfl⟩
  have b0 : Below w.heap.size w w0 := by rw [hw0]; exact below_alloc _ _
  have HP : Hid (∀ u, Below w0.heap.size w0 u → u.cell? ⟨w.heap.size, 0, none⟩ = some (.int .i64 k) ∧ u.cell? ⟨w.heap.size, 1, none⟩ = some (.int .i64 r) ∧ u.cell? ⟨w.heap.size, 2, none⟩ = some (.int .i64 c) ∧ u.cell? ⟨w.heap.size, 3, none⟩ = some (.int .i64 q)) := fun u hu => par_held hw0 hu
  have HBB : Hid (Below w.heap.size w w0) := b0
  cases ok
  · obtain rfl : (150 : Int) = E := HE.out
    rw [lenE_not (by decide)]
    go_enter Try.func11, Try.ntmps11
    go_wp2_with fail
    rw [← hw0]
    clear hw0 b0
    refine (HC _).mono ?_
    rintro e wa ⟨rfl, ha⟩
    have s0 := fun o => (HP.out (wa.alloc o) (ha.alloc ha.size o)).1
    have s1 := fun o => (HP.out (wa.alloc o) (ha.alloc ha.size o)).2.1
    have s2 := fun o => (HP.out (wa.alloc o) (ha.alloc ha.size o)).2.2.1
    have s3 := fun o => (HP.out (wa.alloc o) (ha.alloc ha.size o)).2.2.2
    have HK : Hid (∀ o, Below w0.heap.size w0 (wa.alloc o)) := fun o => ha.alloc ha.size o
    clear ha
    go_wp2_with fail
    refine (HF _ (HR.out.rd.below (below_then HBB.out (HK.out _)))).mono ?_
    rintro e wb ⟨pt, rfl, hpt, hb⟩
    have HPT : Hid ((if pt = 5 then (0 : Int) else 150) = 150) := if_neg (by simpa using hpt)
    have HK2 : Hid (Below w.heap.size w wb) := below_then (below_then HBB.out (HK.out _)) hb
    clear hb hpt
    go_wp2_with fail
    refine (err_any pt _).mono ?_
    rintro e wc ⟨rfl, hwc⟩
    obtain rfl := hwc.symm
    rw [HPT.out]
    go_wp2_with fail
    go_ret2
    exact ⟨none, 0, rfl, owu_nil _ _ _, HK2.out⟩
  · obtain rfl : (0 : Int) = E := HE.out
    rw [lenE_zero]
    go_enter Try.func11, Try.ntmps11
    go_wp2_with fail
    rw [← hw0]
    clear hw0 b0
    refine (HC _).mono ?_
    rintro e wa ⟨rfl, ha⟩
    have s0 := fun o => (HP.out (wa.alloc o) (ha.alloc ha.size o)).1
    have s1 := fun o => (HP.out (wa.alloc o) (ha.alloc ha.size o)).2.1
    have s2 := fun o => (HP.out (wa.alloc o) (ha.alloc ha.size o)).2.2.1
    have s3 := fun o => (HP.out (wa.alloc o) (ha.alloc ha.size o)).2.2.2
    have HK : Hid (∀ o, Below w0.heap.size w0 (wa.alloc o)) := fun o => ha.alloc ha.size o
    clear ha
    go_wp2_with fail
    refine (HF _ (HR.out.rd.below (below_then HBB.out (HK.out _)))).mono ?_
    rintro e wb ⟨pt, rfl, hpt, hb⟩
    have HPT : Hid ((if pt = 5 then (0 : Int) else 150) = 0) := if_pos (by simpa using hpt)
    have HK2 : Hid (Below w0.heap.size w0 wb) := below_then (HK.out _) hb
    clear hb hpt s0 s1 s2 s3
    obtain ⟨s0, s1, s2, s3⟩ := HP.out wb HK2.out
    go_wp2_with fail
    refine (err_any pt _).mono ?_
    rintro e wc ⟨rfl, hwc⟩
    obtain rfl := hwc.symm
    rw [HPT.out]
    go_wp2_with fail
    refine (HS _ (HR.out.below (below_then HBB.out HK2.out)) (HN.out (by trivial))).mono ?_
    rintro e wd ⟨g, rfl, hg, hgl, hd⟩
    have HB3 := below_then HBB.out HK2.out
    go_wp2_with fail
    go_ret2
    exact ⟨some ⟨g, 0, none⟩, W, rfl, (hg.congr fun j _ => HG.out j).own (Nat.le_trans HB3.size hgl) (by omega), below_then HB3 hd⟩
set_option maxHeartbeats 4000000 in
set_option maxRecDepth 100000 in
theorem Leaf_no {k r c q : Int} {N W : Nat} {y : Int} (h : Par k r c q N W y) (w : World) (ro : Option Addr) (n rc : Nat) (E : Int) (hE : (if y = 0 then (if (n : Int) < 1 ∨ ((lea W : Nat) : Int) < (n : Int) then (20 : Int) else 0) else y) = E) (hne : E ≠ 0) (G : Nat → UInt8) :
    Calls Try.prog 11 #[.agg #[.int .i64 k, .int .i64 r, .int .i64 c, .int .i64 q], .slice ro n rc] w (AnsB w E W G) := by
  have HC := fun v => checkMany_any h (n : Int) v
  rw [hE] at HC
  have hz2 : (E != 0) = true := by simpa using hne
  unfold AnsB
  rw [lenE_not hne]
  clear h hE hne
  obtain ⟨w0, hw0⟩ : ∃ w0, w0 = w.alloc (.cells #[.int .i64 k, .int .i64 r, .int .i64 c, .int .i64 q] 24) := ⟨_, rfl⟩
  have b0 : Below w.heap.size w w0 := by rw [hw0]; exact below_alloc _ _
  go_enter Try.func11, Try.ntmps11
  go_wp2_with fail
  rw [← hw0]
  refine (HC _).mono ?_
  rintro e wa ⟨rfl, ha⟩
  clear hw0
  go_wp2_with fail
  go_ret2
  exact ⟨none, 0, rfl, owu_nil _ _ _, below_then b0 ha⟩
theorem DLeaf_any {k r c q : Int} {N W : Nat} {y : Int} (h : Par k r c q N W y) (w : World) (ro : Option Addr) (n rc : Nat) (R V : Nat → Int) (hR : Rec w ro n rc R V) (E : Int) (hE : erL y W q n R V = E) :
    Calls Try.prog 11 #[.agg #[.int .i64 k, .int .i64 r, .int .i64 c, .int .i64 q], .slice ro n rc] w (AnsB w E W (lfB n R V)) := by
  unfold erL at hE
  rcases h.err with rfl | rfl
  · rw [if_pos rfl] at hE
    by_cases hn : n < 1 ∨ lea W < n
    · rw [if_pos hn] at hE
      exact Leaf_no h w ro n rc E (by rw [if_pos rfl, if_pos (by omega)]; exact hE) (by rw [← hE]; decide) _
    · rw [if_neg hn] at hE
      exact Leaf_ok h w ro n rc R V hR (by omega) (by omega) E hE
  · rw [if_neg (by decide)] at hE
    exact Leaf_no h w ro n rc E (by rw [if_neg (by decide)]; exact hE) (by rw [← hE]; decide) _
end Go.Proofs.Ytjncnojplkljnaa
