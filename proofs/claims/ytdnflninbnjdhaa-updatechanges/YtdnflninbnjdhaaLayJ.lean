/- The loop that cuts a range into parts. -/
import Derived.Test.YtdnflninbnjdhaaLayI
namespace Go.Proofs.Ytdnflninbnjdhaa
open Go.RowKit

theorem val_int {a b : Int} (h : a = b) : Value.int .i64 a = .int .i64 b := by rw [h]
set_option maxHeartbeats 2000000 in
set_option maxRecDepth 100000 in
theorem cut_any (w : World) (bs bm bp o nn c W k : Nat) (hs : w.cell? ⟨bs, 0, none⟩ = some (.slice none 0 0)) (hf : w.frozen? ⟨bs, 0, none⟩ = false) (hm : w.cell? ⟨bm, 1, none⟩ = some (.int .i64 (W : Int))) (hp : w.cell? ⟨bp, 2, none⟩ = some (.int .i64 (c : Int)))
    (n1 : bm ≠ bs) (n2 : bp ≠ bs) (hWk : W = k * c) (hk : 1 ≤ k) (hc1 : 8 ≤ c) (hc2 : c ≤ 64) (hW2 : W ≤ 768) (hon : o + nn ≤ 32768) :
    Calls Try.prog 22 #[.int .i64 (o : Int), .int .i64 (nn : Int), .int .i64 (c : Int), .func (.func 23) #[] #[.pointer (some ⟨bs, 0, none⟩), .pointer (some ⟨bm, 0, none⟩), .pointer (some ⟨bp, 0, none⟩)]] w fun ed w' =>
      ∃ n ao cap, ed = .returned (.tuple #[]) ∧ End o (o + nn) c n ∧ w'.cell? ⟨bs, 0, none⟩ = some (.slice ao n cap) ∧ w'.ownsRow w.heap.size 42 4 (.slice ao n cap) n (spOf (stp o c k) (cel o c k) (frm o c) (til o (o + nn) c) n) ∧ Touch w.heap.size bs w w' := by
  have hW1 : 1 ≤ W := by rw [hWk]; exact Nat.mul_pos (by omega) (by omega)
  have l1 := World.block_lt_of_cell? w _ hs
  have l2 := World.block_lt_of_cell? w _ hm
  have l3 := World.block_lt_of_cell? w _ hp
  obtain ⟨e, he⟩ : ∃ e, e = o + nn := ⟨_, rfl⟩
  have HE : Hid (o + nn = e) := he.symm
  rw [← he] at hon ⊢
  have hoe : o ≤ e := by omega
  have hnn : (nn : Int) = ((e - o : Nat) : Int) := by omega
  rw [hnn]
  clear he hnn
  go_enter Try.func22, Try.ntmps22
  go_wp2
  go_loopw [0, 1] (fun x y wr => ∃ i : Nat, Hid (x = .int .i64 ((pos o e c i : Nat) : Int) ∧ y = .int .i64 ((e - pos o e c i : Nat) : Int) ∧ (∀ j, j < i → pos o e c j < e) ∧ i + o ≤ pos o e c i ∧ (∃ ao cap, wr.cell? ⟨bs, 0, none⟩ = some (.slice ao i cap) ∧ wr.ownsRow w.heap.size 42 4 (.slice ao i cap) i (spOf (stp o c k) (cel o c k) (frm o c) (til o e c) i)) ∧ wr.frozen? ⟨bs, 0, none⟩ = false ∧ Touch w.heap.size bs w wr)) (fun _ y _ => (intOf y).toNat)
  case atStart => exact ⟨0, rfl, rfl, fun j hj => by omega, by rw [show pos o e c 0 = o from rfl]; omega, ⟨none, 0, hs, World.ownsRow_nil _ _ _ _⟩, hf, Touch.refl _ _ _⟩
  case round =>
    obtain ⟨i, hx, hy, hlow, hio, ⟨ao, cap, hcs, hown⟩, hfr, htch⟩ := hrel
    have hx' := hx
    have hy' := hy
    have hle := pos_le (c := c) (i := i) hoe
    have HLOW : Hid (∀ j, j < i → pos o e c j < e) := hlow
    have HOWN : Hid (wr.ownsRow w.heap.size 42 4 (.slice ao i cap) i (spOf (stp o c k) (cel o c k) (frm o c) (til o e c) i)) := hown
    have HT : Hid (Touch w.heap.size bs w wr) := htch
    by_cases hlt : pos o e c i < e
    · have ht := til_eq (by omega) hlt
      have hsu := pos_succ (by omega) hlt
      have hfl := frm_lt (o := o) (i := i) (c := c) (by omega)
      have hpm := pos_mod hlt
      obtain ⟨m, hmn⟩ : ∃ m, m = min (e - pos o e c i) (c - frm o c i) := ⟨_, rfl⟩
      rw [← hmn] at ht hsu
      have HK := keep_any wr bs bm bp w.heap.size i (pos o e c i) m W c ao cap (stp o c k) (cel o c k) (frm o c) (til o e c) hcs hfr (htch.cell l2 n1 hm) (htch.cell l3 n2 hp) hown htch.size l1 l2 l3 n1 n2 (by rw [hWk, pos_stp (by omega) hlt]) (by rw [hWk, pos_cel (by omega) hlt]) hpm.symm (by rw [hpm]; exact ht.symm) hW1 (by omega) hW2 hc2 (by omega) (by omega) (by omega)
      obtain ⟨P, hP⟩ : ∃ P, P = pos o e c i := ⟨_, rfl⟩
      obtain ⟨fr, hfrm⟩ : ∃ u, u = frm o c i := ⟨_, rfl⟩
      rw [← hP] at hx hy hle hlt hsu hpm HK hmn hio
      rw [← hfrm] at hpm hfl hmn
      have hmod : (P : Int).tmod (c : Int) = (fr : Int) := by rw [← hpm]; rfl
      have hmod2 : (P : Int) % (c : Int) = (fr : Int) := by rw [← hpm]; rfl
      have HS : Hid (P + m = pos o e c (i + 1)) := hsu
      have hm1 : 1 ≤ m := by omega
      have hm2 : m ≤ e - P := by omega
      obtain ⟨z, hz⟩ : ∃ z, z = e - P := ⟨_, rfl⟩
      rw [← hz] at hy hmn hm2
      subst hx hy
      have z4 : ¬ (c : Int) = 0 := by omega
      have HPE : Hid (pos o e c i < e) := by rw [← hP]; exact hlt
      clear ht hsu hpm hlow hown htch hx' hy' hcs hP hfrm
      by_cases hmm : z ≤ c - fr
      · have : m = z := by omega
        subst this
        have HZ : Hid (m = e - P) := hz
        clear hmn hz
        go_wp2_with fail
        refine HK.mono ?_
        rintro e' w' ⟨g, cap', rfl, q1, q2, q3, q4⟩
        have Q1 : Hid (w'.cell? ⟨bs, 0, none⟩ = some (.slice (some ⟨g, 0, none⟩) (i + 1) cap')) := q1
        have Q3 : Hid (w'.ownsRow w.heap.size 42 4 (.slice (some ⟨g, 0, none⟩) (i + 1) cap') (i + 1) (spOf (stp o c k) (cel o c k) (frm o c) (til o e c) (i + 1))) := q3
        have Q4 : Hid (Touch w.heap.size bs w w') := HT.out.trans q4
        clear q1 q3 q4
        go_wp2_with fail
        go_roundw
        case rel => exact ⟨i + 1, by rw [← HS.out]; go_num, by rw [← HS.out]; have := HZ.out; exact val_int (by omega), fun j hj => by
          by_cases e1 : j = i
          · rw [e1]; exact HPE.out
          · exact HLOW.out j (by omega), by rw [← HS.out]; omega, ⟨_, _, Q1.out, Q3.out⟩, q2, Q4.out⟩
        case measure => simp [intOf]; omega
      · have hmc : m = c - fr := by omega
        have HMC : Hid (m = c - fr) := hmc
        have HZ : Hid (z = e - P) := hz
        have hz2 : z ≤ 32768 := by omega
        rw [show ((m : Nat) : Int) = (c : Int) - (fr : Int) by omega] at HK
        clear hmn hz hmc
        go_wp2_with fail
        refine HK.mono ?_
        rintro e' w' ⟨g, cap', rfl, q1, q2, q3, q4⟩
        have Q1 : Hid (w'.cell? ⟨bs, 0, none⟩ = some (.slice (some ⟨g, 0, none⟩) (i + 1) cap')) := q1
        have Q3 : Hid (w'.ownsRow w.heap.size 42 4 (.slice (some ⟨g, 0, none⟩) (i + 1) cap') (i + 1) (spOf (stp o c k) (cel o c k) (frm o c) (til o e c) (i + 1))) := q3
        have Q4 : Hid (Touch w.heap.size bs w w') := HT.out.trans q4
        clear q1 q3 q4
        go_wp2_with fail
        go_roundw
        case rel => exact ⟨i + 1, by rw [← HS.out]; have := HMC.out; exact val_int (by omega), by rw [← HS.out]; have := HMC.out; have := HZ.out; exact val_int (by omega), fun j hj => by
          by_cases e1 : j = i
          · rw [e1]; exact HPE.out
          · exact HLOW.out j (by omega), by rw [← HS.out]; omega, ⟨_, _, Q1.out, Q3.out⟩, q2, Q4.out⟩
        case measure => simp [intOf]; omega
    · have hpe : pos o e c i = e := by omega
      have HEN : Hid (End o e c i) := end_of (by omega) HLOW.out hpe
      rw [hpe] at hx hy
      rw [Nat.sub_self] at hy
      subst hx hy
      have Q1 : Hid (wr.cell? ⟨bs, 0, none⟩ = some (.slice ao i cap)) := hcs
      clear hlow hown htch hx' hy' hcs hpe
      go_wp2_with fail
      refine bodyPost_end (results_none rfl _ _ _) rfl ?_
      exact ⟨i, ao, cap, rfl, HEN.out, Q1.out, HOWN.out, HT.out⟩
end Go.Proofs.Ytdnflninbnjdhaa
