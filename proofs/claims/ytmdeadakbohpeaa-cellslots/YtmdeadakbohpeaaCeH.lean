/- The laws' helpers: awake, a pair in memory of its own, two pairs alike. -/
import Derived.Test.YtmdeadakbohpeaaCeE
import Derived.Test.YtmdeadakbohpeaaCeF
namespace Go.Proofs.Ytmdeadakbohpeaa
open Go.RowKit

set_option maxHeartbeats 8000000 in
set_option maxRecDepth 100000 in
theorem awake_any (w : World) : Calls Try.prog 6 #[] w fun e w' => e = .returned (.bool true) ∧ Below w.heap.size w w' := by
  obtain ⟨N, W, x, h⟩ := par_any 2 1 16 8
  have hx : x = 0 ∧ N = 3 := by
    rcases h with ⟨_, _, h1, h2⟩ | ⟨h1, _⟩
    · exact ⟨h2, by omega⟩
    · rw [may_decide] at h1; exact absurd h1 (by decide)
  obtain ⟨rfl, rfl⟩ := hx
  have hz : ∀ n : Nat, n = 0 → he 0 3 16 0 n (fun _ => 0) = zSl := fun n hn => by
    unfold he
    rw [if_pos rfl, show isS 3 16 n (fun _ => 0) = false from decide_eq_false fun h => by have := h.1; unfold sz at this; omega]
    rfl
  have HO : Hid (∀ v, Calls Try.prog 13 #[.agg #[.int .i64 2, .int .i64 1, .int .i64 16, .int .i64 8], .agg #[.slice none 0 0, .slice none 0 0], .int .u8 1, .int .i64 0, .int .i64 0] v fun e w' => e = .returned (.tuple #[.int .i64 0, .int .i64 0]) ∧ Below v.heap.size v w') := fun v => by
    have := Older_any h v none 0 0 (fun _ => 0) none 0 0 (fun _ => 0) (bec_nil _ _) (bec_nil _ _) 1 0 0 0 (by rfl) zSl zSl (hz 0 rfl) (hz 0 rfl)
    rw [oin_z] at this
    exact this
  have HN : Hid (∀ v, Calls Try.prog 11 #[.agg #[.int .i64 2, .int .i64 1, .int .i64 16, .int .i64 8], .agg #[.slice none 0 0, .slice none 0 0], .int .u8 9, .int .i64 0] v fun e w' => ∃ ao ca bo cb, e = .returned (.tuple #[.int .i64 0, .agg #[.int .u8 0, .int .i64 0, .int .i64 0, .int .i64 0, .slice ao 0 ca, .slice bo 0 cb], .bool false, .int .i64 2]) ∧ Below v.heap.size v w') := fun v => by
    have := Newest_any h v none 0 0 (fun _ => 0) none 0 0 (fun _ => 0) (bec_nil _ _) (bec_nil _ _) 9 0 2 (by rfl) zSl zSl (by unfold he; rw [if_neg (by decide)]) (by unfold he; rw [if_neg (by decide)])
    rw [(gin_z 9).1, (gin_z 9).2.1, (gin_z 9).2.2] at this
    refine this.mono ?_
    rintro e w' ⟨ao, ca, bo, cb, rfl, _, hb⟩
    exact ⟨ao, ca, bo, cb, rfl, hb⟩
  clear h hz
  go_enter Try.func6, Try.ntmps6
  go_wp2_with fail
  refine (HO.out _).mono ?_
  rintro e wa ⟨rfl, ha⟩
  go_wp2_with fail
  refine (HN.out _).mono ?_
  rintro e wb ⟨ao, ca, bo, cb, rfl, hb⟩
  go_wp2_with fail
  go_ret
  exact ⟨rfl, b_alloc (below_then ha hb) _⟩

theorem sOf_size (l : List UInt8) : (sOf l).size = l.length := by simp [sOf, ByteArray.size]
/-- Bytes of a string, in new memory. -/
theorem conv_new (v : World) (n : Nat) (F : Nat → UInt8) : ∃ v' cc, (convert 9 24 (.string (sOf (lsF n F)))).run Try.prog v = .ok (.slice (some ⟨v.heap.size, 0, none⟩) n cc) v' ∧ Bec v' (some ⟨v.heap.size, 0, none⟩) n cc F ∧ Below v.heap.size v v' ∧ v.heap.size < v'.heap.size := by
  have hrun := run_bytes_of_string (P := Try.prog) v 9 24 5 (sOf (lsF n F)) Try.underlying9 Try.underlying24 Try.underlying5
  rw [sOf_size, lsF_length] at hrun
  refine ⟨_, _, hrun, ⟨fun hn => ⟨v.heap.size, 0, rfl, fun j hj => ?_⟩, (fun e => by cases e), grownCap_ge _ _ _ _⟩, below_then (below_drew _ _) (below_alloc v.drew _), by simp⟩
  have hj2 : j < (sOf (lsF n F)).data.size := by simp [sOf, lsF_length]; exact hj
  have hc := cell_of_row (v.drew.alloc (.cells (bytesRow (sOf (lsF n F)) (grownCap v n 0 5)) 5 ((bytesRow (sOf (lsF n F)) (grownCap v n 0 5)).size, (bytesRow (sOf (lsF n F)) (grownCap v n 0 5)).size + 1))) v.heap.size (0 + j) _ 5 _ (heap_alloc_new v.drew _)
  rw [hc, Nat.zero_add, bytesRow_at _ _ _ hj2]
  have : (sOf (lsF n F)).data[j] = F j := by simp [sOf, lsF]
  rw [this]
theorem own_keep {B C : Nat} {w : World} {ao : Option Addr} {n cap g m cap' : Nat} {R : Nat → Int} {F : Nat → UInt8} (h1 : Own B w ao n cap R) (h2 : OwU C w (some ⟨g, 0, none⟩) m cap' F) (i : Nat) (u : Value) : Own B (w.setCell ⟨g, i, none⟩ u) ao n cap R := by
  refine ownsRow_setCell_other h1 ?_ u
  intro e
  cases ao with
  | none => cases e
  | some a =>
    rcases h1.2 with ⟨h, _⟩ | ⟨g', c', cur, h, _⟩
    · cases h
    · cases h
      cases e
      exact own_apart h1 h2 rfl
theorem slQ_small {i : Bool} {N : Nat} {c : Int} {F : Nat → UInt8} (hN : N ≤ 16) (hc : c ≤ 64) : (slQ i N c F).vn ≤ 1000 ∧ (slQ i N c F).dn ≤ 1000 := by
  unfold slQ
  cases i
  · rw [if_neg (by decide)]; exact ⟨by decide, by decide⟩
  · rw [if_pos rfl]; exact ⟨by show N ≤ _; omega, by show c.toNat ≤ _; omega⟩

theorem only_two (v : World) (g : Nat) (u0 u1 : Value) : Only (fun x => x = g) v ((v.setCell ⟨g, 0, none⟩ u0).setCell ⟨g, 1, none⟩ u1) := by
  have h0 : Only (fun x => x = g) v (v.setCell ⟨g, 0, none⟩ u0) := Only.setCell (X := fun x => x = g) (p := ⟨g, 0, none⟩) (Only.refl _ _) rfl _
  exact Only.setCell (X := fun x => x = g) (p := ⟨g, 1, none⟩) h0 rfl u1
set_option maxHeartbeats 8000000 in
set_option maxRecDepth 100000 in
theorem twin_any (w : World) (a0 : Option Addr) (n0 c0 : Nat) (F0 : Nat → UInt8) (a1 : Option Addr) (n1 c1 : Nat) (F1 : Nat → UInt8) (h0 : Bec w a0 n0 c0 F0) (h1 : Bec w a1 n1 c1 F1) :
    Calls Try.prog 7 #[.agg #[.slice a0 n0 c0, .slice a1 n1 c1]] w fun e w' => ∃ b0 d0 b1 d1, e = .returned (.agg #[.slice b0 n0 d0, .slice b1 n1 d1]) ∧ Bec w' b0 n0 d0 F0 ∧ Bec w' b1 n1 d1 F1 ∧ Below w.heap.size w w' := by
  obtain ⟨w0, hw0⟩ : ∃ w0, w0 = w.alloc (.cells #[.slice a0 n0 c0, .slice a1 n1 c1] 26) := ⟨_, rfl⟩
  have bw0 : Below w.heap.size w w0 := by rw [hw0]; exact below_alloc _ _
  have zw0 : w0.heap.size = w.heap.size + 1 := by rw [hw0]; simp
  obtain ⟨w1, hw1⟩ : ∃ w1, w1 = w0.alloc (.cells #[.slice none 0 0, .slice none 0 0] 26) := ⟨_, rfl⟩
  have bw1 : Below w0.heap.size w0 w1 := by rw [hw1]; exact below_alloc _ _
  have zw1 : w1.heap.size = w.heap.size + 1 + 1 := by rw [hw1]; simp [zw0]
  have Bw : Hid (Below w.heap.size w w1) := (below_then bw0 bw1)
  have Lw0 : Hid (∀ v, Below w1.heap.size w1 v → At w v (w.heap.size) #[.slice a0 n0 c0, .slice a1 n1 c1] 26) := fun v hv => by exact (at_made (Below.refl _ _) hw0).below (below_then bw1 hv)
  have Lw1 : Hid (∀ v, Below w1.heap.size w1 v → At w v (w.heap.size + 1) #[.slice none 0 0, .slice none 0 0] 26) := fun v hv => by rw [← zw0]; exact (at_made bw0 hw1).below (below_then (Below.refl _ _) hv)
  have HV0 : Hid (∀ v, Below w.heap.size w v → (convert 24 9 (.slice a0 n0 c0)).run Try.prog v = .ok (.string (sOf (lsF n0 F0))) v) := fun v hv => conv_any (h0.below hv)
  have HV1 : Hid (∀ v, Below w.heap.size w v → (convert 24 9 (.slice a1 n1 c1)).run Try.prog v = .ok (.string (sOf (lsF n1 F1))) v) := fun v hv => conv_any (h1.below hv)
  have HS1 : Hid (w1.heap.size = w.heap.size + 1 + 1) := zw1
  have v0 : (convert 24 9 (.slice a0 n0 c0)).run Try.prog w1 = .ok (.string (sOf (lsF n0 F0))) w1 := HV0.out _ Bw.out
  obtain ⟨wa, da, ra, fa, ba, _⟩ := conv_new w1 n0 F0
  have v1 : (convert 24 9 (.slice a1 n1 c1)).run Try.prog wa = .ok (.string (sOf (lsF n1 F1))) wa := HV1.out _ (below_then Bw.out ba)
  obtain ⟨wb, db, rb, fb, bb, _⟩ := conv_new wa n1 F1
  have HFA : Hid (Bec wa (some ⟨w1.heap.size, 0, none⟩) n0 da F0) := fa
  have HFB : Hid (Bec wb (some ⟨wa.heap.size, 0, none⟩) n1 db F1) := fb
  have HBA : Hid (Below w1.heap.size w1 wa) := ba
  have HBB : Hid (Below wa.heap.size wa wb) := bb
  have HRA : Hid ((convert 9 24 (.string (sOf (lsF n0 F0)))).run Try.prog w1 = .ok (.slice (some ⟨w1.heap.size, 0, none⟩) n0 da) wa) := ra
  have HRB : Hid ((convert 9 24 (.string (sOf (lsF n1 F1)))).run Try.prog wa = .ok (.slice (some ⟨wa.heap.size, 0, none⟩) n1 db) wb) := rb
  clear h0 h1 ra rb fa fb ba bb
  go_enter Try.func7, Try.ntmps7
  go_wp2_with fail
  rw [← hw0, ← hw1]
  clear hw0 bw0 zw0 hw1 bw1 zw1
  rw [v0]
  go_wp2_with fail
  rw [HRA.out]
  have q0 := Lw0.out wa HBA.out
  have p0 := q0.cell (i := 0) rfl
  have p1 := q0.cell (i := 1) rfl
  clear q0
  go_wp2_with fail
  rw [HRB.out]
  have q1 := Lw1.out wb (below_then HBA.out HBB.out)
  have r0 := q1.cell (i := 0) rfl
  have r1 := q1.cell (i := 1) rfl
  have rf := q1.free
  clear q1
  go_wp2_with fail
  refine bodyPost_ret (v := .agg #[.slice (some ⟨w1.heap.size, 0, none⟩) n0 da, .slice (some ⟨wa.heap.size, 0, none⟩) n1 db]) (by simp [results, Try.results7, go_sem, r0, r1]) rfl ?_
  have ho := only_two wb (w.heap.size + 1) (.slice (some ⟨w1.heap.size, 0, none⟩) n0 da) (.slice (some ⟨wa.heap.size, 0, none⟩) n1 db)
  have hal := below_then Bw.out (below_then HBA.out HBB.out)
  refine ⟨_, da, _, db, rfl, (HFA.out.below HBB.out).only ho ?_, HFB.out.only ho ?_, hal.trans (ho.below (fun i hi => by omega) hal.size)⟩
  · rintro a ha; cases ha; simp only; have := HS1.out; omega
  · rintro a ha; cases ha; simp only; have := HS1.out; have := HBA.out.size; omega
set_option maxHeartbeats 8000000 in
set_option maxRecDepth 100000 in
theorem same_any (w : World) (a0 : Option Addr) (n0 c0 : Nat) (F0 : Nat → UInt8) (a1 : Option Addr) (n1 c1 : Nat) (F1 : Nat → UInt8) (b0 : Option Addr) (d0 : Nat) (b1 : Option Addr) (d1 : Nat) (h0 : Bec w a0 n0 c0 F0) (h1 : Bec w a1 n1 c1 F1) (k0 : Bec w b0 n0 d0 F0) (k1 : Bec w b1 n1 d1 F1) :
    Calls Try.prog 15 #[.agg #[.slice a0 n0 c0, .slice a1 n1 c1], .agg #[.slice b0 n0 d0, .slice b1 n1 d1]] w fun e w' => e = .returned (.bool true) ∧ Below w.heap.size w w' := by
  have v0 : ∀ o o', (convert 24 9 (.slice a0 n0 c0)).run Try.prog ((w.alloc o).alloc o') = .ok (.string (sOf (lsF n0 F0))) ((w.alloc o).alloc o') := fun o o' => conv_any (h0.below (below_then (below_alloc _ _) (below_alloc _ _)))
  have v1 : ∀ o o', (convert 24 9 (.slice a1 n1 c1)).run Try.prog ((w.alloc o).alloc o') = .ok (.string (sOf (lsF n1 F1))) ((w.alloc o).alloc o') := fun o o' => conv_any (h1.below (below_then (below_alloc _ _) (below_alloc _ _)))
  have v2 : ∀ o o', (convert 24 9 (.slice b0 n0 d0)).run Try.prog ((w.alloc o).alloc o') = .ok (.string (sOf (lsF n0 F0))) ((w.alloc o).alloc o') := fun o o' => conv_any (k0.below (below_then (below_alloc _ _) (below_alloc _ _)))
  have v3 : ∀ o o', (convert 24 9 (.slice b1 n1 d1)).run Try.prog ((w.alloc o).alloc o') = .ok (.string (sOf (lsF n1 F1))) ((w.alloc o).alloc o') := fun o o' => conv_any (k1.below (below_then (below_alloc _ _) (below_alloc _ _)))
  have e0 : ((sOf (lsF n0 F0)).toList == (sOf (lsF n0 F0)).toList) = true := by simp
  have e1 : ((sOf (lsF n1 F1)).toList == (sOf (lsF n1 F1)).toList) = true := by simp
  clear h0 h1 k0 k1
  go_enter Try.func15, Try.ntmps15
  go_wp2_with fail
  go_ret
  exact ⟨rfl, below_then (below_alloc _ _) (below_alloc _ _)⟩
end Go.Proofs.Ytmdeadakbohpeaa
