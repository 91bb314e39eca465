import Derived.Test.YtmoenmpbkockoaaGreatWj47
import Derived.Test.YtmoenmpbkockoaaGreatOj1
namespace Go.Proofs.YtmoenmpbkockoaaGreat
open Go.RowKit
def rdE (k c : Int) (N Q : Nat) (F : Nat -> List UInt8) (o v : Int) : Int := if 0 <= o /\ o < (Q : Int) then erSt k c N Q F o v else 2
set_option maxHeartbeats 4000000 in
set_option maxRecDepth 100000 in
theorem read_bad {k r c q : Int} (w : World) (lo : Option Addr) (n cl n' : Nat) (o v x : Int) (hx : x ≠ 0) (G : Nat -> List UInt8)
    (HA : Hid (∀ u, Below w.heap.size w u -> Calls Tryz.prog 29 #[.agg #[.int .i64 k, .int .i64 r, .int .i64 c, .int .i64 q, .slice lo n cl], .int .i64 o] u fun e w' => ∃ lo' A' C', e = .returned (.tuple #[.slice lo' n' n', .int .i64 x]) /\ Im.Im u.heap.size w' lo' (2 * n') A' C' G /\ Below u.heap.size u w')) (m : Nat) (D : Nat -> UInt8) :
    Calls Tryz.prog 137 #[.agg #[.int .i64 k, .int .i64 r, .int .i64 c, .int .i64 q, .slice lo n cl], .agg #[.int .i64 o, .int .i64 v]] w (AnsB w x m D) := by
  have hz : (x != 0) = true := by simpa using hx
  unfold AnsB
  rw [lenE_ne m hx]
  clear hx
  obtain ⟨w0, hw0⟩ : ∃ w0, w0 = w.alloc (.cells #[.int .i64 k, .int .i64 r, .int .i64 c, .int .i64 q, .slice lo n cl] 51) := ⟨_, rfl⟩
  obtain ⟨w1, hw1⟩ : ∃ w1, w1 = w0.alloc (.cells #[.int .i64 o, .int .i64 v] 63) := ⟨_, rfl⟩
  have b0 : Below w.heap.size w w0 := by rw [hw0]; exact below_alloc _ _
  have b1 : Below w0.heap.size w0 w1 := by rw [hw1]; exact below_alloc _ _
  go_enter Tryz.func137, Tryz.ntmps137
  go_wp2_with fail
  rw [<- hw0, <- hw1]
  refine (HA.out _ (below_then b0 b1)).mono ?_
  rintro e wa ⟨lo', A', C', rfl, _, ha⟩
  clear hw0 hw1 HA
  go_wp2_with fail
  go_ret2
  exact ⟨none, 0, rfl, owu_nil _ _ _, below_then (below_then b0 b1) ha⟩
set_option maxHeartbeats 4000000 in
set_option maxRecDepth 100000 in
theorem read_go {k r c q : Int} (N : Nat) (w : World) (lo : Option Addr) (n cl : Nat) (o v e1 : Int) (m : Nat) (G : Nat -> List UInt8) (D : Nat -> UInt8)
    (HA : Hid (∀ u, Below w.heap.size w u -> Calls Tryz.prog 29 #[.agg #[.int .i64 k, .int .i64 r, .int .i64 c, .int .i64 q, .slice lo n cl], .int .i64 o] u fun e w' => ∃ lo' A' C', e = .returned (.tuple #[.slice lo' N N, .int .i64 0]) /\ Im.Im u.heap.size w' lo' (2 * N) A' C' G /\ Below u.heap.size u w'))
    (HR : Hid (∀ u ro A C, Rw u ro N A (fun j => (G j).length) C (fun j t => (G j).getD t 0) -> Calls Tryz.prog 49 #[.agg #[.int .i64 k, .int .i64 r, .int .i64 c, .int .i64 q], .slice ro N N, .int .u8 1, .int .i64 v] u (AnsB u e1 m D))) :
    Calls Tryz.prog 137 #[.agg #[.int .i64 k, .int .i64 r, .int .i64 c, .int .i64 q, .slice lo n cl], .agg #[.int .i64 o, .int .i64 v]] w (AnsB w e1 m D) := by
  obtain ⟨w0, hw0⟩ : ∃ w0, w0 = w.alloc (.cells #[.int .i64 k, .int .i64 r, .int .i64 c, .int .i64 q, .slice lo n cl] 51) := ⟨_, rfl⟩
  obtain ⟨w1, hw1⟩ : ∃ w1, w1 = w0.alloc (.cells #[.int .i64 o, .int .i64 v] 63) := ⟨_, rfl⟩
  have b0 : Below w.heap.size w w0 := by rw [hw0]; exact below_alloc _ _
  have b1 : Below w0.heap.size w0 w1 := by rw [hw1]; exact below_alloc _ _
  have z0 : w0.heap.size = w.heap.size + 1 := by rw [hw0]; simp
  have HQ : Hid (∀ u, Below w1.heap.size w1 u -> (u.cell? ⟨w.heap.size, 0, none⟩ = some (.int .i64 k) /\ u.cell? ⟨w.heap.size, 1, none⟩ = some (.int .i64 r) /\ u.cell? ⟨w.heap.size, 2, none⟩ = some (.int .i64 c) /\ u.cell? ⟨w.heap.size, 3, none⟩ = some (.int .i64 q)) /\ u.cell? ⟨w.heap.size + 1, 1, none⟩ = some (.int .i64 v)) := fun u hu => ⟨⟨blk_held hw0 (below_then b1 hu) 0 rfl, blk_held hw0 (below_then b1 hu) 1 rfl, blk_held hw0 (below_then b1 hu) 2 rfl, blk_held hw0 (below_then b1 hu) 3 rfl⟩, by rw [<- z0]; exact blk_held hw1 hu 1 rfl⟩
  have HBB : Hid (Below w.heap.size w w1) := below_then b0 b1
  unfold AnsB at HR ⊢
  go_enter Tryz.func137, Tryz.ntmps137
  go_wp2_with fail
  rw [<- hw0, <- hw1]
  clear hw0 hw1 z0 b0 b1
  refine (HA.out _ HBB.out).mono ?_
  rintro e wa ⟨lo', A', C', rfl, hI, ha⟩
  obtain ⟨⟨s0, s1, s2, s3⟩, s4⟩ := HQ.out wa ha
  have hrw := rw_of hI
  clear hI
  go_wp2_with fail
  refine (HR.out _ _ _ _ hrw).mono ?_
  rintro e wb ⟨bo, bc, rfl, hob, hb⟩
  have HAB : Hid (Below w1.heap.size w1 wb) := below_then ha hb
  have HOW : Hid (OwU w.heap.size wb bo (lenE e1 m) bc D) := hob.mono (Nat.le_trans HBB.out.size ha.size)
  clear s0 s1 s2 s3 s4 hrw ha hb hob HA HR
  go_wp2_with fail
  go_ret2
  exact ⟨bo, bc, rfl, HOW.out, below_then HBB.out HAB.out⟩
theorem wide_eq {k r c q : Int} {N W : Nat} (hp : Par k r c q N W 0) : k.toNat * c.toNat = W := by
  rcases hp with ⟨hm, hW, _⟩ | ⟨_, _, _, h0⟩
  · obtain ⟨h1, h2, h3, h4, h5, h6, h7, h8, h9⟩ := may_true hm
    have e1 : k = (k.toNat : Int) := by omega
    have e2 : c = (c.toNat : Int) := by omega
    rw [e1, e2, <- Int.natCast_mul] at hW
    exact (Int.ofNat.inj hW).symm
  · exact absurd h0 (by decide)
theorem obRead_any {k r c q : Int} {N W Q S n : Nat} {F : Nat -> List UInt8} (hp : Par k r c q N W 0) (hck : Im.Ck k r c q n F 0 N Q S) (w : World) (lo : Option Addr) (cl : Nat) (hcl : n <= cl) (A : Nat -> Option Addr) (C : Nat -> Nat) (hl : Im.Lst w lo n A C F) (o v : Int) :
    Calls Tryz.prog 137 #[.agg #[.int .i64 k, .int .i64 r, .int .i64 c, .int .i64 q, .slice lo n cl], .agg #[.int .i64 o, .int .i64 v]] w (AnsB w (rdE k c N Q F o v) W (dat k c N Q F o v)) := by
  unfold rdE
  by_cases ho : 0 <= o /\ o < (Q : Int)
  · rw [if_pos ho]
    have hR : Im.Rww k r c q n F o 0 N (Im.rowF Q o.toNat F) := ⟨0, N, Q, S, hck, .inl ⟨rfl, ho.1, ho.2, rfl, rfl, rfl⟩⟩
    refine read_go N w lo n cl o v (erSt k c N Q F o v) W (Im.rowF Q o.toNat F) (dat k c N Q F o v) (fun u hu => Im.Row_any hR lo cl hcl A C u (hl.below hu)) (fun u ro A' C' hr => ?_)
    have h := Read_any hp u ro N N A' (gL Q F o.toNat) C' (gF Q F o.toNat) hr 1 v (erSt k c N Q F o v) rfl
    rw [wide_eq hp] at h
    exact h
  · rw [if_neg ho]
    have hR : Im.Rww k r c q n F o 2 0 (fun _ => []) := ⟨0, N, Q, S, hck, .inr ⟨⟨rfl, rfl⟩, .inr ⟨rfl, ho, rfl⟩⟩⟩
    exact read_bad w lo n cl 0 o v 2 (by decide) (fun _ => []) (fun u hu => Im.Row_any hR lo cl hcl A C u (hl.below hu)) W _
set_option maxHeartbeats 400000 in
set_option maxRecDepth 100000 in
theorem Most_any {k r c q : Int} {N W : Nat} {x : Int} (h : Par k r c q N W x) (w : World) :
    Calls Tryz.prog 139 #[.agg #[.int .i64 k, .int .i64 r, .int .i64 c, .int .i64 q]] w fun e w' => e = .returned (.tuple #[.int .i64 ((mst W : Nat) : Int), .int .i64 x]) /\ Below w.heap.size w w' := by
  have HC := fun w => measure_any h w
  clear h
  generalize dir W = d at *
  generalize lea W = l at *
  generalize mst W = m at *
  obtain ⟨w0, hw0⟩ : ∃ w0, w0 = w.alloc (.cells #[.int .i64 k, .int .i64 r, .int .i64 c, .int .i64 q] 23) := ⟨_, rfl⟩
  have b0 : Below w.heap.size w w0 := by rw [hw0]; exact below_alloc _ _
  go_enter Tryz.func139, Tryz.ntmps139
  go_wp2_with fail
  rw [<- hw0]
  refine (HC _).mono ?_
  rintro e wa ⟨rfl, ha⟩
  go_wp2_with fail
  go_ret2
  exact ⟨rfl, have hB := below_then b0 ha; hB.alloc hB.size _⟩
set_option maxHeartbeats 400000 in
theorem Check_img {k r c q : Int} {n : Nat} {F : Nat -> List UInt8} {x : Int} {N Q S : Nat} (hck : Im.Ck k r c q n F x N Q S) (lo : Option Addr) (cl : Nat) (A : Nat -> Option Addr) (C : Nat -> Nat) (w : World) (hl : Im.Lst w lo n A C F) :
    Calls Tryz.prog 138 #[.agg #[.int .i64 k, .int .i64 r, .int .i64 c, .int .i64 q, .slice lo n cl]] w fun e w' => e = .returned (.int .i64 x) /\ Below w.heap.size w w' := by
  obtain ⟨w0, hw0⟩ : ∃ w0, w0 = w.alloc (.cells #[.int .i64 k, .int .i64 r, .int .i64 c, .int .i64 q, .slice lo n cl] 51) := ⟨_, rfl⟩
  have b0 : Below w.heap.size w w0 := by rw [hw0]; exact below_alloc _ _
  have HC := Im.checked_any hck lo cl A C w0 (hl.below b0)
  clear hck hl
  go_enter Tryz.func138, Tryz.ntmps138
  go_wp2_with fail
  rw [<- hw0]
  clear hw0
  refine HC.mono ?_
  rintro e wa ⟨rfl, ha⟩
  clear HC
  go_wp2_with fail
  go_ret
  exact ⟨rfl, below_then b0 (below_then ha (below_alloc _ _))⟩
def erPt (q o off m : Int) (W : Nat) : Int := if o < 0 \/ q <= o \/ off < 0 \/ m < 0 then 2 else if ((mst W : Nat) : Int) < off \/ ((mst W : Nat) : Int) - off < m then 3 else 0
set_option maxHeartbeats 4000000 in
set_option maxRecDepth 100000 in
theorem checkPart_bad {k r c q : Int} {n : Nat} {F : Nat -> List UInt8} {x : Int} {N Q S : Nat} (hck : Im.Ck k r c q n F x N Q S) (hx : x ≠ 0) (lo : Option Addr) (cl : Nat) (A : Nat -> Option Addr) (C : Nat -> Nat) (w : World) (hl : Im.Lst w lo n A C F) (o off m : Int) :
    Calls Tryz.prog 81 #[.agg #[.int .i64 k, .int .i64 r, .int .i64 c, .int .i64 q, .slice lo n cl], .int .i64 o, .int .i64 off, .int .i64 m] w fun e w' => e = .returned (.int .i64 x) /\ Below w.heap.size w w' := by
  have hz : (x != 0) = true := by simpa using hx
  obtain ⟨w0, hw0⟩ : ∃ w0, w0 = w.alloc (.cells #[.int .i64 k, .int .i64 r, .int .i64 c, .int .i64 q, .slice lo n cl] 51) := ⟨_, rfl⟩
  have b0 : Below w.heap.size w w0 := by rw [hw0]; exact below_alloc _ _
  have HC := Check_img hck lo cl A C w0 (hl.below b0)
  clear hck hl hx
  go_enter Tryz.func81, Tryz.ntmps81
  go_wp2_with fail
  rw [<- hw0]
  clear hw0
  refine HC.mono ?_
  rintro e wa ⟨rfl, ha⟩
  clear HC
  go_wp2_with fail
  go_ret
  exact ⟨rfl, below_then b0 ha⟩
set_option maxHeartbeats 4000000 in
set_option maxRecDepth 100000 in
theorem checkPart_good {k r c q : Int} {n : Nat} {F : Nat -> List UInt8} {N W Q S : Nat} (hp : Par k r c q N W 0) (hck : Im.Ck k r c q n F 0 N Q S) (lo : Option Addr) (cl : Nat) (A : Nat -> Option Addr) (C : Nat -> Nat) (w : World) (hl : Im.Lst w lo n A C F) (o off m : Int) :
    Calls Tryz.prog 81 #[.agg #[.int .i64 k, .int .i64 r, .int .i64 c, .int .i64 q, .slice lo n cl], .int .i64 o, .int .i64 off, .int .i64 m] w fun e w' => e = .returned (.int .i64 (erPt q o off m W)) /\ Below w.heap.size w w' := by
  obtain ⟨w0, hw0⟩ : ∃ w0, w0 = w.alloc (.cells #[.int .i64 k, .int .i64 r, .int .i64 c, .int .i64 q, .slice lo n cl] 51) := ⟨_, rfl⟩
  have b0 : Below w.heap.size w w0 := by rw [hw0]; exact below_alloc _ _
  have HC := Check_img hck lo cl A C w0 (hl.below b0)
  have HM := fun w => Most_any hp w
  have hms : (mst W : Int) <= 786432 := by
    have h1 := mst_le W
    have h2 := (wide_of hp).2.2
    omega
  have HQ : Hid (∀ u, Below w0.heap.size w0 u -> u.cell? ⟨w.heap.size, 0, none⟩ = some (.int .i64 k) /\ u.cell? ⟨w.heap.size, 1, none⟩ = some (.int .i64 r) /\ u.cell? ⟨w.heap.size, 2, none⟩ = some (.int .i64 c) /\ u.cell? ⟨w.heap.size, 3, none⟩ = some (.int .i64 q)) := fun u hu => ⟨blk_held hw0 hu 0 rfl, blk_held hw0 hu 1 rfl, blk_held hw0 hu 2 rfl, blk_held hw0 hu 3 rfl⟩
  have HBB : Hid (Below w.heap.size w w0) := b0
  unfold erPt
  obtain ⟨ms, hmse⟩ : ∃ ms : Int, ms = (mst W : Int) := ⟨_, rfl⟩
  rw [<- hmse] at HM hms ⊢
  have hms0 : 0 <= ms := by rw [hmse]; exact Int.natCast_nonneg _
  clear hmse hck hl hp
  by_cases h1 : o < 0 \/ q <= o \/ off < 0 \/ m < 0
  · rw [if_pos h1]
    go_enter Tryz.func81, Tryz.ntmps81
    go_wp2_with fail
    rw [<- hw0]
    clear hw0 b0
    refine HC.mono ?_
    rintro e wa ⟨rfl, ha⟩
    clear HC HM
    obtain ⟨s0, s1, s2, s3⟩ := HQ.out wa ha
    go_wp2
    all_goals first
      | (exfalso; omega)
      | (go_ret; exact ⟨rfl, below_then HBB.out ha⟩)
  rw [if_neg h1]
  obtain ⟨g0, g1, g2, g3⟩ : ¬ o < 0 /\ ¬ q <= o /\ ¬ off < 0 /\ ¬ m < 0 := by omega
  have hsub : IntKind.i64.wrap (ms - off) = ms - off \/ ms < off := by
    by_cases h : ms < off
    · exact .inr h
    · left; rw [IntKind.wrap_i64]; omega
  clear h1
  go_enter Tryz.func81, Tryz.ntmps81
  go_wp2_with fail
  rw [<- hw0]
  clear hw0 b0
  refine HC.mono ?_
  rintro e wa ⟨rfl, ha⟩
  clear HC
  obtain ⟨s0, s1, s2, s3⟩ := HQ.out wa ha
  go_wp2_with fail
  refine (HM wa).mono ?_
  rintro e wb ⟨rfl, hb⟩
  have hab := below_then ha hb
  clear HM s0 s1 s2 s3 ha hb
  go_wp2
  all_goals first
    | (exfalso; omega)
    | (go_ret; exact ⟨by first | rfl | (rw [if_pos (by omega)]; rfl) | (rw [if_neg (by omega)]; rfl), below_then HBB.out hab⟩)
theorem ret_ck {a b : Int} {w w' : World} {B : Nat} (h : a = b) (hb : Below B w w') : Ending.returned (.int .i64 a) = .returned (.int .i64 b) /\ Below B w w' := ⟨by rw [h], hb⟩
end Go.Proofs.YtmoenmpbkockoaaGreat
namespace Go.Proofs.YtmoenmpbkockoaaGreat
open Go.RowKit
set_option maxHeartbeats 400000 in
set_option maxRecDepth 100000 in
theorem May_any (k r c q : Int) (w : World) :
    Calls Tryz.prog 58 #[.agg #[.int .i64 k, .int .i64 r, .int .i64 c, .int .i64 q]] w fun e w' => e = .returned (.bool (may k r c q)) /\ Below w.heap.size w w' := by
  have HW : Hid (1 <= k -> k <= 12 -> 8 <= c -> c <= 64 -> wrap64 (k * c) = k * c) := wrap_wide
  go_enter Tryz.func58, Tryz.ntmps58
  go_wp2
  all_goals (go_ret; have := HW.out; refine ⟨ret_bool ?_, below_alloc _ _⟩; rw [may_decide]; first | exact decide_eq_decide.2 (by omega) | exact (decide_eq_false (by omega)).symm)
set_option maxHeartbeats 4000000 in
set_option maxRecDepth 100000 in
theorem big_any (k r c q : Int) (lo : Option Addr) (n cl : Nat) (w : World) : Calls Tryz.prog 34 #[.agg #[.int .i64 k, .int .i64 r, .int .i64 c, .int .i64 q, .slice lo n cl]] w fun e w' => (∃ b, e = .returned (.bool b)) /\ Below w.heap.size w w' := by
  have HM : Hid (∀ w, Calls Tryz.prog 58 #[.agg #[.int .i64 k, .int .i64 r, .int .i64 c, .int .i64 q]] w fun e w' => e = .returned (.bool (may k r c q)) /\ Below w.heap.size w w') := fun w => May_any k r c q w
  obtain ⟨w0, hw0⟩ : ∃ w0, w0 = w.alloc (.cells #[.int .i64 k, .int .i64 r, .int .i64 c, .int .i64 q, .slice lo n cl] 51) := ⟨_, rfl⟩
  have b0 : Below w.heap.size w w0 := by rw [hw0]; exact below_alloc _ _
  have s0 := blk_held hw0 (Below.refl _ _) 0 rfl
  have s1 := blk_held hw0 (Below.refl _ _) 1 rfl
  have s2 := blk_held hw0 (Below.refl _ _) 2 rfl
  have s3 := blk_held hw0 (Below.refl _ _) 3 rfl
  have a0 : w0.cell? ⟨w.heap.size, 0, none⟩ = some (.int .i64 k) := s0
  have a1 : w0.cell? ⟨w.heap.size, 1, none⟩ = some (.int .i64 r) := s1
  have a2 : w0.cell? ⟨w.heap.size, 2, none⟩ = some (.int .i64 c) := s2
  have a3 : w0.cell? ⟨w.heap.size, 3, none⟩ = some (.int .i64 q) := s3
  clear s0 s1 s2 s3
  cases hm : may k r c q
  · rw [hm] at HM
    go_enter Tryz.func34, Tryz.ntmps34
    go_wp2_with fail
    rw [<- hw0]
    clear hw0
    refine wp_region_held_drew (S := (fun v => v.cell? ⟨w.heap.size, 0, none⟩ = some (.int .i64 k) /\ v.cell? ⟨w.heap.size, 1, none⟩ = some (.int .i64 r) /\ v.cell? ⟨w.heap.size, 2, none⟩ = some (.int .i64 c) /\ v.cell? ⟨w.heap.size, 3, none⟩ = some (.int .i64 q))) (by kernel_rfl) ⟨a0, a1, a2, a3⟩ (fun hHeld => ?_)
    refine wpAnyH_take (i := 0) (oi := _) (v := .pointer (some ⟨w.heap.size, 0, none⟩)) rfl (by kernel_rfl) (by kernel_rfl) (by kernel_rfl) (fun _ _ _ h => h) (Or.inl ⟨by rfl, ?_⟩) (by assumption) ?_
    · intro w' hSw
      try dsimp only at hSw
      go_simp <;> first | with_reducible rfl | assumption
    simp only [Act.put]
    refine wpAnyH_take (i := 1) (oi := _) (v := .agg #[.int .i64 k, .int .i64 r, .int .i64 c, .int .i64 q]) rfl (by kernel_rfl) (by kernel_rfl) (by kernel_rfl) (fun _ _ _ h => h) (Or.inl ⟨by rfl, ?_⟩) (by assumption) ?_
    · intro w' hSw
      try dsimp only at hSw
      go_simp <;> first | with_reducible rfl | assumption
    simp only [Act.put]
    refine wpAnyH_ready (rs := [2]) (by kernel_rfl) (by simp) ?_
    refine AllReadyH.cons (o := _) rfl (fun K hK => ?_) AllReadyH.nil
    go_simp
    refine (HM.out _).mono ?_
    rintro e wa ⟨rfl, ha⟩
    have f0 := held (w := w0.drew) a0 ha
    have f1 := held (w := w0.drew) a1 ha
    have f2 := held (w := w0.drew) a2 ha
    have f3 := held (w := w0.drew) a3 ha
    refine hK.out _ _ ⟨f0, f1, f2, f3⟩ (fun hHeld => ?_)
    clear hK K
    try simp only [Act.put]
    refine wpAnyH_take (i := 3) (oi := _) (v := .bool false) rfl (by kernel_rfl) (by kernel_rfl) (by kernel_rfl) (fun _ _ _ h => h) (Or.inl ⟨by rfl, ?_⟩) (by assumption) ?_
    · intro w' hSw
      try dsimp only at hSw
      go_simp <;> first | with_reducible rfl | assumption
    simp only [Act.put]
    refine wpAnyH_take (i := 4) (oi := _) (v := undef) rfl (by kernel_rfl) (by kernel_rfl) (by kernel_rfl) (fun _ _ _ h => h) (Or.inr ⟨by rfl, rfl⟩) (by assumption) ?_
    simp only [Act.put]
    refine wpAnyH_take (i := 5) (oi := _) (v := undef) rfl (by kernel_rfl) (by kernel_rfl) (by kernel_rfl) (fun _ _ _ h => h) (Or.inr ⟨by rfl, rfl⟩) (by assumption) ?_
    simp only [Act.put]
    refine wpAnyH_take (i := 7) (oi := _) (v := undef) rfl (by kernel_rfl) (by kernel_rfl) (by kernel_rfl) (fun _ _ _ h => h) (Or.inr ⟨by rfl, rfl⟩) (by assumption) ?_
    simp only [Act.put]
    refine wpAnyH_take (i := 8) (oi := _) (v := undef) rfl (by kernel_rfl) (by kernel_rfl) (by kernel_rfl) (fun _ _ _ h => h) (Or.inr ⟨by rfl, rfl⟩) (by assumption) ?_
    simp only [Act.put]
    refine wpAnyH_take (i := 9) (oi := _) (v := undef) rfl (by kernel_rfl) (by kernel_rfl) (by kernel_rfl) (fun _ _ _ h => h) (Or.inr ⟨by rfl, rfl⟩) (by assumption) ?_
    simp only [Act.put]
    refine wpAnyH_ready (rs := [6]) (by kernel_rfl) (by simp) ?_
    refine AllReadyH.cons (o := _) rfl (fun K hK => ?_) AllReadyH.nil
    go_simp
    refine hK.out _ _ ⟨f0, f1, f2, f3⟩ (fun hHeld => ?_)
    clear hK K
    try simp only [Act.put]
    refine wpAnyH_take (i := 10) (oi := _) (v := undef) rfl (by kernel_rfl) (by kernel_rfl) (by kernel_rfl) (fun _ _ _ h => h) (Or.inr ⟨by rfl, rfl⟩) (by assumption) ?_
    simp only [Act.put]
    refine wpAnyH_take (i := 11) (oi := _) (v := undef) rfl (by kernel_rfl) (by kernel_rfl) (by kernel_rfl) (fun _ _ _ h => h) (Or.inr ⟨by rfl, rfl⟩) (by assumption) ?_
    simp only [Act.put]
    refine wpAnyH_take (i := 12) (oi := _) (v := .bool false) rfl (by kernel_rfl) (by kernel_rfl) (by kernel_rfl) (fun _ _ _ h => h) (Or.inl ⟨by rfl, ?_⟩) (by assumption) ?_
    · intro w' hSw
      try dsimp only at hSw
      go_simp <;> first | with_reducible rfl | assumption
    simp only [Act.put]
    refine wpAnyH_ready (rs := [13]) (by kernel_rfl) (by simp) ?_
    refine AllReadyH.cons (o := _) rfl (fun K hK => ?_) AllReadyH.nil
    go_simp
    refine hK.out _ _ ⟨f0, f1, f2, f3⟩ (fun hHeld => ?_)
    clear hK K
    try simp only [Act.put]
    refine wpAnyH_done (by kernel_rfl) ?_ _
    go_wp2_with fail
    go_ret
    exact ⟨⟨_, rfl⟩, below_then b0 (below_then (below_drew _ _) ha)⟩
  · rw [hm] at HM
    obtain ⟨h1, h2, h3, h4, h5, h6, h7, h8, h9⟩ := may_true hm
    obtain ⟨M, hM⟩ : ∃ M : Nat, (M : Int) = k + r := ⟨(k + r).toNat, by omega⟩
    have HN : Hid (∀ w, Calls Tryz.prog 59 #[.agg #[.int .i64 k, .int .i64 r, .int .i64 c, .int .i64 q]] w fun e w' => e = .returned (.int .i64 (M : Int)) /\ Below w.heap.size w w') := fun w => Im.N_any c q hM (by omega) w
    clear h1 h2 h3 h4 h5 h6 h7 h8 h9 hm
    go_enter Tryz.func34, Tryz.ntmps34
    go_wp2_with fail
    rw [<- hw0]
    clear hw0
    go_region_held3 (fun v => v.cell? ⟨w.heap.size, 0, none⟩ = some (.int .i64 k) /\ v.cell? ⟨w.heap.size, 1, none⟩ = some (.int .i64 r) /\ v.cell? ⟨w.heap.size, 2, none⟩ = some (.int .i64 c) /\ v.cell? ⟨w.heap.size, 3, none⟩ = some (.int .i64 q)) (go_keep)
      ((first
        | (go_at_call 58; refine (HM.out _).mono ?_; rintro e wp ⟨rfl, hp⟩
           have f0 := held (w := w0.drew) a0 hp; have f1 := held (w := w0.drew) a1 hp; have f2 := held (w := w0.drew) a2 hp; have f3 := held (w := w0.drew) a3 hp)
        | (go_at_call 59; refine (HN.out _).mono ?_; rintro e wq ⟨rfl, hq⟩
           have g0 := held f0 hq; have g1 := held f1 hq; have g2 := held f2 hq; have g3 := held f3 hq)))
    go_wp2_with fail
    go_ret
    exact ⟨⟨_, rfl⟩, below_then b0 (below_then (below_then (below_drew _ _) hp) hq)⟩
set_option maxHeartbeats 4000000 in
set_option maxRecDepth 100000 in
theorem Length_bad {k r c q : Int} (w : World) (lo : Option Addr) (n cl n' : Nat) (o x : Int) (hx : x ≠ 0) (G : Nat -> List UInt8)
    (HA : Hid (∀ u, Below w.heap.size w u -> Calls Tryz.prog 29 #[.agg #[.int .i64 k, .int .i64 r, .int .i64 c, .int .i64 q, .slice lo n cl], .int .i64 o] u fun e w' => ∃ lo' A' C', e = .returned (.tuple #[.slice lo' n' n', .int .i64 x]) /\ Im.Im u.heap.size w' lo' (2 * n') A' C' G /\ Below u.heap.size u w')) :
    Calls Tryz.prog 36 #[.agg #[.int .i64 k, .int .i64 r, .int .i64 c, .int .i64 q, .slice lo n cl], .int .i64 o] w fun e w' => e = .returned (.tuple #[.int .i64 0, .int .i64 x]) /\ Below w.heap.size w w' := by
  have hz : (x != 0) = true := by simpa using hx
  clear hx
  obtain ⟨w0, hw0⟩ : ∃ w0, w0 = w.alloc (.cells #[.int .i64 k, .int .i64 r, .int .i64 c, .int .i64 q, .slice lo n cl] 51) := ⟨_, rfl⟩
  have b0 : Below w.heap.size w w0 := by rw [hw0]; exact below_alloc _ _
  go_enter Tryz.func36, Tryz.ntmps36
  go_wp2_with fail
  rw [<- hw0]
  refine (HA.out _ b0).mono ?_
  rintro e wa ⟨lo', A', C', rfl, _, ha⟩
  clear hw0 HA
  go_wp2_with fail
  go_ret2
  exact ⟨rfl, below_then b0 ha⟩
set_option maxHeartbeats 4000000 in
set_option maxRecDepth 100000 in
theorem Length_go {k r c q : Int} (N : Nat) (w : World) (lo : Option Addr) (n cl : Nat) (o e1 A D y : Int) (M : Nat) (R V : Nat -> Int) (G : Nat -> List UInt8)
    (HA : Hid (∀ u, Below w.heap.size w u -> Calls Tryz.prog 29 #[.agg #[.int .i64 k, .int .i64 r, .int .i64 c, .int .i64 q, .slice lo n cl], .int .i64 o] u fun e w' => ∃ lo' A' C', e = .returned (.tuple #[.slice lo' N N, .int .i64 0]) /\ Im.Im u.heap.size w' lo' (2 * N) A' C' G /\ Below u.heap.size u w'))
    (HR : Hid (∀ u ro A' C, Rw u ro N A' (fun j => (G j).length) C (fun j t => (G j).getD t 0) -> Calls Tryz.prog 11 #[.agg #[.int .i64 k, .int .i64 r, .int .i64 c, .int .i64 q], .slice ro N N] u (AnsRd u e1 y A D M R V))) :
    Calls Tryz.prog 36 #[.agg #[.int .i64 k, .int .i64 r, .int .i64 c, .int .i64 q, .slice lo n cl], .int .i64 o] w fun e w' => e = .returned (.tuple #[.int .i64 (De.lenI e1 A), .int .i64 e1]) /\ Below w.heap.size w w' := by
  obtain ⟨w0, hw0⟩ : ∃ w0, w0 = w.alloc (.cells #[.int .i64 k, .int .i64 r, .int .i64 c, .int .i64 q, .slice lo n cl] 51) := ⟨_, rfl⟩
  have b0 : Below w.heap.size w w0 := by rw [hw0]; exact below_alloc _ _
  have HQ : Hid (∀ u, Below w0.heap.size w0 u -> u.cell? ⟨w.heap.size, 0, none⟩ = some (.int .i64 k) /\ u.cell? ⟨w.heap.size, 1, none⟩ = some (.int .i64 r) /\ u.cell? ⟨w.heap.size, 2, none⟩ = some (.int .i64 c) /\ u.cell? ⟨w.heap.size, 3, none⟩ = some (.int .i64 q)) := fun u hu => ⟨blk_held hw0 hu 0 rfl, blk_held hw0 hu 1 rfl, blk_held hw0 hu 2 rfl, blk_held hw0 hu 3 rfl⟩
  have HBB : Hid (Below w.heap.size w w0) := b0
  unfold AnsRd at HR
  obtain ⟨la, hla⟩ : ∃ la, la = De.lenI e1 A := ⟨_, rfl⟩
  obtain ⟨ld, hld⟩ : ∃ ld, ld = De.lenI e1 D := ⟨_, rfl⟩
  obtain ⟨ly, hly⟩ : ∃ ly, ly = De.lenI e1 y := ⟨_, rfl⟩
  have HLA : Hid (e1 ≠ 0 -> la = 0) := fun h => by rw [hla]; exact De.lenI_not h A
  rw [<- hla, <- hld, <- hly] at HR
  rw [<- hla]
  clear hla hld hly
  by_cases h1 : e1 = 0
  · subst h1
    go_enter Tryz.func36, Tryz.ntmps36
    go_wp2_with fail
    rw [<- hw0]
    clear hw0 b0
    refine (HA.out _ HBB.out).mono ?_
    rintro e wa ⟨lo', A', C', rfl, hI, ha⟩
    obtain ⟨s0, s1, s2, s3⟩ := HQ.out wa ha
    have hrw := rw_of hI
    clear hI
    go_wp2_with fail
    refine (HR.out _ _ _ _ hrw).mono ?_
    rintro e wb ⟨ao, cp, rfl, _, hb⟩
    have hab := below_then ha hb
    clear s0 s1 s2 s3 hrw ha hb HA HR
    go_wp2_with fail
    go_ret2
    exact ⟨rfl, below_then HBB.out (below_then hab (below_alloc _ _))⟩
  · have hz : (e1 != 0) = true := by simpa using h1
    obtain rfl := HLA.out h1
    go_enter Tryz.func36, Tryz.ntmps36
    go_wp2_with fail
    rw [<- hw0]
    clear hw0 b0 h1
    refine (HA.out _ HBB.out).mono ?_
    rintro e wa ⟨lo', A', C', rfl, hI, ha⟩
    obtain ⟨s0, s1, s2, s3⟩ := HQ.out wa ha
    have hrw := rw_of hI
    clear hI
    go_wp2_with fail
    refine (HR.out _ _ _ _ hrw).mono ?_
    rintro e wb ⟨ao, cp, rfl, _, hb⟩
    have hab := below_then ha hb
    clear s0 s1 s2 s3 hrw ha hb HA HR
    go_wp2_with fail
    go_ret2
    exact ⟨rfl, below_then HBB.out (below_then hab (below_alloc _ _))⟩
set_option maxHeartbeats 4000000 in
set_option maxRecDepth 100000 in
theorem Bytes_bad {k r c q : Int} (w : World) (lo : Option Addr) (n cl : Nat) (o E A D y : Int) (hE : E ≠ 0) (M l s : Nat) (R V SR SV : Nat -> Int)
    (HO : Hid (∀ u, Below w.heap.size w u -> Calls Tryz.prog 22 #[.agg #[.int .i64 k, .int .i64 r, .int .i64 c, .int .i64 q, .slice lo n cl], .int .i64 o] u (AnsO u E A D M R V y l s SR SV))) (m : Nat) (G : Nat -> UInt8) :
    Calls Tryz.prog 38 #[.agg #[.int .i64 k, .int .i64 r, .int .i64 c, .int .i64 q, .slice lo n cl], .int .i64 o] w (AnsB w E m G) := by
  have hz : (E != 0) = true := by simpa using hE
  unfold AnsO at HO
  unfold AnsB
  rw [lenE_ne m hE]
  rw [lenE_ne M hE, lenE_ne l hE, lenE_ne s hE, De.lenI_not hE, De.lenI_not hE, De.lenI_not hE] at HO
  clear hE
  obtain ⟨w0, hw0⟩ : ∃ w0, w0 = w.alloc (.cells #[.int .i64 k, .int .i64 r, .int .i64 c, .int .i64 q, .slice lo n cl] 51) := ⟨_, rfl⟩
  have b0 : Below w.heap.size w w0 := by rw [hw0]; exact below_alloc _ _
  go_enter Tryz.func38, Tryz.ntmps38
  go_wp2_with fail
  rw [<- hw0]
  refine (HO.out _ b0).mono ?_
  rintro e wa ⟨ao, cp, lo1, lc, so, sc, rfl, _, _, _, ha⟩
  clear hw0 HO
  go_wp2_with fail
  go_ret2
  exact ⟨none, 0, rfl, owu_nil _ _ _, below_then b0 (below_then ha (below_alloc _ _))⟩
set_option maxHeartbeats 4000000 in
set_option maxRecDepth 100000 in
theorem Bytes_go {k r c q : Int} (w : World) (lo : Option Addr) (n cl : Nat) (o A D y : Int) (M l s : Nat) (R V SR SV : Nat -> Int) (a0 : Nat) (hA : A = (a0 : Int)) (E : Int) (G : Nat -> UInt8)
    (HO : Hid (∀ u, Below w.heap.size w u -> Calls Tryz.prog 22 #[.agg #[.int .i64 k, .int .i64 r, .int .i64 c, .int .i64 q, .slice lo n cl], .int .i64 o] u (AnsO u 0 A D M R V y l s SR SV)))
    (HB : Hid (∀ u so sc, Below w.heap.size w u -> De.Rec u so s sc SR SV -> Calls Tryz.prog 79 #[.agg #[.int .i64 k, .int .i64 r, .int .i64 c, .int .i64 q, .slice lo n cl], .slice so s sc, .int .i64 0, .int .i64 (a0 : Int)] u (AnsB u E a0 G))) :
    Calls Tryz.prog 38 #[.agg #[.int .i64 k, .int .i64 r, .int .i64 c, .int .i64 q, .slice lo n cl], .int .i64 o] w (AnsB w E a0 G) := by
  unfold AnsO at HO
  unfold AnsB at HB ⊢
  rw [lenE_zero, lenE_zero, lenE_zero, De.lenI_zero, De.lenI_zero, De.lenI_zero] at HO
  subst hA
  obtain ⟨w0, hw0⟩ : ∃ w0, w0 = w.alloc (.cells #[.int .i64 k, .int .i64 r, .int .i64 c, .int .i64 q, .slice lo n cl] 51) := ⟨_, rfl⟩
  have b0 : Below w.heap.size w w0 := by rw [hw0]; exact below_alloc _ _
  have HQ : Hid (∀ u, Below w0.heap.size w0 u -> u.cell? ⟨w.heap.size, 0, none⟩ = some (.int .i64 k) /\ u.cell? ⟨w.heap.size, 1, none⟩ = some (.int .i64 r) /\ u.cell? ⟨w.heap.size, 2, none⟩ = some (.int .i64 c) /\ u.cell? ⟨w.heap.size, 3, none⟩ = some (.int .i64 q) /\ u.cell? ⟨w.heap.size, 4, none⟩ = some (.slice lo n cl)) := fun u hu => ⟨blk_held hw0 hu 0 rfl, blk_held hw0 hu 1 rfl, blk_held hw0 hu 2 rfl, blk_held hw0 hu 3 rfl, blk_held hw0 hu 4 rfl⟩
  have HBB : Hid (Below w.heap.size w w0) := b0
  go_enter Tryz.func38, Tryz.ntmps38
  go_wp2_with fail
  rw [<- hw0]
  clear hw0 b0
  refine (HO.out _ HBB.out).mono ?_
  rintro e wa ⟨ao, cp, lo1, lc, so, sc, rfl, _, _, hS, ha⟩
  obtain ⟨wb, hwb⟩ : ∃ wb, wb = wa.alloc (.cells #[.int .i64 (a0 : Int), .int .i64 D, .slice ao M cp] 27) := ⟨_, rfl⟩
  have hab : Below wa.heap.size wa wb := by rw [hwb]; exact below_alloc _ _
  have HW : Hid (Below w0.heap.size w0 wb) := below_then ha hab
  have hrec := hS.rec.below hab
  obtain ⟨s0, s1, s2, s3, s4⟩ := HQ.out wb HW.out
  rw [hwb] at s0 s1 s2 s3 s4
  clear HO hS
  go_wp2_with fail
  rw [<- hwb]
  refine (HB.out _ _ _ (below_then HBB.out HW.out) hrec).mono ?_
  rintro e wc ⟨bo, bc, rfl, how, hc⟩
  have HOW : Hid (OwU w.heap.size wc bo (lenE E a0) bc G) := how.mono (Nat.le_trans HBB.out.size HW.out.size)
  have HWC : Hid (Below w0.heap.size w0 wc) := below_then HW.out hc
  clear how hc s0 s1 s2 s3 s4 hwb hab ha hrec HB
  go_wp2_with fail
  go_ret2
  exact ⟨bo, bc, rfl, HOW.out, below_then HBB.out HWC.out⟩
end Go.Proofs.YtmoenmpbkockoaaGreat
