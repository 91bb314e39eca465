import Derived.Test.YtmoenmpbkockoaaGreatWj47
import Derived.Test.YtmoenmpbkockoaaGreatWj49
namespace Go.Proofs.YtmoenmpbkockoaaGreat
open Go.RowKit
set_option maxHeartbeats 400000 in
set_option maxRecDepth 100000 in
theorem May_any (k r c q : Int) (w : World) :
    Calls Tryz.prog 58 #[.agg #[.int .i64 k, .int .i64 r, .int .i64 c, .int .i64 q]] w fun e w' => e = .returned (.bool (may k r c q)) /\ Below w.heap.size w w' := by
  have HW : Hid (1 <= k -> k <= 12 -> 8 <= c -> c <= 64 -> wrap64 (k * c) = k * c) := wrap_wide
  go_enter Tryz.func58, Tryz.ntmps58
  go_wp2
  all_goals (go_ret; have := HW.out; refine ⟨ret_bool ?_, below_alloc _ _⟩; rw [may_decide]; first | exact decide_eq_decide.2 (by omega) | exact (decide_eq_false (by omega)).symm)
set_option maxHeartbeats 4000000 in
set_option maxRecDepth 100000 in
theorem big_any (k r c q : Int) (lo : Option Addr) (n cl : Nat) (w : World) : Calls Tryz.prog 21 #[.agg #[.int .i64 k, .int .i64 r, .int .i64 c, .int .i64 q, .slice lo n cl]] w fun e w' => (∃ b, e = .returned (.bool b)) /\ Below w.heap.size w w' := by
  have HM : Hid (∀ w, Calls Tryz.prog 58 #[.agg #[.int .i64 k, .int .i64 r, .int .i64 c, .int .i64 q]] w fun e w' => e = .returned (.bool (may k r c q)) /\ Below w.heap.size w w') := fun w => May_any k r c q w
  obtain ⟨w0, hw0⟩ : ∃ w0, w0 = w.alloc (.cells #[.int .i64 k, .int .i64 r, .int .i64 c, .int .i64 q, .slice lo n cl] 51) := ⟨_, rfl⟩
  have b0 : Below w.heap.size w w0 := by rw [hw0]; exact below_alloc _ _
  have s0 := blk_held hw0 (Below.refl _ _) 0 rfl
  have s1 := blk_held hw0 (Below.refl _ _) 1 rfl
  have s2 := blk_held hw0 (Below.refl _ _) 2 rfl
  have s3 := blk_held hw0 (Below.refl _ _) 3 rfl
  have a0 : w0.cell? ⟨w.heap.size, 0, none⟩ = some (.int .i64 k) := s0
  have a1 : w0.cell? ⟨w.heap.size, 1, none⟩ = some (.int .i64 r) := s1
  have a2 : w0.cell? ⟨w.heap.size, 2, none⟩ = some (.int .i64 c) := s2
  have a3 : w0.cell? ⟨w.heap.size, 3, none⟩ = some (.int .i64 q) := s3
  clear s0 s1 s2 s3
  cases hm : may k r c q
  · rw [hm] at HM
    go_enter Tryz.func21, Tryz.ntmps21
    go_wp2_with fail
    rw [<- hw0]
    clear hw0
    refine wp_region_held_drew (S := (fun v => v.cell? ⟨w.heap.size, 0, none⟩ = some (.int .i64 k) /\ v.cell? ⟨w.heap.size, 1, none⟩ = some (.int .i64 r) /\ v.cell? ⟨w.heap.size, 2, none⟩ = some (.int .i64 c) /\ v.cell? ⟨w.heap.size, 3, none⟩ = some (.int .i64 q))) (by kernel_rfl) ⟨a0, a1, a2, a3⟩ (fun hHeld => ?_)
    refine wpAnyH_take (i := 0) (oi := _) (v := .pointer (some ⟨w.heap.size, 0, none⟩)) rfl (by kernel_rfl) (by kernel_rfl) (by kernel_rfl) (fun _ _ _ h => h) (Or.inl ⟨by rfl, ?_⟩) (by assumption) ?_
    · intro w' hSw
      try dsimp only at hSw
      go_simp <;> first | with_reducible rfl | assumption
    simp only [Act.put]
    refine wpAnyH_take (i := 1) (oi := _) (v := .agg #[.int .i64 k, .int .i64 r, .int .i64 c, .int .i64 q]) rfl (by kernel_rfl) (by kernel_rfl) (by kernel_rfl) (fun _ _ _ h => h) (Or.inl ⟨by rfl, ?_⟩) (by assumption) ?_
    · intro w' hSw
      try dsimp only at hSw
      go_simp <;> first | with_reducible rfl | assumption
    simp only [Act.put]
    refine wpAnyH_ready (rs := [2]) (by kernel_rfl) (by simp) ?_
    refine AllReadyH.cons (o := _) rfl (fun K hK => ?_) AllReadyH.nil
    go_simp
    refine (HM.out _).mono ?_
    rintro e wa ⟨rfl, ha⟩
    have f0 := held (w := w0.drew) a0 ha
    have f1 := held (w := w0.drew) a1 ha
    have f2 := held (w := w0.drew) a2 ha
    have f3 := held (w := w0.drew) a3 ha
    refine hK.out _ _ ⟨f0, f1, f2, f3⟩ (fun hHeld => ?_)
    clear hK K
    try simp only [Act.put]
    refine wpAnyH_take (i := 3) (oi := _) (v := .bool false) rfl (by kernel_rfl) (by kernel_rfl) (by kernel_rfl) (fun _ _ _ h => h) (Or.inl ⟨by rfl, ?_⟩) (by assumption) ?_
    · intro w' hSw
      try dsimp only at hSw
      go_simp <;> first | with_reducible rfl | assumption
    simp only [Act.put]
    refine wpAnyH_take (i := 4) (oi := _) (v := undef) rfl (by kernel_rfl) (by kernel_rfl) (by kernel_rfl) (fun _ _ _ h => h) (Or.inr ⟨by rfl, rfl⟩) (by assumption) ?_
    simp only [Act.put]
    refine wpAnyH_take (i := 5) (oi := _) (v := undef) rfl (by kernel_rfl) (by kernel_rfl) (by kernel_rfl) (fun _ _ _ h => h) (Or.inr ⟨by rfl, rfl⟩) (by assumption) ?_
    simp only [Act.put]
    refine wpAnyH_take (i := 7) (oi := _) (v := undef) rfl (by kernel_rfl) (by kernel_rfl) (by kernel_rfl) (fun _ _ _ h => h) (Or.inr ⟨by rfl, rfl⟩) (by assumption) ?_
    simp only [Act.put]
    refine wpAnyH_take (i := 8) (oi := _) (v := undef) rfl (by kernel_rfl) (by kernel_rfl) (by kernel_rfl) (fun _ _ _ h => h) (Or.inr ⟨by rfl, rfl⟩) (by assumption) ?_
    simp only [Act.put]
    refine wpAnyH_take (i := 9) (oi := _) (v := undef) rfl (by kernel_rfl) (by kernel_rfl) (by kernel_rfl) (fun _ _ _ h => h) (Or.inr ⟨by rfl, rfl⟩) (by assumption) ?_
    simp only [Act.put]
    refine wpAnyH_ready (rs := [6]) (by kernel_rfl) (by simp) ?_
    refine AllReadyH.cons (o := _) rfl (fun K hK => ?_) AllReadyH.nil
    go_simp
    refine hK.out _ _ ⟨f0, f1, f2, f3⟩ (fun hHeld => ?_)
    clear hK K
    try simp only [Act.put]
    refine wpAnyH_take (i := 10) (oi := _) (v := undef) rfl (by kernel_rfl) (by kernel_rfl) (by kernel_rfl) (fun _ _ _ h => h) (Or.inr ⟨by rfl, rfl⟩) (by assumption) ?_
    simp only [Act.put]
    refine wpAnyH_take (i := 11) (oi := _) (v := undef) rfl (by kernel_rfl) (by kernel_rfl) (by kernel_rfl) (fun _ _ _ h => h) (Or.inr ⟨by rfl, rfl⟩) (by assumption) ?_
    simp only [Act.put]
    refine wpAnyH_take (i := 12) (oi := _) (v := .bool false) rfl (by kernel_rfl) (by kernel_rfl) (by kernel_rfl) (fun _ _ _ h => h) (Or.inl ⟨by rfl, ?_⟩) (by assumption) ?_
    · intro w' hSw
      try dsimp only at hSw
      go_simp <;> first | with_reducible rfl | assumption
    simp only [Act.put]
    refine wpAnyH_ready (rs := [13]) (by kernel_rfl) (by simp) ?_
    refine AllReadyH.cons (o := _) rfl (fun K hK => ?_) AllReadyH.nil
    go_simp
    refine hK.out _ _ ⟨f0, f1, f2, f3⟩ (fun hHeld => ?_)
    clear hK K
    try simp only [Act.put]
    refine wpAnyH_done (by kernel_rfl) ?_ _
    go_wp2_with fail
    go_ret
    exact ⟨⟨_, rfl⟩, below_then b0 (below_then (below_drew _ _) ha)⟩
  · rw [hm] at HM
    obtain ⟨h1, h2, h3, h4, h5, h6, h7, h8, h9⟩ := may_true hm
    obtain ⟨M, hM⟩ : ∃ M : Nat, (M : Int) = k + r := ⟨(k + r).toNat, by omega⟩
    have HN : Hid (∀ w, Calls Tryz.prog 59 #[.agg #[.int .i64 k, .int .i64 r, .int .i64 c, .int .i64 q]] w fun e w' => e = .returned (.int .i64 (M : Int)) /\ Below w.heap.size w w') := fun w => Im.N_any c q hM (by omega) w
    clear h1 h2 h3 h4 h5 h6 h7 h8 h9 hm
    go_enter Tryz.func21, Tryz.ntmps21
    go_wp2_with fail
    rw [<- hw0]
    clear hw0
    go_region_held3 (fun v => v.cell? ⟨w.heap.size, 0, none⟩ = some (.int .i64 k) /\ v.cell? ⟨w.heap.size, 1, none⟩ = some (.int .i64 r) /\ v.cell? ⟨w.heap.size, 2, none⟩ = some (.int .i64 c) /\ v.cell? ⟨w.heap.size, 3, none⟩ = some (.int .i64 q)) (go_keep)
      ((first
        | (go_at_call 58; refine (HM.out _).mono ?_; rintro e wp ⟨rfl, hp⟩
           have f0 := held (w := w0.drew) a0 hp; have f1 := held (w := w0.drew) a1 hp; have f2 := held (w := w0.drew) a2 hp; have f3 := held (w := w0.drew) a3 hp)
        | (go_at_call 59; refine (HN.out _).mono ?_; rintro e wq ⟨rfl, hq⟩
           have g0 := held f0 hq; have g1 := held f1 hq; have g2 := held f2 hq; have g3 := held f3 hq)))
    go_wp2_with fail
    go_ret
    exact ⟨⟨_, rfl⟩, below_then b0 (below_then (below_then (below_drew _ _) hp) hq)⟩
end Go.Proofs.YtmoenmpbkockoaaGreat
namespace Go.Proofs.YtmoenmpbkockoaaGreat
open Go.RowKit
theorem Stripes_tr {k r c q : Int} {n : Nat} {F : Nat -> List UInt8} {o E A D : Int} {M : Nat} {R V : Nat -> Int} {y : Int} {l s : Nat} {SR SV : Nat -> Int} (h : Ob k r c q n F o E A D M R V y l s SR SV) (w : World) (lo : Option Addr) (cl : Nat) (hcl : n <= cl) (A0 : Nat -> Option Addr) (C0 : Nat -> Nat) (hl : Im.Lst w lo n A0 C0 F) :
    Calls Tryz.prog 24 #[.agg #[.int .i64 k, .int .i64 r, .int .i64 c, .int .i64 q, .slice lo n cl], .int .i64 o] w (AnsLv w E (l + s + 1) (lvA o l R SR) (lvA y l V SV)) := by
  by_cases hE : E = 0
  · subst hE
    obtain ⟨_, _, _, _, h1, h2⟩ := ob_good h
    exact Stripes_good w lo n cl o A D M R V y l s (by omega) (by omega) SR SV (fun u hu => Object_any h u lo cl hcl A0 C0 (hl.below hu))
  · exact Stripes_bad w lo n cl o E hE A D M R V y l s SR SV (fun u hu => Object_any h u lo cl hcl A0 C0 (hl.below hu)) _ _ _
theorem ob_none : Ob 0 0 0 0 0 (fun _ => []) 0 2 0 0 0 (fun _ => 0) (fun _ => 0) 0 0 0 (fun _ => 0) (fun _ => 0) :=
  .inl ⟨by decide, 0, fun _ => [], 2, 0, 0, 0, .inr (.inl ⟨rfl, by decide, rfl, rfl, rfl⟩), .inr ⟨⟨rfl, rfl⟩, .inl ⟨by decide, rfl⟩⟩⟩
set_option maxHeartbeats 1000000 in
set_option maxRecDepth 100000 in
theorem awake_any (w : World) : Calls Tryz.prog 20 #[] w fun e w' => e = .returned (.bool true) /\ Below w.heap.size w w' := by
  have HR : Hid (∀ w, Calls Tryz.prog 23 #[.agg #[.int .i64 0, .int .i64 0, .int .i64 0, .int .i64 0, .slice none 0 0], .int .i64 0] w fun e w' => e = .returned (.tuple #[.slice none 0 0, .int .i64 2]) /\ Below w.heap.size w w') := fun w => Rows_bad w none 0 0 0 2 (by decide) _ _ _ (fun u _ => Stripes_tr ob_none u none 0 (Nat.le_refl _) (fun _ => none) (fun _ => 0) (Im.lst_none _ _ _ _ _))
  go_enter Tryz.func20, Tryz.ntmps20
  go_wp2_with fail
  refine (HR.out _).mono ?_
  rintro e wa ⟨rfl, ha⟩
  clear HR
  go_wp2_with fail
  go_ret
  exact ⟨rfl, ha⟩
set_option maxHeartbeats 1000000 in
set_option maxRecDepth 100000 in
theorem among_yes {B : Nat} (w : World) (ao : Option Addr) (n cap : Nat) (a v : Nat -> Int) (h : OwV B w ao n cap a v) (x : Int) (hn : n <= 100000) (hx : ∃ i, i < n /\ a i = x) :
    Calls Tryz.prog 28 #[.slice ao n cap, .int .i64 x] w fun e w' => e = .returned (.bool true) /\ w' = w := by
  obtain ⟨j0, hj0, hx0⟩ := hx
  obtain ⟨g, rfl, hg1, hg2, hc⟩ := h.at_ (by omega)
  have HC : Hid (∀ i, i < n -> w.cell? ⟨g, i * 3, none⟩ = some (.int .i64 (a i))) := fun i hi => (hc i hi).1
  have HX : Hid (j0 < n /\ a j0 = x) := ⟨hj0, hx0⟩
  clear hc h hx0 hj0
  go_enter Tryz.func28, Tryz.ntmps28
  go_wp2_with fail
  go_loop [5] (fun y => ∃ i : Nat, i <= j0 /\ y = .int .i64 (i : Int)) (fun y => n - (intOf y).toNat)
  case atStart => exact ⟨0, Nat.zero_le _, rfl⟩
  case round =>
    obtain ⟨i, hi, rfl⟩ := hrel
    have hin : i < n := Nat.lt_of_le_of_lt hi HX.out.1
    have i1 : (0 : Int) <= (i : Int) := by omega
    have i2 : (i : Int) < (n : Int) := by omega
    have c0 := HC.out i hin
    obtain ⟨p, hp⟩ : ∃ p, p = a i := ⟨_, rfl⟩
    have HP : Hid (p = a i) := hp
    rw [<- hp] at c0
    clear hp
    by_cases hpx : p = x
    · subst hpx
      go_wp2_with fail
      go_ret
      exact ⟨rfl, rfl⟩
    · have hz : (p == x) = false := by simpa using hpx
      have HNE : Hid (i ≠ j0) := fun e => hpx (by rw [HP.out, e]; exact HX.out.2)
      go_wp2_with fail
      go_round
      case rel => exact ⟨i + 1, by have := HNE.out; omega, by go_num⟩
      case measure => simp [intOf]; omega
end Go.Proofs.YtmoenmpbkockoaaGreat
