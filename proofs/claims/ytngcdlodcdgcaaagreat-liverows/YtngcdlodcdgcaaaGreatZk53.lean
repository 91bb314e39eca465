import Derived.Test.YtngcdlodcdgcaaaGreatZk22
import Derived.Test.YtngcdlodcdgcaaaGreatZk52
namespace Go.Proofs.YtngcdlodcdgcaaaGreat.Dr
open Go.RowKit
theorem mx_ge (R : Nat -> Int) : ∀ {n i : Nat}, i < n -> R i <= mx R n
 | n + 1, i, h => by
  rw [mx, gr]
  by_cases e : i = n
  ·subst e; split <;> omega
  ·have := mx_ge R (n := n) (i := i) (by omega)
   split <;> omega
theorem mx_nn (R : Nat -> Int) : ∀ n : Nat, 0 <= mx R n
 | 0 => Int.le_refl 0
 | n + 1 => by have := mx_nn R n; rw [mx, gr]; split <;> omega
theorem mx_le {R : Nat -> Int} {m : Int} (hm : 0 <= m) (h : ∀ i, R i <= m) : ∀ n : Nat, mx R n <= m
 | 0 => hm
 | n + 1 => by have := mx_le hm h n; have := h n; rw [mx, gr]; split <;> omega
theorem tvL_mem {P Q : Nat -> Int} {v : Int} : ∀ {n : Nat}, v ∈ Cn.tvL P Q n -> ∃ j, j < n /\ ((P j ≠ 0 /\ v = P j) \/ (Q j ≠ 0 /\ v = Q j))
 | 0, h => by cases h
 | n + 1, h => by
  rw [Cn.tvL] at h
  have hl : ∀ l, l = (if P n = 0 then Cn.tvL P Q n else Cn.insD (P n) (Cn.tvL P Q n)) -> v ∈ l -> ∃ j, j < n + 1 /\ ((P j ≠ 0 /\ v = P j) \/ (Q j ≠ 0 /\ v = Q j)) := by
   intro l e hv
   rw [e] at hv
   split at hv
   ·obtain ⟨j, h1, h2⟩ := tvL_mem hv; exact ⟨j, by omega, h2⟩
   ·rcases Cn.mem_insD.1 hv with e | hv
    ·exact ⟨n, by omega, .inl ⟨‹_›, e⟩⟩
    ·obtain ⟨j, h1, h2⟩ := tvL_mem hv; exact ⟨j, by omega, h2⟩
  try simp only at h
  split at h
  ·exact hl _ rfl h
  ·rcases Cn.mem_insD.1 h with e | h
   ·exact ⟨n, by omega, .inr ⟨‹_›, e⟩⟩
   ·exact hl _ rfl h
theorem hs_st {N : Nat} {c : Int} {ix n : Nat} {F : Nat -> UInt8} (h : Cn.hs N c ix n F ≠ 0) : isS N c n F = true /\ (dec N c F).ix = (ix : Int) /\ Cn.hs N c ix n F <= (dec N c F).st := by
 unfold Cn.hs at h ⊢
 rcases he_is N c (ix : Int) n F with e | ⟨h1, h2, h3, h4⟩
 ·rw [e] at h
  exfalso; apply h
  unfold ofK; split <;> (unfold Cn.ev; split <;> rfl)
 ·rw [h4] at h h1 h2 ⊢
  refine ⟨h3, h2, ?_⟩
  unfold ofK at h ⊢
  split
  ·rename_i hk
   rw [if_pos hk] at h
   unfold Cn.ev at h ⊢
   obtain ⟨⟨g1, g2⟩, g3, g4, g5, g6, g7, g8⟩ := okS_true h1
   split
   ·rw [g8, g7]
    exact mx_ge _ (by omega)
   ·rename_i hn; rw [if_neg hn] at h; exact absurd rfl h
  ·rename_i hk
   rw [if_neg hk] at h
   exfalso; apply h
   unfold Cn.ev; split <;> rfl
theorem dV_le {k c : Int} {N Q n : Nat} {F : Nat -> List UInt8} {o : Nat} (ho : o < Q) (hn : n = N * Q * 2) : dV k c N Q F o <= mx (vIn N c Q F) n := by
 unfold dV wnV
 cases hw : Cn.wins k (Cn.hP N c (gL Q F o) (gF Q F o)) (Cn.hQ N c (gL Q F o) (gF Q F o)) N with
 | nil => exact mx_nn _ _
 | cons v l =>
  show v <= _
  have hv : v ∈ Cn.tvL (Cn.hP N c (gL Q F o) (gF Q F o)) (Cn.hQ N c (gL Q F o) (gF Q F o)) N := by
   have : v ∈ Cn.wins k (Cn.hP N c (gL Q F o) (gF Q F o)) (Cn.hQ N c (gL Q F o) (gF Q F o)) N := by rw [hw]; exact List.mem_cons_self
   exact (List.mem_filter.1 this).1
  obtain ⟨j, hj, hc⟩ := tvL_mem hv
  have hs : ∃ s, s < 2 /\ Cn.hs N c j (gL Q F o (2 * j + s)) (gF Q F o (2 * j + s)) ≠ 0 /\ v = Cn.hs N c j (gL Q F o (2 * j + s)) (gF Q F o (2 * j + s)) := by
   rcases hc with ⟨h1, h2⟩ | ⟨h1, h2⟩
   ·exact ⟨0, by omega, h1, h2⟩
   ·unfold Cn.hQ Cn.onc at h1 h2
    split at h2
    ·rename_i e; rw [if_pos e] at h1; exact absurd rfl h1
    ·rename_i e; rw [if_neg e] at h1; exact ⟨1, by omega, h1, h2⟩
  obtain ⟨s, hs2, hne, hvs⟩ := hs
  obtain ⟨h1, h2, h3⟩ := hs_st hne
  rw [hvs]
  refine Int.le_trans h3 ?_
  have hi : (j * Q + o) * 2 + s < n := by
   rw [hn]
   have : (j + 1) * Q <= N * Q := Nat.mul_le_mul_right Q hj
   rw [Nat.succ_mul] at this
   omega
  have hd : ((j * Q + o) * 2 + s) / (2 * Q) = j := by
   rw [show (j * Q + o) * 2 + s = 2 * o + s + 2 * Q * j by rw [Nat.add_mul, Nat.mul_right_comm 2 Q j, Nat.mul_comm (2 * j) Q, Nat.mul_comm 2 j, <- Nat.mul_assoc, Nat.mul_comm Q j]; omega, Nat.add_mul_div_left _ _ (by omega), Nat.div_eq_of_lt (by omega)]; omega
  have hF : Im.rowF Q o F (2 * j + s) = F ((j * Q + o) * 2 + s) := by
   unfold Im.rowF; rw [show (2 * j + s) / 2 = j by omega, show (2 * j + s) % 2 = s by omega]
  have hv2 : vIn N c Q F ((j * Q + o) * 2 + s) = (dec N c (gF Q F o (2 * j + s))).st := by
   have e1 : gF Q F o (2 * j + s) = fun t => (F ((j * Q + o) * 2 + s)).getD t 0 := by funext t; unfold gF; rw [hF]
   have e2 : gL Q F o (2 * j + s) = (F ((j * Q + o) * 2 + s)).length := by unfold gL; rw [hF]
   rw [e1] at h2 ⊢
   rw [e1, e2] at h1
   unfold vIn
   rw [if_pos]
   refine ⟨?_, by rw [h2, hd]⟩
   unfold isQ; rw [h1]; rfl
  rw [<- hv2]
  exact mx_ge _ hi
end Go.Proofs.YtngcdlodcdgcaaaGreat.Dr
namespace Go.Proofs.YtngcdlodcdgcaaaGreat.Dr
open Go.RowKit
theorem vIn_bd (N : Nat) (c : Int) (Q : Nat) (F : Nat -> List UInt8) (i : Nat) : 0 <= vIn N c Q F i /\ vIn N c Q F i <= 1073741824 := by
 unfold vIn
 split
 ·rename_i h
  have h1 := h.1
  unfold isQ at h1
  have h2 : isS N c (F i).length (fun t => (F i).getD t 0) = true := by simpa using h1
  obtain ⟨⟨g1, g2⟩, _, _, _, _, g7, _⟩ := okS_true (is_true h2).2.2.2
  rw [g7]
  exact mx_bd g2
 ·omega
theorem ret_gr {a m v : Int} (h : a = gr m v) : Value.int .i64 (max m v) = .int .i64 a := by
 rw [h, gr]; congr 1; split <;> omega
theorem Next_bad {k r c q : Int} (x : Int) (hx : x ≠ 0) (w : World) (lo : Option Addr) (n cl : Nat)
  (HC : Hid (∀ u, Below w.heap.size w u -> Calls Tryz.prog 24 #[.agg #[.int .i64 k, .int .i64 r, .int .i64 c, .int .i64 q, .slice lo n cl]] u fun e w' => e = .returned (.int .i64 x) /\ Below u.heap.size u w')) :
  Calls Tryz.prog 10 #[.agg #[.int .i64 k, .int .i64 r, .int .i64 c, .int .i64 q, .slice lo n cl]] w fun e w' => e = .returned (.tuple #[.int .i64 0, .int .i64 x]) /\ Below w.heap.size w w' := by
 have hz : (x != 0) = true := by simpa using hx
 clear hx
 obtain ⟨w0, hw0⟩ : ∃ w0, w0 = w.alloc (.cells #[.int .i64 k, .int .i64 r, .int .i64 c, .int .i64 q, .slice lo n cl] 26) := ⟨_, rfl⟩
 have b0 : Below w.heap.size w w0 := by rw [hw0]; exact below_alloc _ _
 have hc := HC.out w0 b0
 clear HC
 go_enter Tryz.func10, Tryz.ntmps10
 go_wp2_with fail
 rw [<- hw0]
 refine hc.mono ?_
 rintro e wa ⟨rfl, ha⟩
 clear hc hw0
 go_wp2_with fail
 go_ret2
 exact ⟨rfl, below_then b0 ha⟩
set_option maxHeartbeats 1000000 in
set_option maxRecDepth 100000 in
theorem Next_good {k r c q : Int} (w : World) (lo : Option Addr) (n cl : Nat) (hn : n <= 100000) (V : Nat -> Int) (hV : ∀ i, 0 <= V i /\ V i <= 1073741824)
  (HC : Hid (∀ u, Below w.heap.size w u -> Calls Tryz.prog 24 #[.agg #[.int .i64 k, .int .i64 r, .int .i64 c, .int .i64 q, .slice lo n cl]] u fun e w' => e = .returned (.int .i64 0) /\ Below u.heap.size u w'))
  (HW : Hid (∀ i, i < n -> ∀ u, Below w.heap.size w u -> Calls Tryz.prog 25 #[.agg #[.int .i64 k, .int .i64 r, .int .i64 c, .int .i64 q, .slice lo n cl], .int .i64 (i : Int)] u fun e w' => e = .returned (.int .i64 (V i)) /\ Below u.heap.size u w')) :
  Calls Tryz.prog 10 #[.agg #[.int .i64 k, .int .i64 r, .int .i64 c, .int .i64 q, .slice lo n cl]] w fun e w' => e = .returned (.tuple #[.int .i64 (mx V n + 1), .int .i64 0]) /\ Below w.heap.size w w' := by
 obtain ⟨w0, hw0⟩ : ∃ w0, w0 = w.alloc (.cells #[.int .i64 k, .int .i64 r, .int .i64 c, .int .i64 q, .slice lo n cl] 26) := ⟨_, rfl⟩
 have b0 : Below w.heap.size w w0 := by rw [hw0]; exact below_alloc _ _
 have HB0 : Hid (Below w.heap.size w w0) := b0
 have HIM : Hid (∀ v, RowKit.Below w0.heap.size w0 v -> v.cell? ⟨w.heap.size, 0, none⟩ = some (.int .i64 k) /\ v.cell? ⟨w.heap.size, 1, none⟩ = some (.int .i64 r) /\ v.cell? ⟨w.heap.size, 2, none⟩ = some (.int .i64 c) /\ v.cell? ⟨w.heap.size, 3, none⟩ = some (.int .i64 q) /\ v.cell? ⟨w.heap.size, 4, none⟩ = some (.slice lo n cl)) := fun v hv => ⟨blk_held hw0 hv 0 rfl, blk_held hw0 hv 1 rfl, blk_held hw0 hv 2 rfl, blk_held hw0 hv 3 rfl, blk_held hw0 hv 4 rfl⟩
 have HVB : Hid (∀ i, 0 <= V i /\ V i <= 1073741824) := hV
 have hc := HC.out w0 b0
 clear HC hV
 go_enter Tryz.func10, Tryz.ntmps10
 go_wp2_with fail
 rw [<- hw0]
 refine hc.mono ?_
 rintro e wa ⟨rfl, ha⟩
 obtain ⟨t0, t1, t2, t3, t4⟩ := HIM.out wa ha
 have HAB : Hid (Below w0.heap.size w0 wa) := ha
 clear hc hw0 ha b0
 go_wp2_with fail
 go_loopw [5, 6, 15] (fun s _ x wr => ∃ i : Nat, i <= n /\ x = .int .i64 (i : Int) /\ s = .int .i64 (mx V i) /\ Hid (Below wa.heap.size wa wr)) (fun _ _ x _ => n - (intOf x).toNat)
 case atStart => exact ⟨0, Nat.zero_le _, rfl, rfl, Below.refl _ _⟩
 case round =>
  obtain ⟨i, hi, rfl, rfl, hbel⟩ := hrel
  have HW0 : Hid (RowKit.Below w0.heap.size w0 wr) := below_then HAB.out hbel.out
  have hm0 := mx_nn V i
  have hm1 := mx_le (R := V) (m := 1073741824) (by omega) (fun i => (HVB.out i).2) i
  by_cases hlt : i < n
  ·have hvi := HVB.out i
   obtain ⟨t0, t1, t2, t3, t4⟩ := HIM.out wr HW0.out
   have hcall := HW.out i hlt wr (below_then HB0.out HW0.out)
   have HS : Hid (mx V (i + 1) = gr (mx V i) (V i)) := rfl
   obtain ⟨m, hm⟩ : ∃ m, m = mx V i := ⟨_, rfl⟩
   obtain ⟨v, hv⟩ : ∃ v, v = V i := ⟨_, rfl⟩
   rw [<- hm] at HS hm0 hm1 ⊢
   rw [<- hv] at HS hvi hcall
   clear hm hv
   go_wp2_with fail
   refine hcall.mono ?_
   rintro e wb ⟨rfl, hb⟩
   have HBB : Hid (Below wa.heap.size wa wb) := below_then hbel.out hb
   clear hcall hb t0 t1 t2 t3 t4
   go_wp2_with fail
   go_roundw
   case rel => exact ⟨i + 1, by omega, by go_num, ret_gr HS.out, HBB⟩
   case measure => simp [intOf]; omega
  ·obtain rfl : i = n := by omega
   have HBB : Hid (RowKit.Below w.heap.size w wr) := below_then HB0.out HW0.out
   go_wp2_with fail
   go_ret2
   exact ⟨rfl, HBB.out⟩
end Go.Proofs.YtngcdlodcdgcaaaGreat.Dr
namespace Go.Proofs.YtngcdlodcdgcaaaGreat
open Go.RowKit
set_option maxHeartbeats 400000 in
set_option maxRecDepth 100000 in
theorem May_any (k r c q : Int) (w : World) :
    Calls Tryz.prog 17 #[.agg #[.int .i64 k, .int .i64 r, .int .i64 c, .int .i64 q]] w fun e w' => e = .returned (.bool (may k r c q)) /\ Below w.heap.size w w' := by
  have HW : Hid (1 <= k -> k <= 12 -> 8 <= c -> c <= 64 -> wrap64 (k * c) = k * c) := wrap_wide
  go_enter Tryz.func17, Tryz.ntmps17
  go_wp2
  all_goals (go_ret; have := HW.out; refine ⟨ret_bool ?_, below_alloc _ _⟩; rw [may_decide]; first | exact decide_eq_decide.2 (by omega) | exact (decide_eq_false (by omega)).symm)
set_option maxHeartbeats 4000000 in
set_option maxRecDepth 100000 in
theorem big_any (k r c q : Int) (lo : Option Addr) (n cl : Nat) (w : World) : Calls Tryz.prog 6 #[.agg #[.int .i64 k, .int .i64 r, .int .i64 c, .int .i64 q, .slice lo n cl]] w fun e w' => (∃ b, e = .returned (.bool b)) /\ Below w.heap.size w w' := by
  have HM : Hid (∀ w, Calls Tryz.prog 17 #[.agg #[.int .i64 k, .int .i64 r, .int .i64 c, .int .i64 q]] w fun e w' => e = .returned (.bool (may k r c q)) /\ Below w.heap.size w w') := fun w => May_any k r c q w
  obtain ⟨w0, hw0⟩ : ∃ w0, w0 = w.alloc (.cells #[.int .i64 k, .int .i64 r, .int .i64 c, .int .i64 q, .slice lo n cl] 26) := ⟨_, rfl⟩
  have b0 : Below w.heap.size w w0 := by rw [hw0]; exact below_alloc _ _
  have s0 := blk_held hw0 (Below.refl _ _) 0 rfl
  have s1 := blk_held hw0 (Below.refl _ _) 1 rfl
  have s2 := blk_held hw0 (Below.refl _ _) 2 rfl
  have s3 := blk_held hw0 (Below.refl _ _) 3 rfl
  have a0 : w0.cell? ⟨w.heap.size, 0, none⟩ = some (.int .i64 k) := s0
  have a1 : w0.cell? ⟨w.heap.size, 1, none⟩ = some (.int .i64 r) := s1
  have a2 : w0.cell? ⟨w.heap.size, 2, none⟩ = some (.int .i64 c) := s2
  have a3 : w0.cell? ⟨w.heap.size, 3, none⟩ = some (.int .i64 q) := s3
  clear s0 s1 s2 s3
  cases hm : may k r c q
  · rw [hm] at HM
    go_enter Tryz.func6, Tryz.ntmps6
    go_wp2_with fail
    rw [<- hw0]
    clear hw0
    refine wp_region_held_drew (S := (fun v => v.cell? ⟨w.heap.size, 0, none⟩ = some (.int .i64 k) /\ v.cell? ⟨w.heap.size, 1, none⟩ = some (.int .i64 r) /\ v.cell? ⟨w.heap.size, 2, none⟩ = some (.int .i64 c) /\ v.cell? ⟨w.heap.size, 3, none⟩ = some (.int .i64 q))) (by kernel_rfl) ⟨a0, a1, a2, a3⟩ (fun hHeld => ?_)
    refine wpAnyH_take (i := 0) (oi := _) (v := .pointer (some ⟨w.heap.size, 0, none⟩)) rfl (by kernel_rfl) (by kernel_rfl) (by kernel_rfl) (fun _ _ _ h => h) (Or.inl ⟨by rfl, ?_⟩) (by assumption) ?_
    · intro w' hSw
      try dsimp only at hSw
      go_simp <;> first | with_reducible rfl | assumption
    simp only [Act.put]
    refine wpAnyH_take (i := 1) (oi := _) (v := .agg #[.int .i64 k, .int .i64 r, .int .i64 c, .int .i64 q]) rfl (by kernel_rfl) (by kernel_rfl) (by kernel_rfl) (fun _ _ _ h => h) (Or.inl ⟨by rfl, ?_⟩) (by assumption) ?_
    · intro w' hSw
      try dsimp only at hSw
      go_simp <;> first | with_reducible rfl | assumption
    simp only [Act.put]
    refine wpAnyH_ready (rs := [2]) (by kernel_rfl) (by simp) ?_
    refine AllReadyH.cons (o := _) rfl (fun K hK => ?_) AllReadyH.nil
    go_simp
    refine (HM.out _).mono ?_
    rintro e wa ⟨rfl, ha⟩
    have f0 := held (w := w0.drew) a0 ha
    have f1 := held (w := w0.drew) a1 ha
    have f2 := held (w := w0.drew) a2 ha
    have f3 := held (w := w0.drew) a3 ha
    refine hK.out _ _ ⟨f0, f1, f2, f3⟩ (fun hHeld => ?_)
    clear hK K
    try simp only [Act.put]
    refine wpAnyH_take (i := 3) (oi := _) (v := .bool false) rfl (by kernel_rfl) (by kernel_rfl) (by kernel_rfl) (fun _ _ _ h => h) (Or.inl ⟨by rfl, ?_⟩) (by assumption) ?_
    · intro w' hSw
      try dsimp only at hSw
      go_simp <;> first | with_reducible rfl | assumption
    simp only [Act.put]
    refine wpAnyH_take (i := 4) (oi := _) (v := undef) rfl (by kernel_rfl) (by kernel_rfl) (by kernel_rfl) (fun _ _ _ h => h) (Or.inr ⟨by rfl, rfl⟩) (by assumption) ?_
    simp only [Act.put]
    refine wpAnyH_take (i := 5) (oi := _) (v := undef) rfl (by kernel_rfl) (by kernel_rfl) (by kernel_rfl) (fun _ _ _ h => h) (Or.inr ⟨by rfl, rfl⟩) (by assumption) ?_
    simp only [Act.put]
    refine wpAnyH_take (i := 7) (oi := _) (v := undef) rfl (by kernel_rfl) (by kernel_rfl) (by kernel_rfl) (fun _ _ _ h => h) (Or.inr ⟨by rfl, rfl⟩) (by assumption) ?_
    simp only [Act.put]
    refine wpAnyH_take (i := 8) (oi := _) (v := undef) rfl (by kernel_rfl) (by kernel_rfl) (by kernel_rfl) (fun _ _ _ h => h) (Or.inr ⟨by rfl, rfl⟩) (by assumption) ?_
    simp only [Act.put]
    refine wpAnyH_take (i := 9) (oi := _) (v := undef) rfl (by kernel_rfl) (by kernel_rfl) (by kernel_rfl) (fun _ _ _ h => h) (Or.inr ⟨by rfl, rfl⟩) (by assumption) ?_
    simp only [Act.put]
    refine wpAnyH_ready (rs := [6]) (by kernel_rfl) (by simp) ?_
    refine AllReadyH.cons (o := _) rfl (fun K hK => ?_) AllReadyH.nil
    go_simp
    refine hK.out _ _ ⟨f0, f1, f2, f3⟩ (fun hHeld => ?_)
    clear hK K
    try simp only [Act.put]
    refine wpAnyH_take (i := 10) (oi := _) (v := undef) rfl (by kernel_rfl) (by kernel_rfl) (by kernel_rfl) (fun _ _ _ h => h) (Or.inr ⟨by rfl, rfl⟩) (by assumption) ?_
    simp only [Act.put]
    refine wpAnyH_take (i := 11) (oi := _) (v := undef) rfl (by kernel_rfl) (by kernel_rfl) (by kernel_rfl) (fun _ _ _ h => h) (Or.inr ⟨by rfl, rfl⟩) (by assumption) ?_
    simp only [Act.put]
    refine wpAnyH_take (i := 12) (oi := _) (v := .bool false) rfl (by kernel_rfl) (by kernel_rfl) (by kernel_rfl) (fun _ _ _ h => h) (Or.inl ⟨by rfl, ?_⟩) (by assumption) ?_
    · intro w' hSw
      try dsimp only at hSw
      go_simp <;> first | with_reducible rfl | assumption
    simp only [Act.put]
    refine wpAnyH_ready (rs := [13]) (by kernel_rfl) (by simp) ?_
    refine AllReadyH.cons (o := _) rfl (fun K hK => ?_) AllReadyH.nil
    go_simp
    refine hK.out _ _ ⟨f0, f1, f2, f3⟩ (fun hHeld => ?_)
    clear hK K
    try simp only [Act.put]
    refine wpAnyH_done (by kernel_rfl) ?_ _
    go_wp2_with fail
    go_ret
    exact ⟨⟨_, rfl⟩, below_then b0 (below_then (below_drew _ _) ha)⟩
  · rw [hm] at HM
    obtain ⟨h1, h2, h3, h4, h5, h6, h7, h8, h9⟩ := may_true hm
    obtain ⟨M, hM⟩ : ∃ M : Nat, (M : Int) = k + r := ⟨(k + r).toNat, by omega⟩
    have HN : Hid (∀ w, Calls Tryz.prog 18 #[.agg #[.int .i64 k, .int .i64 r, .int .i64 c, .int .i64 q]] w fun e w' => e = .returned (.int .i64 (M : Int)) /\ Below w.heap.size w w') := fun w => Im.N_any c q hM (by omega) w
    clear h1 h2 h3 h4 h5 h6 h7 h8 h9 hm
    go_enter Tryz.func6, Tryz.ntmps6
    go_wp2_with fail
    rw [<- hw0]
    clear hw0
    go_region_held3 (fun v => v.cell? ⟨w.heap.size, 0, none⟩ = some (.int .i64 k) /\ v.cell? ⟨w.heap.size, 1, none⟩ = some (.int .i64 r) /\ v.cell? ⟨w.heap.size, 2, none⟩ = some (.int .i64 c) /\ v.cell? ⟨w.heap.size, 3, none⟩ = some (.int .i64 q)) (go_keep)
      ((first
        | (go_at_call 17; refine (HM.out _).mono ?_; rintro e wp ⟨rfl, hp⟩
           have f0 := held (w := w0.drew) a0 hp; have f1 := held (w := w0.drew) a1 hp; have f2 := held (w := w0.drew) a2 hp; have f3 := held (w := w0.drew) a3 hp)
        | (go_at_call 18; refine (HN.out _).mono ?_; rintro e wq ⟨rfl, hq⟩
           have g0 := held f0 hq; have g1 := held f1 hq; have g2 := held f2 hq; have g3 := held f3 hq)))
    go_wp2_with fail
    go_ret
    exact ⟨⟨_, rfl⟩, below_then b0 (below_then (below_then (below_drew _ _) hp) hq)⟩
end Go.Proofs.YtngcdlodcdgcaaaGreat
namespace Go.Proofs.YtngcdlodcdgcaaaGreat
open Go.RowKit
theorem Stripes_tr {k r c q : Int} {n : Nat} {F : Nat -> List UInt8} {o E A D : Int} {M : Nat} {R V : Nat -> Int} {y : Int} {l s : Nat} {SR SV : Nat -> Int} (h : Ob k r c q n F o E A D M R V y l s SR SV) (w : World) (lo : Option Addr) (cl : Nat) (hcl : n <= cl) (A0 : Nat -> Option Addr) (C0 : Nat -> Nat) (hl : Im.Lst w lo n A0 C0 F) :
    Calls Tryz.prog 13 #[.agg #[.int .i64 k, .int .i64 r, .int .i64 c, .int .i64 q, .slice lo n cl], .int .i64 o] w (AnsLv w E (l + s + 1) (lvA o l R SR) (lvA y l V SV)) := by
  by_cases hE : E = 0
  · subst hE
    obtain ⟨_, _, _, _, h1, h2⟩ := ob_good h
    exact Stripes_good w lo n cl o A D M R V y l s (by omega) (by omega) SR SV (fun u hu => Object_any h u lo cl hcl A0 C0 (hl.below hu))
  · exact Stripes_bad w lo n cl o E hE A D M R V y l s SR SV (fun u hu => Object_any h u lo cl hcl A0 C0 (hl.below hu)) _ _ _
end Go.Proofs.YtngcdlodcdgcaaaGreat
namespace Go.Proofs.YtngcdlodcdgcaaaGreat
open Go.RowKit
end Go.Proofs.YtngcdlodcdgcaaaGreat
namespace Go.Proofs.YtngcdlodcdgcaaaGreat
open Go.RowKit
theorem ob_get {k r c q : Int} {n : Nat} {F : Nat -> List UInt8} {o A D : Int} {M : Nat} {R V : Nat -> Int} {y : Int} {l s : Nat} {SR SV : Nat -> Int} (h : Ob k r c q n F o 0 A D M R V y l s SR SV) :
    ∃ N W Q S, Par k r c q N W 0 /\ Im.Ck k r c q n F 0 N Q S /\ (0 <= o /\ o < (Q : Int)) /\ (Q : Int) = q /\ 0 <= A /\ A <= ((mst W : Nat) : Int) /\ A.toNat <= s * W /\ s <= 1024 := by
  obtain ⟨N', W', hp', hmade, _, hs⟩ := ob_good h
  rcases h with ⟨hE, _⟩ | ⟨N, W, Q, S, hp, hck, ho, _, _⟩
  · exact absurd rfl hE
  · have hW : W' = W := by rw [<- wide_eq hp, <- wide_eq hp']
    subst hW
    obtain ⟨⟨h0, hN, hQ, hS⟩, _⟩ := hck.ok rfl
    have hw := (wide_of hp).2.1
    rcases hmade with ⟨_, h1, h2, h3, _⟩ | ⟨_, _, _, _, _, h6⟩ | ⟨_, _, _, _, _, _, _, h6⟩
    · refine ⟨N, W', Q, S, hp, hck, ho, hQ, h1, h2, ?_, hs⟩
      rw [h3]; exact up_room (by omega)
    · exact absurd h6 (by decide)
    · exact absurd h6 (by decide)
theorem between_ob {k r c q : Int} {n s : Nat} {F : Nat -> List UInt8} {SR SV : Nat -> Int} {N W Q S : Nat} (hp : Par k r c q N W 0) (hck : Im.Ck k r c q n F 0 N Q S) (hs : s <= 1024) (w : World) (lo : Option Addr) (cl : Nat) (hcl : n <= cl) (A0 : Nat -> Option Addr) (C0 : Nat -> Nat) (hl : Im.Lst w lo n A0 C0 F) (so : Option Addr) (sc : Nat) (hrec : De.Rec w so s sc SR SV) (a z : Nat) (haz : a <= z) (hz : z <= s * W) :
    Calls Tryz.prog 57 #[.agg #[.int .i64 k, .int .i64 r, .int .i64 c, .int .i64 q, .slice lo n cl], .slice so s sc, .int .i64 (a : Int), .int .i64 (z : Int)] w (AnsB w (obF (obH (fun i => rdE k c N Q F (SR i) (SV i)) W a z) s) (z - a) (fun p => ctn W (fun i => dat k c N Q F (SR i) (SV i)) (a + p))) := by
  obtain ⟨_, hw1, hw2⟩ := wide_of hp
  refine between_go W (by omega) hw2 w lo n cl so s sc hs SR SV a z haz hz _ _ (fun i hi => ?_) (fun u => Width_any hp u) (fun i hi u hu => obRead_any hp hck u lo cl hcl A0 C0 (hl.below hu) (SR i) (SV i))
  obtain ⟨b, off, e, hc⟩ := hrec.rd (by omega)
  exact ⟨b, off, e, (hc i hi).1, (hc i hi).2⟩
theorem Bytes_ob {k r c q : Int} {n : Nat} {F : Nat -> List UInt8} {o A D : Int} {M : Nat} {R V : Nat -> Int} {y : Int} {l s : Nat} {SR SV : Nat -> Int} {N W Q S : Nat} (h : Ob k r c q n F o 0 A D M R V y l s SR SV) (hp : Par k r c q N W 0) (hck : Im.Ck k r c q n F 0 N Q S) (hA : 0 <= A) (hs : s <= 1024) (hz : A.toNat <= s * W) (w : World) (lo : Option Addr) (cl : Nat) (hcl : n <= cl) (A0 : Nat -> Option Addr) (C0 : Nat -> Nat) (hl : Im.Lst w lo n A0 C0 F) :
    Calls Tryz.prog 33 #[.agg #[.int .i64 k, .int .i64 r, .int .i64 c, .int .i64 q, .slice lo n cl], .int .i64 o] w (AnsB w (obF (obH (fun i => rdE k c N Q F (SR i) (SV i)) W 0 A.toNat) s) A.toNat (ctn W (fun i => dat k c N Q F (SR i) (SV i)))) := by
  refine Bytes_go w lo n cl o A D y M l s R V SR SV A.toNat (by omega) _ _ (fun u hu => Object_any h u lo cl hcl A0 C0 (hl.below hu)) (fun u so sc hu hrec => ?_)
  have hb := between_ob hp hck hs u lo cl hcl A0 C0 (hl.below hu) so sc hrec 0 A.toNat (Nat.zero_le _) hz
  rw [Nat.sub_zero] at hb
  simp only [Nat.zero_add] at hb
  exact hb
end Go.Proofs.YtngcdlodcdgcaaaGreat
