/- Blank drives; what each statement asks first; a disk that nobody made. -/
import Derived.Test.YtdicogmjjboilaaDskJ
namespace Go.Proofs.Ytdicogmjjboilaa
open Go.RowKit

set_option maxHeartbeats 1000000 in
set_option maxRecDepth 100000 in
theorem New_bad {k r c q : Int} (hm : may k r c q = false) (w : World) :
    Calls Try.prog 31 #[.agg #[.int .i64 k, .int .i64 r, .int .i64 c, .int .i64 q]] w fun e w' => e = .returned (.tuple #[.pointer none, .int .i64 2]) ∧ Below w.heap.size w w' := by
  have HC := fun w => drives_bad hm w
  obtain ⟨w0, hw0⟩ : ∃ w0, w0 = w.alloc (.cells #[.int .i64 k, .int .i64 r, .int .i64 c, .int .i64 q] 23) := ⟨_, rfl⟩
  have b0 : Below w.heap.size w w0 := by rw [hw0]; exact below_alloc _ _
  clear hm
  go_enter Try.func31, Try.ntmps31
  go_wp2_with fail
  rw [← hw0]
  clear hw0
  refine (HC _).mono ?_
  rintro e wa ⟨rfl, ha⟩
  go_wp2_with fail
  go_ret2
  exact ⟨rfl, below_then b0 ha⟩
theorem lst_blank {w : World} {l n : Nat} (h : w.rowIs l 43 n (fun _ => .slice none 0 0)) : Lst w (some ⟨l, 0, none⟩) n (fun _ => none) (fun _ => 0) (fun _ => []) :=
  ⟨fun _ => ⟨l, 0, rfl, fun i hi => by rw [Nat.zero_add]; exact h.cell hi⟩, fun _ _ => rdb_nil _ _, fun _ _ _ => ⟨rfl, rfl⟩⟩
theorem fit_blank (n S : Nat) : Fit n S (fun _ => []) := fun _ _ => .inl rfl
set_option maxHeartbeats 1000000 in
set_option maxRecDepth 100000 in
theorem New_ok {k r c : Int} {N Q S : Nat} (hp : Pm k r c Q N Q S) (w : World) :
    Calls Try.prog 31 #[.agg #[.int .i64 k, .int .i64 r, .int .i64 c, .int .i64 (Q : Int)]] w fun e w' => ∃ g, e = .returned (.tuple #[.pointer (some ⟨g, 0, none⟩), .int .i64 0]) ∧ Dk w' (fun b => w.heap.size ≤ b ∧ b < w'.heap.size) g k r c N Q S (newSt fun _ => []) ∧ Below w.heap.size w w' := by
  have HC := fun w => drives_ok hp w
  have hbd := hp.bounds
  have HO := fun (v : World) l hr => Of_ok hp (some ⟨l, 0, none⟩) (N * Q * 2) _ _ _ (fit_blank (N * Q * 2) S) v (lst_blank hr)
  obtain ⟨i0, hi, hz0, hz1, hz2⟩ := info_parts info43
  obtain ⟨p, hpp⟩ : ∃ p, p = N * Q := ⟨_, rfl⟩
  rw [← hpp] at HO hbd
  have hv : Value.int .i64 (IntKind.i64.wrap ((N : Int) * (Q : Int))) = .int .i64 (p : Int) := by rw [show (N : Int) * (Q : Int) = ((p : Nat) : Int) by rw [hpp]; simp, show IntKind.i64.wrap (p : Int) = (p : Int) by rw [IntKind.wrap_i64]; omega]
  have hv2 : Value.int .i64 (IntKind.i64.wrap ((p : Int) * 2)) = .int .i64 ((p * 2 : Nat) : Int) := by rw [show IntKind.i64.wrap ((p : Int) * 2) = ((p * 2 : Nat) : Int) by rw [IntKind.wrap_i64]; omega]
  have hmk := fun w => run_make_row (P := Try.prog) 24 43 i0 (.slice none 0 0) Try.underlying24 hi hz0 hz1 (by rfl) .i64 .i64 (p * 2) (by rw [hz2]; omega) (by omega) w
  obtain ⟨n, hn⟩ : ∃ n, n = p * 2 := ⟨_, rfl⟩
  rw [← hn] at HO hv2 hmk
  obtain ⟨w0, hw0⟩ : ∃ w0, w0 = w.alloc (.cells #[.int .i64 k, .int .i64 r, .int .i64 c, .int .i64 (Q : Int)] 23) := ⟨_, rfl⟩
  have b0 : Below w.heap.size w w0 := by rw [hw0]; exact below_alloc _ _
  have SH : Hid (∀ v, Below w0.heap.size w0 v → v.cell? ⟨w.heap.size, 0, none⟩ = some (.int .i64 k) ∧ v.cell? ⟨w.heap.size, 1, none⟩ = some (.int .i64 r) ∧ v.cell? ⟨w.heap.size, 2, none⟩ = some (.int .i64 c) ∧ v.cell? ⟨w.heap.size, 3, none⟩ = some (.int .i64 (Q : Int))) := fun v hv => par_held hw0 hv
  clear hpp hn hbd hp
  go_enter Try.func31, Try.ntmps31
  go_wp2_with fail
  rw [← hw0]
  clear hw0
  refine (HC _).mono ?_
  rintro e wa ⟨rfl, ha⟩
  obtain ⟨q0, q1, q2, q3⟩ := SH.out _ ha
  have y0 := fun o => held q0 (below_alloc wa o)
  have y1 := fun o => held q1 (below_alloc wa o)
  have y2 := fun o => held q2 (below_alloc wa o)
  have y3 := fun o => held q3 (below_alloc wa o)
  have HO := HO (wa.alloc (.cells (madeCells #[.slice none 0 0] n) 43)).drew wa.heap.size (World.rowIs_made wa _ n 43)
  go_wp2_with fail
  go_region_held3 (fun v => v.cell? ⟨w.heap.size, 0, none⟩ = some (.int .i64 k) ∧ v.cell? ⟨w.heap.size, 1, none⟩ = some (.int .i64 r) ∧ v.cell? ⟨w.heap.size, 2, none⟩ = some (.int .i64 c) ∧ v.cell? ⟨w.heap.size, 3, none⟩ = some (.int .i64 (Q : Int))) (go_keep)
    ((go_at_call 12; refine HO.mono ?_; rintro e wb ⟨g, rfl, ho, hb⟩; have hb' : Below wa.heap.size wa wb := below_then (below_alloc wa _) (of_drew hb); obtain ⟨p0, p1, p2, p3⟩ := SH.out _ (below_then ha hb'); have HD : Hid (Dk wb (fun b => (wa.alloc (.cells (madeCells #[.slice none 0 0] n) 43)).drew.heap.size ≤ b ∧ b < wb.heap.size) g k r c N Q S (newSt fun _ => [])) := ho; have HB : Hid (Below wa.heap.size wa wb) := hb'; clear ho hb hb'))
  all_goals go_wp2
  all_goals go_ret2
  all_goals
    refine ⟨g, rfl, HD.out.mono (fun b hb => ⟨?_, hb.2⟩) (fun b hb => hb.2), below_then b0 (below_then ha HB.out)⟩
    have h1 : (wa.alloc (.cells (madeCells #[.slice none 0 0] n) 43)).drew.heap.size = wa.heap.size + 1 := by show (wa.alloc _).heap.size = _; simp
    have h2 := hb.1
    have h3 := (below_then b0 ha).size
    omega
/-- What each statement asks first. -/
theorem pm_awake : Pm 2 1 16 ((8 : Nat) : Int) 3 8 40 := ⟨by decide, by decide, rfl, by decide⟩
set_option maxHeartbeats 1000000 in
set_option maxRecDepth 100000 in
theorem awake_any (w : World) : Calls Try.prog 8 #[] w fun e w' => e = .returned (.bool true) ∧ Below w.heap.size w w' := by
  have HC := New_ok pm_awake w
  go_enter Try.func8, Try.ntmps8
  go_wp2_with fail
  refine HC.mono ?_
  rintro e wa ⟨g, rfl, hd, ha⟩
  have H1 := Writes_any hd
  have H2 := Off_any hd
  clear hd HC
  rw [show (newSt fun _ => []).wr = 0 from rfl] at H1
  rw [show (newSt fun _ => []).off = false from rfl] at H2
  go_wp2_with (first | (go_at_call 37; refine H1.mono ?_; rintro e w' ⟨rfl, hw'⟩; obtain rfl := hw'.symm) | (go_at_call 36; refine H2.mono ?_; rintro e w' ⟨rfl, hw'⟩; obtain rfl := hw'.symm))
  go_ret
  exact ⟨rfl, ha⟩
/-- v is a disk that nobody made, whatever is made behind w. -/
def Nobody (v : Value) (w : World) : Prop := ∀ w', Below w.heap.size w w' → Calls Try.prog 45 #[v] w' fun e x => e = .returned (.bool true) ∧ x = w'
theorem Nobody.below {v : Value} {w w' : World} (h : Nobody v w) (hb : Below w.heap.size w w') : Nobody v w' := fun x hx => h x (below_then hb hx)
section
variable {v : Value} {w : World}
set_option maxHeartbeats 400000 in
theorem Off_no (h : Nobody v w) : Calls Try.prog 36 #[v] w fun e w' => e = .returned (.bool false) ∧ w' = w := by
  have HC := h w (Below.refl _ _)
  clear h
  go_enter Try.func36, Try.ntmps36
  go_wp2_with (go_at_call 45; refine HC.mono ?_; rintro e w' ⟨rfl, hw'⟩; obtain rfl := hw'.symm)
  go_ret
  exact ⟨rfl, rfl⟩
set_option maxHeartbeats 400000 in
theorem Writes_no (h : Nobody v w) : Calls Try.prog 37 #[v] w fun e w' => e = .returned (.int .i64 0) ∧ w' = w := by
  have HC := h w (Below.refl _ _)
  clear h
  go_enter Try.func37, Try.ntmps37
  go_wp2_with (go_at_call 45; refine HC.mono ?_; rintro e w' ⟨rfl, hw'⟩; obtain rfl := hw'.symm)
  go_ret
  exact ⟨rfl, rfl⟩
set_option maxHeartbeats 400000 in
theorem Wiped_no (h : Nobody v w) : Calls Try.prog 38 #[v] w fun e w' => e = .returned (.slice none 0 0) ∧ w' = w := by
  have HC := h w (Below.refl _ _)
  clear h
  go_enter Try.func38, Try.ntmps38
  go_wp2_with (go_at_call 45; refine HC.mono ?_; rintro e w' ⟨rfl, hw'⟩; obtain rfl := hw'.symm)
  go_ret
  exact ⟨rfl, rfl⟩
set_option maxHeartbeats 400000 in
theorem Whole_no (h : Nobody v w) : Calls Try.prog 27 #[v] w fun e w' => e = .returned (.int .i64 1) ∧ w' = w := by
  have HC := h w (Below.refl _ _)
  clear h
  go_enter Try.func27, Try.ntmps27
  go_wp2_with (go_at_call 45; refine HC.mono ?_; rintro e w' ⟨rfl, hw'⟩; obtain rfl := hw'.symm)
  go_ret
  exact ⟨rfl, rfl⟩
set_option maxHeartbeats 400000 in
theorem On_no (h : Nobody v w) : Calls Try.prog 25 #[v] w fun e w' => e = .returned (.int .i64 1) ∧ w' = w := by
  have HC := h w (Below.refl _ _)
  clear h
  go_enter Try.func25, Try.ntmps25
  go_wp2_with (go_at_call 45; refine HC.mono ?_; rintro e w' ⟨rfl, hw'⟩; obtain rfl := hw'.symm)
  go_ret
  exact ⟨rfl, rfl⟩
set_option maxHeartbeats 400000 in
theorem Cut_no (h : Nobody v w) (n : Int) : Calls Try.prog 23 #[v, .int .i64 n] w fun e w' => e = .returned (.int .i64 1) ∧ w' = w := by
  have HC := h w (Below.refl _ _)
  clear h
  go_enter Try.func23, Try.ntmps23
  go_wp2_with (go_at_call 45; refine HC.mono ?_; rintro e w' ⟨rfl, hw'⟩; obtain rfl := hw'.symm)
  go_ret
  exact ⟨rfl, rfl⟩
set_option maxHeartbeats 400000 in
theorem Wipe_no (h : Nobody v w) (n : Int) : Calls Try.prog 21 #[v, .int .i64 n] w fun e w' => e = .returned (.int .i64 1) ∧ w' = w := by
  have HC := h w (Below.refl _ _)
  clear h
  go_enter Try.func21, Try.ntmps21
  go_wp2_with (go_at_call 45; refine HC.mono ?_; rintro e w' ⟨rfl, hw'⟩; obtain rfl := hw'.symm)
  go_ret
  exact ⟨rfl, rfl⟩
set_option maxHeartbeats 400000 in
theorem Write_no (h : Nobody v w) : Calls Try.prog 17 #[v, .slice none 0 0] w fun e w' => e = .returned (.int .i64 1) ∧ w' = w := by
  have HC := h w (Below.refl _ _)
  clear h
  go_enter Try.func17, Try.ntmps17
  go_wp2_with (go_at_call 45; refine HC.mono ?_; rintro e w' ⟨rfl, hw'⟩; obtain rfl := hw'.symm)
  go_ret
  exact ⟨rfl, rfl⟩
set_option maxHeartbeats 400000 in
theorem Read_no (h : Nobody v w) (d o s : Int) : Calls Try.prog 19 #[v, .int .i64 d, .int .i64 o, .int .i64 s] w fun e w' => e = .returned (.tuple #[.slice none 0 0, .int .i64 1]) ∧ w' = w := by
  have HC := h w (Below.refl _ _)
  clear h
  go_enter Try.func19, Try.ntmps19
  go_wp2_with (go_at_call 45; refine HC.mono ?_; rintro e w' ⟨rfl, hw'⟩; obtain rfl := hw'.symm)
  go_ret2
  exact ⟨rfl, rfl⟩
set_option maxHeartbeats 400000 in
theorem Params_no (h : Nobody v w) : Calls Try.prog 39 #[v] w fun e w' => e = .returned (.tuple #[.agg #[.int .i64 0, .int .i64 0, .int .i64 0, .int .i64 0], .int .i64 1]) ∧ Below w.heap.size w w' := by
  obtain ⟨w0, hw0⟩ : ∃ w0, w0 = w.alloc (.cells #[.int .i64 0, .int .i64 0, .int .i64 0, .int .i64 0] 23) := ⟨_, rfl⟩
  have b0 : Below w.heap.size w w0 := by rw [hw0]; exact below_alloc _ _
  have HC := h w0 b0
  obtain ⟨m0, m1, m2, m3⟩ := par_held hw0 (Below.refl _ _)
  have f := blk_free hw0 (Below.refl _ _)
  clear h
  go_enter Try.func39, Try.ntmps39
  go_wp2_with fail
  rw [← hw0]
  clear hw0
  refine HC.mono ?_
  rintro e w' ⟨rfl, hw'⟩
  obtain rfl := hw'.symm
  go_wp2_with fail
  refine bodyPost_ret (v := .tuple #[.agg #[.int .i64 0, .int .i64 0, .int .i64 0, .int .i64 0], .int .i64 1]) (by simp [results, Try.results39, go_sem, m0, m1, m2, m3]) rfl ⟨rfl, ?_⟩
  exact (((b0.setCell (Nat.le_refl _) _).setCell (Nat.le_refl _) _).setCell (Nat.le_refl _) _).setCell (Nat.le_refl _) _
set_option maxHeartbeats 400000 in
theorem Image_no (h : Nobody v w) : Calls Try.prog 29 #[v] w fun e w' => e = .returned (.tuple #[.agg #[.int .i64 0, .int .i64 0, .int .i64 0, .int .i64 0, .slice none 0 0], .int .i64 1]) ∧ Below w.heap.size w w' := by
  obtain ⟨w0, hw0⟩ : ∃ w0, w0 = w.alloc (.cells #[.int .i64 0, .int .i64 0, .int .i64 0, .int .i64 0, .slice none 0 0] 26) := ⟨_, rfl⟩
  have b0 : Below w.heap.size w w0 := by rw [hw0]; exact below_alloc _ _
  have HC := h w0 b0
  obtain ⟨m0, m1, m2, m3, m4⟩ := img_held hw0 (Below.refl _ _)
  have f := blk_free hw0 (Below.refl _ _)
  clear h
  go_enter Try.func29, Try.ntmps29
  go_wp2_with fail
  rw [← hw0]
  clear hw0
  refine HC.mono ?_
  rintro e w' ⟨rfl, hw'⟩
  obtain rfl := hw'.symm
  go_wp2_with fail
  refine bodyPost_ret (v := .tuple #[.agg #[.int .i64 0, .int .i64 0, .int .i64 0, .int .i64 0, .slice none 0 0], .int .i64 1]) (by simp [results, Try.results29, go_sem, m0, m1, m2, m3, m4]) rfl ⟨rfl, ?_⟩
  exact ((((b0.setCell (Nat.le_refl _) _).setCell (Nat.le_refl _) _).setCell (Nat.le_refl _) _).setCell (Nat.le_refl _) _).setCell (Nat.le_refl _) _
end
end Go.Proofs.Ytdicogmjjboilaa
