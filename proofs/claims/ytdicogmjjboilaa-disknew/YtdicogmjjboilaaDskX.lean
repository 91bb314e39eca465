/- The walk of DiskNew. -/
import Derived.Test.YtdicogmjjboilaaDskW
namespace Go.Proofs.Ytdicogmjjboilaa
open Go.RowKit

set_option maxHeartbeats 4000000 in
set_option maxRecDepth 100000 in
theorem new_walk (k r c q : Int) (W : World) : Calls Try.prog 4 #[.agg #[.int .i64 k, .int .i64 r, .int .i64 c, .int .i64 q]] W fun e w' => e = .returned (.bool true) ∧ Below W.heap.size W w' := by
  obtain ⟨w0, hw0⟩ : ∃ w0, w0 = W.alloc (.cells #[.int .i64 k, .int .i64 r, .int .i64 c, .int .i64 q] 23) := ⟨_, rfl⟩
  have b0 : Below W.heap.size W w0 := by rw [hw0]; exact below_alloc _ _
  have SH : Hid (∀ v, Below w0.heap.size w0 v → v.cell? ⟨W.heap.size, 0, none⟩ = some (.int .i64 k) ∧ v.cell? ⟨W.heap.size, 1, none⟩ = some (.int .i64 r) ∧ v.cell? ⟨W.heap.size, 2, none⟩ = some (.int .i64 c) ∧ v.cell? ⟨W.heap.size, 3, none⟩ = some (.int .i64 q)) := fun v hv => par_held hw0 hv
  go_enter Try.func4, Try.ntmps4
  go_wp2_with fail
  rw [← hw0]
  clear hw0
  refine (awake_any w0).mono ?_
  rintro e wa ⟨rfl, ha⟩
  obtain ⟨q0, q1, q2, q3⟩ := SH.out _ ha
  go_wp2_with fail
  refine (big_any k r c q wa).mono ?_
  rintro e wb ⟨⟨bb, rfl⟩, hb⟩
  have h2 := below_then ha hb
  obtain ⟨p0, p1, p2, p3⟩ := SH.out _ h2
  clear q0 q1 q2 q3
  cases bb
  case true =>
    go_wp2_with fail
    go_ret
    exact ⟨rfl, below_then b0 h2⟩
  cases hm : may k r c q
  · have HC : ∀ w, Calls Try.prog 32 #[.agg #[.int .i64 k, .int .i64 r, .int .i64 c, .int .i64 q]] w fun e w' => e = .returned (.int .i64 2) ∧ Below w.heap.size w w' := fun w => by have h := Check06_any k r c q w; rw [if_neg (by rw [hm]; decide)] at h; exact h
    go_wp2_with fail
    refine (New_bad hm wb).mono ?_
    rintro e wc ⟨rfl, hc⟩
    have h3 := below_then h2 hc
    obtain ⟨r0, r1, r2, r3⟩ := SH.out _ h3
    clear p0 p1 p2 p3
    go_wp2_with fail
    refine (HC _).mono ?_
    rintro e wd ⟨rfl, hd⟩
    have h4 := below_then h3 hd
    obtain ⟨s0, s1, s2, s3⟩ := SH.out _ h4
    clear r0 r1 r2 r3
    go_wp2_with fail
    refine (HC _).mono ?_
    rintro e we ⟨rfl, he⟩
    go_wp2_with fail
    go_ret
    exact ⟨rfl, below_then b0 (below_then h4 he)⟩
  · have HC : ∀ w, Calls Try.prog 32 #[.agg #[.int .i64 k, .int .i64 r, .int .i64 c, .int .i64 q]] w fun e w' => e = .returned (.int .i64 0) ∧ Below w.heap.size w w' := fun w => by have h := Check06_any k r c q w; rw [if_pos hm] at h; exact h
    obtain ⟨N, Q, S, hp⟩ := pm_of hm
    obtain rfl : q = (Q : Int) := hp.2.2.1.symm
    have HP : Hid (Pm k r c Q N Q S) := hp
    clear hp hm
    go_wp2_with fail
    refine (New_ok HP.out wb).mono ?_
    rintro e wc ⟨g, rfl, hdk, hc⟩
    have HD : Hid (Dk wc (fun b => wb.heap.size ≤ b ∧ b < wc.heap.size) g k r c N Q S (newSt fun _ => [])) := hdk
    have h3 := below_then h2 hc
    obtain ⟨r0, r1, r2, r3⟩ := SH.out _ h3
    clear p0 p1 p2 p3 hdk
    go_wp2_with fail
    refine (HC _).mono ?_
    rintro e wd ⟨rfl, hd⟩
    have h4 := below_then h3 hd
    obtain ⟨s0, s1, s2, s3⟩ := SH.out _ h4
    clear r0 r1 r2 r3
    go_wp2_with fail
    refine (Blank_any HP.out wd).mono ?_
    obtain ⟨n, hn⟩ : ∃ n, n = N * Q * 2 := ⟨_, rfl⟩
    have HN : Hid (n = N * Q * 2) := hn
    rw [← hn]
    rintro e we ⟨l, rfl, hl, he⟩
    have HL : Hid (Lst we (some ⟨l, 0, none⟩) n (fun _ => none) (fun _ => 0) (fun _ => [])) := hl
    clear hl hn
    go_wp2_with fail
    have HRO := fun hl => ROf_any HP.out (some ⟨l, 0, none⟩) n (fun _ => none) (fun _ => 0) (fun _ => []) (fit_blank _ _) we hl
    rw [← HN.out] at HRO
    refine (HRO HL.out).mono ?_
    rintro e wf ⟨gr, rfl, hrk, hf⟩
    have HR : Hid (Rk wf (fun b => we.heap.size ≤ b ∧ b < wf.heap.size) gr k r c N Q S (newSt fun _ => [])) := hrk
    have HDF : Hid (Dk wf (fun b => wb.heap.size ≤ b ∧ b < wc.heap.size) g k r c N Q S (newSt fun _ => [])) := HD.out.below (below_then hd (below_then he hf))
    clear hrk HRO
    go_wp2_with fail
    refine (same_any HDF.out HR.out (fun _ _ => rfl)).mono ?_
    rintro e wg ⟨rfl, hg⟩
    go_wp2_with fail
    go_ret
    exact ⟨rfl, below_then b0 (below_then h4 (below_then he (below_then hf hg)))⟩
end Go.Proofs.Ytdicogmjjboilaa
