/- One slot written, one read; the whole image. -/
import Derived.Test.YtdicogmjjboilaaDskC
namespace Go.Proofs.Ytdicogmjjboilaa
open Go.RowKit

theorem set_cell {w : World} {l p : Nat} {a : Addr} {v : Value} (h : w.cell? a = some v) (hn : a.block ≠ l) (u : Value) : (w.setCell ⟨l, p, none⟩ u).cell? a = some v :=
  (World.cell?_of_block (Below.heap_setCell _ _ _ _ hn)).trans h
set_option maxHeartbeats 1000000 in
set_option maxRecDepth 100000 in
theorem put_any {N Q : Nat} (hN : N ≤ 16) (hQ : Q ≤ 256) (d o s : Int) (hh : hasB N Q d o s = true) (ao : Option Addr) (m cp : Nat) (b : List UInt8) (hm : m = b.length) (hbl : b.length ≤ 1000000) (w : World) (Y : Nat → Prop) (g l cl : Nat) (A : Nat → Option Addr) (C : Nat → Nat) (F : Nat → List UInt8)
    (hs : Slots w Y l (N * Q * 2) A C F) (hgl : g ≠ l) (hr : RdB w ao b) (hnil : ao = none → b = [] ∧ cp = 0) (c3 : w.cell? ⟨g, 3, none⟩ = some (.int .i64 (Q : Int))) (c4 : w.cell? ⟨g, 4, none⟩ = some (.slice (some ⟨l, 0, none⟩) (N * Q * 2 : Nat) cl)) :
    Calls Try.prog 63 #[.pointer (some ⟨g, 0, none⟩), .agg #[.int .i64 d, .int .i64 o, .int .i64 s, .slice ao m cp]] w fun e w' => e = .returned (.tuple #[]) ∧ (∃ A' C', Slots w' (fun x => Y x ∨ (w.heap.size ≤ x ∧ x < w'.heap.size)) l (N * Q * 2) A' C' (upd (plc Q d o s) b F)) ∧ Only (fun x => x = l) w w' := by
  obtain ⟨⟨h1, h2⟩, ⟨h3, h4⟩, h5, h6⟩ := has_true hh
  have hlt := plc_lt hh
  have HA := fun w c3 => at_any Q hQ d o s h1 (by omega) h3 (by omega) h5 (by omega) w g c3
  have HS : Hid (Slots w Y l (N * Q * 2) A C F) := hs
  have HR : Hid (RdB w ao b) := hr
  have HN : Hid (ao = none → b = [] ∧ cp = 0) := hnil
  obtain ⟨n, hn⟩ : ∃ n, n = N * Q * 2 := ⟨_, rfl⟩
  obtain ⟨p, hp⟩ : ∃ p, p = plc Q d o s := ⟨_, rfl⟩
  rw [← hn] at c4 HS hlt ⊢
  rw [← hp] at HA hlt ⊢
  have HM : Hid (m = b.length) := hm
  have hl0 : l < w.heap.size := hs.row.lt
  have hg0 : g < w.heap.size := World.block_lt_of_cell? w _ c3
  clear hs hr hnil hn hp hm h1 h2 h3 h4 h5 h6 hh
  obtain ⟨w0, hw0⟩ : ∃ w0, w0 = w.alloc (.cells #[.int .i64 d, .int .i64 o, .int .i64 s, .slice ao m cp] 45) := ⟨_, rfl⟩
  have b0 : Below w.heap.size w w0 := by rw [hw0]; exact below_alloc _ _
  have z0 : w0.heap.size = w.heap.size + 1 := by rw [hw0]; simp
  obtain ⟨s0, s1, s2, s3⟩ := x_held hw0 (Below.refl _ _)
  have t3 := held c3 b0
  have t4 := held c4 b0
  have i1 : (0 : Int) ≤ (p : Int) := by omega
  have i2 : (p : Int) < (n : Int) := by omega
  have HC : Hid (Calls Try.prog 61 #[.slice ao m cp] w0.drew fun e w' => ∃ ao' cap', e = .returned (.slice ao' b.length cap') ∧ OwB w0.heap.size w' ao' cap' b ∧ Below w0.heap.size w0 w') := by
    refine (copied_any w0.drew ao m cp b (HR.out.below b0.drew) HM.out HN.out hbl).mono fun e w' h => ?_
    obtain ⟨ao', cap', e1, h1, h2⟩ := h
    exact ⟨ao', cap', e1, h1, of_drew h2⟩
  have SH : Hid (∀ v, Below w0.heap.size w0 v → v.cell? ⟨w.heap.size, 0, none⟩ = some (.int .i64 d) ∧ v.cell? ⟨w.heap.size, 1, none⟩ = some (.int .i64 o) ∧ v.cell? ⟨w.heap.size, 2, none⟩ = some (.int .i64 s) ∧ v.cell? ⟨w.heap.size, 3, none⟩ = some (.slice ao m cp) ∧ v.cell? ⟨g, 3, none⟩ = some (.int .i64 (Q : Int)) ∧ v.cell? ⟨g, 4, none⟩ = some (.slice (some ⟨l, 0, none⟩) n cl)) :=
    fun v hv => ⟨held s0 hv, held s1 hv, held s2 hv, held s3 hv, held t3 hv, held t4 hv⟩
  have SL : Hid (∀ v, Below w0.heap.size w0 v → v.cell? ⟨l, p, none⟩ = some (.slice (A p) (F p).length (C p)) ∧ v.frozen? ⟨l, p, none⟩ = false) := fun v hv => by
    have hv' := below_then b0 hv
    have hr' := HS.out.row.of_block (hv'.block l hl0)
    exact ⟨hr'.cell hlt, hr'.frozen p⟩
  clear c3 c4
  go_enter Try.func63, Try.ntmps63
  go_wp2_with fail
  rw [← hw0]
  clear hw0
  go_region_held3 (fun v => v.cell? ⟨w.heap.size, 0, none⟩ = some (.int .i64 d) ∧ v.cell? ⟨w.heap.size, 1, none⟩ = some (.int .i64 o) ∧ v.cell? ⟨w.heap.size, 2, none⟩ = some (.int .i64 s) ∧ v.cell? ⟨w.heap.size, 3, none⟩ = some (.slice ao m cp) ∧ v.cell? ⟨g, 3, none⟩ = some (.int .i64 (Q : Int)) ∧ v.cell? ⟨g, 4, none⟩ = some (.slice (some ⟨l, 0, none⟩) n cl)) (go_keep)
    (first | (go_at_call 64; refine (HA w0.drew t3).mono ?_; rintro e w' ⟨rfl, hw'⟩; obtain rfl := hw'.symm)
           | (go_at_call 61; refine HC.out.mono ?_; rintro e wa ⟨ao', cap', rfl, ho, ha⟩; obtain ⟨q0, q1, q2, q3, q4, q5⟩ := SH.out _ ha; obtain ⟨q6, q7⟩ := SL.out _ ha; have HO : Hid (OwB w0.heap.size wa ao' cap' b) := ho; have HB : Hid (Below w0.heap.size w0 wa) := ha; clear ho ha; have y0 := fun u => set_cell (l := l) (p := p) q0 (by simp only; omega) u; have y1 := fun u => set_cell (l := l) (p := p) q1 (by simp only; omega) u; have y2 := fun u => set_cell (l := l) (p := p) q2 (by simp only; omega) u; have y3 := fun u => set_cell (l := l) (p := p) q3 (by simp only; omega) u; have y4 := fun u => set_cell (l := l) (p := p) q4 hgl u; have y5 := fun u => set_cell (l := l) (p := p) q5 hgl u))
  all_goals (go_wp2; refine bodyPost_end (results_none rfl _ _ _) rfl ?_)
  all_goals
    refine ⟨rfl, ⟨upd p ao' A, upd p cap' C, ?_⟩, ?_⟩
    · have h1 : Slots wa Y l n A C F := HS.out.only (X := fun _ => False) (.of_below (below_then b0 HB.out)) (fun _ _ h => h)
      have hsz : ∀ u, (wa.setCell ⟨l, p, none⟩ u).heap.size = wa.heap.size := fun u => by simp [World.setCell]
      rw [hsz]
      refine (h1.mono (Z := fun x => Y x ∨ (w.heap.size ≤ x ∧ x < wa.heap.size)) (fun x hx => .inl hx)).put p ao' cap' b HO.out.rd (fun a ha => ?_) HO.out.nil
      have := HO.out.at_ ha
      exact ⟨.inr ⟨by omega, by omega⟩, by omega⟩
    · exact Only.setCell (X := fun x => x = l) (p := ⟨l, p, none⟩) (.of_below (below_then b0 HB.out)) rfl _
set_option maxHeartbeats 1000000 in
set_option maxRecDepth 100000 in
theorem get_any {N Q : Nat} (hN : N ≤ 16) (hQ : Q ≤ 256) (d o s : Int) (hh : hasB N Q d o s = true) (w : World) (Y : Nat → Prop) (g l cl : Nat) (A : Nat → Option Addr) (C : Nat → Nat) (F : Nat → List UInt8)
    (hs : Slots w Y l (N * Q * 2) A C F) (hF : ∀ i, i < N * Q * 2 → (F i).length ≤ 1000000) (c3 : w.cell? ⟨g, 3, none⟩ = some (.int .i64 (Q : Int))) (c4 : w.cell? ⟨g, 4, none⟩ = some (.slice (some ⟨l, 0, none⟩) (N * Q * 2 : Nat) cl)) :
    Calls Try.prog 49 #[.pointer (some ⟨g, 0, none⟩), .int .i64 d, .int .i64 o, .int .i64 s] w fun e w' => ∃ ao' cap', e = .returned (.slice ao' (F (plc Q d o s)).length cap') ∧ OwB w.heap.size w' ao' cap' (F (plc Q d o s)) ∧ Below w.heap.size w w' := by
  obtain ⟨⟨h1, h2⟩, ⟨h3, h4⟩, h5, h6⟩ := has_true hh
  have hlt := plc_lt hh
  have HA := fun w c3 => at_any Q hQ d o s h1 (by omega) h3 (by omega) h5 (by omega) w g c3
  have hfl := hF _ hlt
  obtain ⟨n, hn⟩ : ∃ n, n = N * Q * 2 := ⟨_, rfl⟩
  obtain ⟨p, hp⟩ : ∃ p, p = plc Q d o s := ⟨_, rfl⟩
  rw [← hn] at c4 hs hlt
  rw [← hp] at HA hlt hfl ⊢
  have c5 : w.cell? ⟨l, p, none⟩ = some (.slice (A p) (F p).length (C p)) := hs.row.cell hlt
  have HC : Hid (Calls Try.prog 61 #[.slice (A p) (F p).length (C p)] w.drew fun e w' => ∃ ao' cap', e = .returned (.slice ao' (F p).length cap') ∧ OwB w.heap.size w' ao' cap' (F p) ∧ Below w.heap.size w w') := by
    refine (copied_any w.drew (A p) (F p).length (C p) (F p) ((hs.rd p hlt).below (below_drew _ _)) rfl (hs.nil p hlt) hfl).mono fun e w' h => ?_
    obtain ⟨ao', cap', e1, h1, h2⟩ := h
    exact ⟨ao', cap', e1, h1, of_drew h2⟩
  clear hs hn hp hF h1 h2 h3 h4 h5 h6 hh
  have i1 : (0 : Int) ≤ (p : Int) := by omega
  have i2 : (p : Int) < (n : Int) := by omega
  go_enter Try.func49, Try.ntmps49
  go_wp2_with fail
  go_region_held3 (fun v => v.cell? ⟨g, 3, none⟩ = some (.int .i64 (Q : Int)) ∧ v.cell? ⟨g, 4, none⟩ = some (.slice (some ⟨l, 0, none⟩) n cl) ∧ v.cell? ⟨l, p, none⟩ = some (.slice (A p) (F p).length (C p))) (go_keep)
    (first | (go_at_call 64; refine (HA w.drew c3).mono ?_; rintro e w' ⟨rfl, hw'⟩; obtain rfl := hw'.symm)
           | (go_at_call 61; refine HC.out.mono ?_; rintro e wa ⟨ao', cap', rfl, ho, ha⟩; have q0 := held c3 ha; have q1 := held c4 ha; have q2 := held c5 ha; have HO : Hid (OwB w.heap.size wa ao' cap' (F p)) := ho; have HB : Hid (Below w.heap.size w wa) := ha; clear ho ha))
  all_goals (go_wp2; go_ret; exact ⟨ao', cap', rfl, HO.out, HB.out⟩)
set_option maxHeartbeats 1000000 in
set_option maxRecDepth 100000 in
theorem dimage_any (w : World) (k r c q : Int) (Y : Nat → Prop) (g l n cl : Nat) (A : Nat → Option Addr) (C : Nat → Nat) (F : Nat → List UInt8) (hn : n ≤ 1000000)
    (hs : Slots w Y l n A C F) (hF : ∀ i, i < n → (F i).length ≤ 1000000) (c0 : w.cell? ⟨g, 0, none⟩ = some (.int .i64 k)) (c1 : w.cell? ⟨g, 1, none⟩ = some (.int .i64 r)) (c2 : w.cell? ⟨g, 2, none⟩ = some (.int .i64 c)) (c3 : w.cell? ⟨g, 3, none⟩ = some (.int .i64 q)) (c4 : w.cell? ⟨g, 4, none⟩ = some (.slice (some ⟨l, 0, none⟩) n cl)) :
    Calls Try.prog 55 #[.pointer (some ⟨g, 0, none⟩)] w fun e w' => ∃ m A' C', e = .returned (.agg #[.int .i64 k, .int .i64 r, .int .i64 c, .int .i64 q, .slice (some ⟨m, 0, none⟩) n n]) ∧ Slots w' (fun b => w.heap.size ≤ b ∧ b < w'.heap.size) m n A' C' F ∧ (∀ i, i < n → OwB w.heap.size w' (A' i) (C' i) (F i)) ∧ Below w.heap.size w w' := by
  obtain ⟨w0, hw0⟩ : ∃ w0, w0 = w.alloc (.cells #[.int .i64 0, .int .i64 0, .int .i64 0, .int .i64 0, .slice none 0 0] 26) := ⟨_, rfl⟩
  have b0 : Below w.heap.size w w0 := by rw [hw0]; exact below_alloc _ _
  have z0 : w0.heap.size = w.heap.size + 1 := by rw [hw0]; simp
  have HC := allCopied_any w0.drew (some ⟨l, 0, none⟩) n cl A C F hn (hs.lst.below b0.drew) hF
  have t0 := held c0 b0
  have t1 := held c1 b0
  have t2 := held c2 b0
  have t3 := held c3 b0
  have t4 := held c4 b0
  have SM : Hid (∀ v, Below w0.drew.heap.size w0.drew v → (v.cell? ⟨w.heap.size, 0, none⟩ = some (.int .i64 0) ∧ v.cell? ⟨w.heap.size, 1, none⟩ = some (.int .i64 0) ∧ v.cell? ⟨w.heap.size, 2, none⟩ = some (.int .i64 0) ∧ v.cell? ⟨w.heap.size, 3, none⟩ = some (.int .i64 0) ∧ v.cell? ⟨w.heap.size, 4, none⟩ = some (.slice none 0 0)) ∧ ∀ i, v.frozen? ⟨w.heap.size, i, none⟩ = false) := fun v hv => ⟨mea_held hw0 (of_drew hv), blk_free hw0 (of_drew hv)⟩
  have hg : g < w.heap.size := World.block_lt_of_cell? w _ c0
  have hset : ∀ (v : World) i o u, (v.setCell ⟨w.heap.size, i, none⟩ u).cell? ⟨g, o, none⟩ = v.cell? ⟨g, o, none⟩ := fun v i o u => World.cell?_of_block (Below.heap_setCell _ _ _ _ (by show g ≠ w.heap.size; omega))
  clear hs hF c0 c1 c2 c3 c4
  go_enter Try.func55, Try.ntmps55
  go_wp2_with fail
  rw [← hw0]
  clear hw0
  go_region_held3 (fun v => v.cell? ⟨g, 0, none⟩ = some (.int .i64 k) ∧ v.cell? ⟨g, 1, none⟩ = some (.int .i64 r) ∧ v.cell? ⟨g, 2, none⟩ = some (.int .i64 c) ∧ v.cell? ⟨g, 3, none⟩ = some (.int .i64 q) ∧ v.cell? ⟨g, 4, none⟩ = some (.slice (some ⟨l, 0, none⟩) n cl)) (go_keep)
    ((go_at_call 43; refine HC.mono ?_; rintro e wa ⟨rfl, ho, ha⟩; have q0 := held t0 (of_drew ha); have q1 := held t1 (of_drew ha); have q2 := held t2 (of_drew ha); have q3 := held t3 (of_drew ha); have q4 := held t4 (of_drew ha); have HO : Hid (∃ A' C', Slots wa (fun b => w0.drew.heap.size ≤ b ∧ b < wa.heap.size) w0.drew.heap.size n A' C' F ∧ ∀ i, i < n → OwB w0.drew.heap.size wa (A' i) (C' i) (F i)) := ho; obtain ⟨⟨m0, m1, m2, m3, m4⟩, m5⟩ := SM.out _ ha; have HB : Hid (Below w0.heap.size w0 wa) := of_drew ha; clear ho ha))
  all_goals (go_wp2_with fail)
  all_goals
    refine bodyPost_ret (v := .agg #[.int .i64 k, .int .i64 r, .int .i64 c, .int .i64 q, .slice (some ⟨w.heap.size + 1, 0, none⟩) n n]) (by simp [results, Try.results55, go_sem, m0, m1, m2, m3, m4]) rfl ?_
    obtain ⟨A', C', h1, h2⟩ := HO.out
    have e0 : w0.drew.heap.size = w.heap.size + 1 := z0
    rw [e0] at h1 h2
    refine ⟨w.heap.size + 1, A', C', rfl, ?_⟩
    have HX : Only (fun x => x = w.heap.size) wa (((((wa.setCell ⟨w.heap.size, 0, none⟩ (.int .i64 k)).setCell ⟨w.heap.size, 1, none⟩ (.int .i64 r)).setCell ⟨w.heap.size, 2, none⟩ (.int .i64 c)).setCell ⟨w.heap.size, 3, none⟩ (.int .i64 q)).setCell ⟨w.heap.size, 4, none⟩ (.slice (some ⟨w.heap.size + 1, 0, none⟩) n n)) := by
      refine Only.setCell (p := ⟨w.heap.size, 4, none⟩) (Only.setCell (p := ⟨w.heap.size, 3, none⟩) (Only.setCell (p := ⟨w.heap.size, 2, none⟩) (Only.setCell (p := ⟨w.heap.size, 1, none⟩) (Only.setCell (X := fun x => x = w.heap.size) (p := ⟨w.heap.size, 0, none⟩) (Only.refl _ _) rfl _) rfl _) rfl _) rfl _) rfl _
    have hsz : (((((wa.setCell ⟨w.heap.size, 0, none⟩ (.int .i64 k)).setCell ⟨w.heap.size, 1, none⟩ (.int .i64 r)).setCell ⟨w.heap.size, 2, none⟩ (.int .i64 c)).setCell ⟨w.heap.size, 3, none⟩ (.int .i64 q)).setCell ⟨w.heap.size, 4, none⟩ (.slice (some ⟨w.heap.size + 1, 0, none⟩) n n)).heap.size = wa.heap.size := by simp [World.setCell]
    refine ⟨?_, fun i hi => ?_, ?_⟩
    · rw [hsz]
      exact (h1.only HX (fun b hb e => by have := hb.1; omega)).mono fun b hb => ⟨by omega, hb.2⟩
    · exact ((h2 i hi).stay fun x hx hx2 => HX.block x hx2 (by omega)).mono (by omega)
    · exact (below_then b0 HB.out).trans (HX.below (fun i hi => by omega) (below_then b0 HB.out).size)
end Go.Proofs.Ytdicogmjjboilaa
