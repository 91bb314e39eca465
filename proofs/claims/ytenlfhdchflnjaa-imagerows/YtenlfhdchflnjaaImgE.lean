/- An image copied. -/
import Derived.Test.YtenlfhdchflnjaaImgD
namespace Go.Proofs.Ytenlfhdchflnjaa
open Go.RowKit

def upto (i : Nat) (F : Nat → List UInt8) (j : Nat) : List UInt8 := if j < i then F j else []
theorem upto_zero (F : Nat → List UInt8) : upto 0 F = fun _ => [] := by funext j; exact if_neg (Nat.not_lt_zero j)
theorem upto_all {n : Nat} (F : Nat → List UInt8) (j : Nat) (h : j < n) : upto n F j = F j := if_pos h
theorem upto_succ (i : Nat) (F : Nat → List UInt8) (j : Nat) : upd i (F i) (upto i F) j = upto (i + 1) F j := by
  unfold upd upto
  by_cases e : j = i
  · subst e; rw [if_pos rfl, if_pos (by omega)]
  · rw [if_neg e]
    by_cases h : j < i
    · rw [if_pos h, if_pos (by omega)]
    · rw [if_neg h, if_neg (by omega)]
theorem rsl_blank {Y : Nat → Prop} {w : World} {l n : Nat} {t : TypeId} (h : w.rowIs l t n (fun _ => .slice none 0 0)) (hY : Y l) (F : Nat → List UInt8) : RSl w Y l n (fun _ => none) (fun _ => 0) (upto 0 F) := by
  rw [upto_zero]
  exact ⟨fun i hi => h.cell hi, fun i _ => h.frozen i, fun i _ => rdb_nil _ _, (fun i a _ e => by cases e), fun _ _ _ => ⟨rfl, rfl⟩, hY⟩
theorem only5 (v : World) (g : Nat) (a b c d e : Value) : Only (fun x => x = g) v (((((v.setCell ⟨g, 0, none⟩ a).setCell ⟨g, 1, none⟩ b).setCell ⟨g, 2, none⟩ c).setCell ⟨g, 3, none⟩ d).setCell ⟨g, 4, none⟩ e) := by
  have h : ∀ {u : World} (i : Nat) (x : Value), Only (fun x => x = g) v u → Only (fun x => x = g) v (u.setCell ⟨g, i, none⟩ x) := fun i x h => h.setCell (p := ⟨g, i, none⟩) rfl x
  exact h 4 e (h 3 d (h 2 c (h 1 b (h 0 a (Only.refl _ _)))))
theorem RSl.narrow {Y Z : Nat → Prop} {w : World} {l n : Nat} {A : Nat → Option Addr} {C : Nat → Nat} {F : Nat → List UInt8} (h : RSl w Y l n A C F) (hl : Z l) (ha : ∀ i a, i < n → A i = some a → Z a.block) : RSl w Z l n A C F :=
  ⟨h.cell, h.free, h.rd, fun i a hi e => ⟨ha i a hi e, (h.at_ i a hi e).2⟩, h.nil, hl⟩
theorem rsl_only {X Y Z : Nat → Prop} {w w' : World} {l n : Nat} {A : Nat → Option Addr} {C : Nat → Nat} {F : Nat → List UInt8} (h : RSl w Z l n A C F) (ho : Only X w w') (hx : ∀ b, Z b → ¬ X b) (hy : ∀ b, Z b → Y b) : RSl w' Y l n A C F := (h.only ho hx).mono hy
set_option maxHeartbeats 1000000 in
set_option maxRecDepth 100000 in
theorem copiedImage_any (k r c q : Int) (w : World) (lo : Option Addr) (n cl : Nat) (A : Nat → Option Addr) (C : Nat → Nat) (F : Nat → List UInt8) (hn : n ≤ 1000000) (hl : Lst w lo n A C F) (hf : ∀ i, i < n → (F i).length ≤ 1000000) :
    Calls Try.prog 45 #[.agg #[.int .i64 k, .int .i64 r, .int .i64 c, .int .i64 q, .slice lo n cl]] w fun e w' => ∃ l A' C', e = .returned (.agg #[.int .i64 k, .int .i64 r, .int .i64 c, .int .i64 q, .slice (some ⟨l, 0, none⟩) n n]) ∧ RSl w' (fun b => w.heap.size ≤ b) l n A' C' F ∧ (∀ i, i < n → OwC w.heap.size w' (A' i) (C' i) (F i)) ∧ Below w.heap.size w w' := by
  have HL : Hid (Lst w lo n A C F) := hl
  have HF : Hid (∀ i, i < n → (F i).length ≤ 1000000) := hf
  have hmk := fun w => run_make_row' (P := Try.prog) 25 33 (.slice none 0 0) 24 Try.underlying25 info33 rfl .i64 .i64 n (by omega) (by omega) w
  obtain ⟨Z, hZ⟩ : ∃ Z, Z = madeCells #[.slice none 0 0] n := ⟨_, rfl⟩
  rw [← hZ] at hmk
  have HZ : Hid (Z = madeCells #[.slice none 0 0] n) := hZ
  obtain ⟨w0, hw0⟩ : ∃ w0, w0 = w.alloc (.cells #[.int .i64 k, .int .i64 r, .int .i64 c, .int .i64 q, .slice lo n cl] 27) := ⟨_, rfl⟩
  obtain ⟨w1, hw1⟩ : ∃ w1, w1 = w0.alloc (.cells #[.int .i64 0, .int .i64 0, .int .i64 0, .int .i64 0, .slice none 0 0] 27) := ⟨_, rfl⟩
  have b0 : Below w.heap.size w w0 := by rw [hw0]; exact below_alloc _ _
  have b1 : Below w0.heap.size w0 w1 := by rw [hw1]; exact below_alloc _ _
  have z0 : w0.heap.size = w.heap.size + 1 := by rw [hw0]; simp
  have z1 : w.heap.size + 2 ≤ w1.heap.size := by rw [hw1]; simp; omega
  have SH : Hid (∀ v, Below w1.heap.size w1 v → v.cell? ⟨w.heap.size, 0, none⟩ = some (.int .i64 k) ∧ v.cell? ⟨w.heap.size, 1, none⟩ = some (.int .i64 r) ∧ v.cell? ⟨w.heap.size, 2, none⟩ = some (.int .i64 c) ∧ v.cell? ⟨w.heap.size, 3, none⟩ = some (.int .i64 q) ∧ v.cell? ⟨w.heap.size, 4, none⟩ = some (.slice lo n cl)) := fun v hv => img_held hw0 (below_then b1 hv)
  have MH : Hid (∀ v, Below w1.heap.size w1 v → (v.cell? ⟨w.heap.size + 1, 0, none⟩ = some (.int .i64 0) ∧ v.cell? ⟨w.heap.size + 1, 1, none⟩ = some (.int .i64 0) ∧ v.cell? ⟨w.heap.size + 1, 2, none⟩ = some (.int .i64 0) ∧ v.cell? ⟨w.heap.size + 1, 3, none⟩ = some (.int .i64 0) ∧ v.cell? ⟨w.heap.size + 1, 4, none⟩ = some (.slice none 0 0)) ∧ ∀ i, v.frozen? ⟨w.heap.size + 1, i, none⟩ = false) := fun v hv => by rw [← z0]; exact ⟨img_held hw1 hv, blk_free hw1 hv⟩
  have HB1 : Hid (Below w.heap.size w w1) := below_then b0 b1
  obtain ⟨s0, s1, s2, s3, s4⟩ := SH.out w1 (Below.refl _ _)
  have x0 := fun o => SH.out (w1.alloc o) (below_alloc _ _)
  have x1 := fun o o' => SH.out ((w1.alloc o).alloc o') (below_then (below_alloc _ _) (below_alloc _ _))
  have y0 := fun o => (x0 o).1
  have y1 := fun o => (x0 o).2.1
  have y2 := fun o => (x0 o).2.2.1
  have y3 := fun o => (x0 o).2.2.2.1
  have y4 := fun o => (x0 o).2.2.2.2
  have u0 := fun o o' => (x1 o o').1
  have u1 := fun o o' => (x1 o o').2.1
  have u2 := fun o o' => (x1 o o').2.2.1
  have u3 := fun o o' => (x1 o o').2.2.2.1
  have u4 := fun o o' => (x1 o o').2.2.2.2
  clear x0 x1 hl hf z0 hZ
  go_enter Try.func45, Try.ntmps45
  go_wp2_with fail
  rw [← hw0, ← hw1]
  clear hw0 hw1 b0 b1
  go_region_held3 (fun v => v.cell? ⟨w.heap.size, 0, none⟩ = some (.int .i64 k) ∧ v.cell? ⟨w.heap.size, 1, none⟩ = some (.int .i64 r) ∧ v.cell? ⟨w.heap.size, 2, none⟩ = some (.int .i64 c) ∧ v.cell? ⟨w.heap.size, 3, none⟩ = some (.int .i64 q) ∧ v.cell? ⟨w.heap.size, 4, none⟩ = some (.slice lo n cl)) (go_keep) (fail)
  · obtain ⟨wz, hwz⟩ : ∃ wz, wz = ((w1.alloc (.cells Z 33)).alloc (.cells #[.int .i64 k, .int .i64 r, .int .i64 c, .int .i64 q, .slice (some ⟨w1.heap.size, 0, none⟩) n n] 27)).drew := ⟨_, rfl⟩
    rw [← hwz]
    have HB : Hid (Below w1.heap.size w1 wz) := by rw [hwz]; exact (below_then (below_alloc _ _) (below_alloc _ _)).drew
    have zz : w1.heap.size + 2 ≤ wz.heap.size := by rw [hwz]; show _ ≤ (((w1.alloc (.cells Z 33)).alloc (.cells #[.int .i64 k, .int .i64 r, .int .i64 c, .int .i64 q, .slice (some ⟨w1.heap.size, 0, none⟩) n n] 27))).heap.size; simp
    have HS : Hid (RSl wz (fun b => w.heap.size ≤ b) (w1.heap.size) n (fun _ => none) (fun _ => 0) (upto 0 F)) := by
      refine rsl_blank (t := 33) ?_ (by show _ ≤ _; omega) F
      rw [hwz, HZ.out]
      exact (World.rowIs_made w1 (.slice none 0 0) n 33).of_block (heap_alloc_old _ _ (by simp))
    have HV : Hid (Blk wz (w1.heap.size + 1) 27 [.int .i64 k, .int .i64 r, .int .i64 c, .int .i64 q, .slice (some ⟨w1.heap.size, 0, none⟩) n n]) := by
      rw [hwz]
      exact heap_alloc2_new _ _ _
    clear hwz y0 y1 y2 y3 y4 u0 u1 u2 u3 u4 hmk s0 s1 s2 s3
    have SM : Hid (∀ v, Only (fun b => b = w1.heap.size) wz v → (v.cell? ⟨w.heap.size + 1, 0, none⟩ = some (.int .i64 0) ∧ v.cell? ⟨w.heap.size + 1, 1, none⟩ = some (.int .i64 0) ∧ v.cell? ⟨w.heap.size + 1, 2, none⟩ = some (.int .i64 0) ∧ v.cell? ⟨w.heap.size + 1, 3, none⟩ = some (.int .i64 0) ∧ v.cell? ⟨w.heap.size + 1, 4, none⟩ = some (.slice none 0 0)) ∧ ∀ i, v.frozen? ⟨w.heap.size + 1, i, none⟩ = false) := fun v hv => by
      obtain ⟨⟨a0, a1, a2, a3, a4⟩, a5⟩ := MH.out wz HB.out
      have hne : ¬ (w.heap.size + 1 = w1.heap.size) := by omega
      exact ⟨⟨hv.cell a0 hne, hv.cell a1 hne, hv.cell a2 hne, hv.cell a3 hne, hv.cell a4 hne⟩, fun i => (World.frozen?_of_block (a := ⟨w.heap.size + 1, i, none⟩) (hv.block (w.heap.size + 1) (by omega) hne)).trans (a5 i)⟩
    have S4 : Hid (∀ v, Only (fun b => b = w1.heap.size) wz v → v.cell? ⟨w.heap.size, 4, none⟩ = some (.slice lo n cl)) := fun v hv => hv.cell (SH.out wz HB.out).2.2.2.2 (by show ¬ (w.heap.size = w1.heap.size); omega)
    have SV : Hid (∀ v, Only (fun b => b = w1.heap.size) wz v → Blk v (w1.heap.size + 1) 27 [.int .i64 k, .int .i64 r, .int .i64 c, .int .i64 q, .slice (some ⟨w1.heap.size, 0, none⟩) n n]) := fun v hv => HV.out.only hv (by omega)
    have HWZ : Hid (Below w.heap.size w wz) := below_then HB1.out HB.out
    have s4 := S4.out wz (Only.refl _ _)
    go_wp2_with fail
    go_loopw [4, 5, 16] (fun _ _ x wr => ∃ i : Nat, i ≤ n ∧ x = .int .i64 i ∧ Hid (∃ A' C', RSl wr (fun b => w.heap.size ≤ b) (w1.heap.size) n A' C' (upto i F) ∧ (∀ j, j < i → OwC wz.heap.size wr (A' j) (C' j) (F j))) ∧ Hid (Only (fun b => b = w1.heap.size) wz wr)) (fun _ _ x _ => n - (intOf x).toNat)
    case atStart => exact ⟨0, Nat.zero_le _, rfl, ⟨_, _, HS.out, fun j hj => absurd hj (Nat.not_lt_zero _)⟩, Only.refl _ _⟩
    case round =>
      obtain ⟨i, hi, rfl, hs, hb⟩ := hrel
      have hbw : Below w.heap.size w wr := HWZ.out.trans (hb.out.below (fun i h => by omega) (by omega))
      have v4 : wr.cell? ⟨w1.heap.size + 1, 4, none⟩ = some (.slice (some ⟨w1.heap.size, 0, none⟩) n n) := (SV.out wr hb.out).cell rfl
      by_cases hlt : i < n
      · obtain ⟨b, off, rfl, hc⟩ := (HL.out.below hbw).at_ (by omega)
        have ck := hc i hlt
        have HC : Hid (Calls Try.prog 46 #[.slice (A i) (F i).length (C i)] wr.drew fun e w' => ∃ ao' cap', e = .returned (.slice ao' (F i).length cap') ∧ OwC wr.drew.heap.size w' ao' cap' (F i) ∧ Below wr.drew.heap.size wr.drew w') := copied_any wr.drew (A i) (F i).length (C i) (F i) ((HL.out.rd i hlt).below (below_then hbw (below_drew _ _))) rfl (HF.out i hlt)
        have i1 : (0 : Int) ≤ (i : Int) := by omega
        have i2 : (i : Int) < (n : Int) := by omega
        have hzs := hb.out.size
        clear hc hbw
        go_wp2_with fail
        go_region_held3 (fun v => v.cell? ⟨w1.heap.size + 1, 4, none⟩ = some (.slice (some ⟨w1.heap.size, 0, none⟩) n n)) (go_keep)
          ((go_at_call 46; refine HC.out.mono ?_; rintro e wa ⟨ao, cap, rfl, ho, ha⟩; have HA : Hid (Below wr.heap.size wr wa) := of_drew ha; obtain ⟨A', C', hs1, hs2⟩ := hs.out; have HX : Hid (RSl wa (fun b => w.heap.size ≤ b) (w1.heap.size) n A' C' (upto i F)) := hs1.only (X := fun _ => False) (.of_below (of_drew ha)) (fun _ _ h => h); have HO : Hid (OwC wz.heap.size wa ao cap (F i)) := ho.mono hzs; have HS2 : Hid (∀ j, j < i → OwC wz.heap.size wa (A' j) (C' j) (F j)) := fun j hj => (hs2 j hj).below (of_drew ha); have q4 := held v4 (of_drew ha); have cc := HX.out.cell i hlt; have cf := HX.out.free i hlt; have q5 : ∀ u, (wa.setCell ⟨w1.heap.size, i, none⟩ u).cell? ⟨w1.heap.size + 1, 4, none⟩ = some (.slice (some ⟨w1.heap.size, 0, none⟩) n n) := fun u => set_cell q4 (by show w1.heap.size + 1 ≠ w1.heap.size; omega) u; clear hs1 hs2 ho ha))
        all_goals
          go_wp2_with fail
          go_roundw
          case rel =>
            refine ⟨i + 1, by omega, by go_num, ⟨upd i ao A', upd i cap C', ?_, fun j hj => ?_⟩, ?_⟩
            · refine (HX.out.put i ao cap (F i) HO.out.rd (fun a ha => ?_) HO.out.nil).congr fun j _ => upto_succ i F j
              have := (HO.out.at_ ha).1
              exact ⟨by omega, by omega⟩
            · have hoth : ∀ x c y, OwC wz.heap.size wa x c y → OwC wz.heap.size (wa.setCell ⟨w1.heap.size, i, none⟩ (.slice ao (F i).length cap)) x c y := fun x c y h => h.stay fun g hg _ => Below.heap_setCell _ _ _ _ (by show g ≠ w1.heap.size; omega)
              by_cases e : j = i
              · subst e; rw [upd_at, upd_at]; exact hoth _ _ _ HO.out
              · rw [upd_ne _ _ e, upd_ne _ _ e]; exact hoth _ _ _ (HS2.out j (by omega))
            · exact (hb.out.then HA.out).setCell (p := ⟨w1.heap.size, i, none⟩) rfl _
          case measure => simp [intOf]; omega
      · obtain rfl : i = n := by omega
        obtain ⟨⟨m0, m1, m2, m3, m4⟩, m5⟩ := SM.out wr hb.out
        have hv := SV.out wr hb.out
        have v0 : wr.cell? ⟨w1.heap.size + 1, 0, none⟩ = some (.int .i64 k) := hv.cell rfl
        have v1 : wr.cell? ⟨w1.heap.size + 1, 1, none⟩ = some (.int .i64 r) := hv.cell rfl
        have v2 : wr.cell? ⟨w1.heap.size + 1, 2, none⟩ = some (.int .i64 c) := hv.cell rfl
        have v3 : wr.cell? ⟨w1.heap.size + 1, 3, none⟩ = some (.int .i64 q) := hv.cell rfl
        have HBW : Hid (Below w.heap.size w wr) := hbw
        have hzs := hb.out.size
        clear hbw hv
        go_wp2_with fail
        refine bodyPost_ret (v := .agg #[.int .i64 k, .int .i64 r, .int .i64 c, .int .i64 q, .slice (some ⟨w1.heap.size, 0, none⟩) i i]) (by simp [results, Try.results45, go_sem, m0, m1, m2, m3, m4]) rfl ?_
        obtain ⟨A', C', hs1, hs2⟩ := hs.out
        have hO := only5 wr (w.heap.size + 1) (.int .i64 k) (.int .i64 r) (.int .i64 c) (.int .i64 q) (.slice (some ⟨w1.heap.size, 0, none⟩) i i)
        refine ⟨w1.heap.size, A', C', rfl, ?_, fun j hj => ?_, ?_⟩
        · have h1 := (hs1.congr (G := F) fun j hj => upto_all F j hj)
          exact rsl_only (Z := fun b => w.heap.size + 2 ≤ b) (h1.narrow (by omega) (fun j a hj ha => by have := ((hs2 j hj).at_ ha).1; omega)) hO (fun b h => by omega) (fun b h => by omega)
        · exact ((hs2 j hj).stay fun g hg hl => hO.block g hl (by omega)).mono (by omega)
        · exact HBW.out.trans (hO.below (fun b h => by omega) (by omega))
  · obtain ⟨wz, hwz⟩ : ∃ wz, wz = ((w1.alloc (.cells #[.int .i64 k, .int .i64 r, .int .i64 c, .int .i64 q, .slice (some ⟨w1.heap.size + 1, 0, none⟩) n n] 27)).alloc (.cells Z 33)).drew := ⟨_, rfl⟩
    rw [← hwz]
    have HB : Hid (Below w1.heap.size w1 wz) := by rw [hwz]; exact (below_then (below_alloc _ _) (below_alloc _ _)).drew
    have zz : w1.heap.size + 2 ≤ wz.heap.size := by rw [hwz]; show _ ≤ (((w1.alloc (.cells #[.int .i64 k, .int .i64 r, .int .i64 c, .int .i64 q, .slice (some ⟨w1.heap.size + 1, 0, none⟩) n n] 27)).alloc (.cells Z 33))).heap.size; simp
    have HS : Hid (RSl wz (fun b => w.heap.size ≤ b) (w1.heap.size + 1) n (fun _ => none) (fun _ => 0) (upto 0 F)) := by
      refine rsl_blank (t := 33) ?_ (by show _ ≤ _; omega) F
      rw [hwz, HZ.out]
      have h := World.rowIs_made (w1.alloc (.cells #[.int .i64 k, .int .i64 r, .int .i64 c, .int .i64 q, .slice (some ⟨w1.heap.size + 1, 0, none⟩) n n] 27)) (.slice none 0 0) n 33; rw [show (w1.alloc (.cells #[.int .i64 k, .int .i64 r, .int .i64 c, .int .i64 q, .slice (some ⟨w1.heap.size + 1, 0, none⟩) n n] 27)).heap.size = w1.heap.size + 1 by simp] at h; exact h
    have HV : Hid (Blk wz (w1.heap.size) 27 [.int .i64 k, .int .i64 r, .int .i64 c, .int .i64 q, .slice (some ⟨w1.heap.size + 1, 0, none⟩) n n]) := by
      rw [hwz]
      exact heap_alloc2_old _ _ _
    clear hwz y0 y1 y2 y3 y4 u0 u1 u2 u3 u4 hmk s0 s1 s2 s3
    have SM : Hid (∀ v, Only (fun b => b = w1.heap.size + 1) wz v → (v.cell? ⟨w.heap.size + 1, 0, none⟩ = some (.int .i64 0) ∧ v.cell? ⟨w.heap.size + 1, 1, none⟩ = some (.int .i64 0) ∧ v.cell? ⟨w.heap.size + 1, 2, none⟩ = some (.int .i64 0) ∧ v.cell? ⟨w.heap.size + 1, 3, none⟩ = some (.int .i64 0) ∧ v.cell? ⟨w.heap.size + 1, 4, none⟩ = some (.slice none 0 0)) ∧ ∀ i, v.frozen? ⟨w.heap.size + 1, i, none⟩ = false) := fun v hv => by
      obtain ⟨⟨a0, a1, a2, a3, a4⟩, a5⟩ := MH.out wz HB.out
      have hne : ¬ (w.heap.size + 1 = w1.heap.size + 1) := by omega
      exact ⟨⟨hv.cell a0 hne, hv.cell a1 hne, hv.cell a2 hne, hv.cell a3 hne, hv.cell a4 hne⟩, fun i => (World.frozen?_of_block (a := ⟨w.heap.size + 1, i, none⟩) (hv.block (w.heap.size + 1) (by omega) hne)).trans (a5 i)⟩
    have S4 : Hid (∀ v, Only (fun b => b = w1.heap.size + 1) wz v → v.cell? ⟨w.heap.size, 4, none⟩ = some (.slice lo n cl)) := fun v hv => hv.cell (SH.out wz HB.out).2.2.2.2 (by show ¬ (w.heap.size = w1.heap.size + 1); omega)
    have SV : Hid (∀ v, Only (fun b => b = w1.heap.size + 1) wz v → Blk v (w1.heap.size) 27 [.int .i64 k, .int .i64 r, .int .i64 c, .int .i64 q, .slice (some ⟨w1.heap.size + 1, 0, none⟩) n n]) := fun v hv => HV.out.only hv (by omega)
    have HWZ : Hid (Below w.heap.size w wz) := below_then HB1.out HB.out
    have s4 := S4.out wz (Only.refl _ _)
    go_wp2_with fail
    go_loopw [4, 5, 16] (fun _ _ x wr => ∃ i : Nat, i ≤ n ∧ x = .int .i64 i ∧ Hid (∃ A' C', RSl wr (fun b => w.heap.size ≤ b) (w1.heap.size + 1) n A' C' (upto i F) ∧ (∀ j, j < i → OwC wz.heap.size wr (A' j) (C' j) (F j))) ∧ Hid (Only (fun b => b = w1.heap.size + 1) wz wr)) (fun _ _ x _ => n - (intOf x).toNat)
    case atStart => exact ⟨0, Nat.zero_le _, rfl, ⟨_, _, HS.out, fun j hj => absurd hj (Nat.not_lt_zero _)⟩, Only.refl _ _⟩
    case round =>
      obtain ⟨i, hi, rfl, hs, hb⟩ := hrel
      have hbw : Below w.heap.size w wr := HWZ.out.trans (hb.out.below (fun i h => by omega) (by omega))
      have v4 : wr.cell? ⟨w1.heap.size, 4, none⟩ = some (.slice (some ⟨w1.heap.size + 1, 0, none⟩) n n) := (SV.out wr hb.out).cell rfl
      by_cases hlt : i < n
      · obtain ⟨b, off, rfl, hc⟩ := (HL.out.below hbw).at_ (by omega)
        have ck := hc i hlt
        have HC : Hid (Calls Try.prog 46 #[.slice (A i) (F i).length (C i)] wr.drew fun e w' => ∃ ao' cap', e = .returned (.slice ao' (F i).length cap') ∧ OwC wr.drew.heap.size w' ao' cap' (F i) ∧ Below wr.drew.heap.size wr.drew w') := copied_any wr.drew (A i) (F i).length (C i) (F i) ((HL.out.rd i hlt).below (below_then hbw (below_drew _ _))) rfl (HF.out i hlt)
        have i1 : (0 : Int) ≤ (i : Int) := by omega
        have i2 : (i : Int) < (n : Int) := by omega
        have hzs := hb.out.size
        clear hc hbw
        go_wp2_with fail
        go_region_held3 (fun v => v.cell? ⟨w1.heap.size, 4, none⟩ = some (.slice (some ⟨w1.heap.size + 1, 0, none⟩) n n)) (go_keep)
          ((go_at_call 46; refine HC.out.mono ?_; rintro e wa ⟨ao, cap, rfl, ho, ha⟩; have HA : Hid (Below wr.heap.size wr wa) := of_drew ha; obtain ⟨A', C', hs1, hs2⟩ := hs.out; have HX : Hid (RSl wa (fun b => w.heap.size ≤ b) (w1.heap.size + 1) n A' C' (upto i F)) := hs1.only (X := fun _ => False) (.of_below (of_drew ha)) (fun _ _ h => h); have HO : Hid (OwC wz.heap.size wa ao cap (F i)) := ho.mono hzs; have HS2 : Hid (∀ j, j < i → OwC wz.heap.size wa (A' j) (C' j) (F j)) := fun j hj => (hs2 j hj).below (of_drew ha); have q4 := held v4 (of_drew ha); have cc := HX.out.cell i hlt; have cf := HX.out.free i hlt; have q5 : ∀ u, (wa.setCell ⟨w1.heap.size + 1, i, none⟩ u).cell? ⟨w1.heap.size, 4, none⟩ = some (.slice (some ⟨w1.heap.size + 1, 0, none⟩) n n) := fun u => set_cell q4 (by show w1.heap.size ≠ w1.heap.size + 1; omega) u; clear hs1 hs2 ho ha))
        all_goals
          go_wp2_with fail
          go_roundw
          case rel =>
            refine ⟨i + 1, by omega, by go_num, ⟨upd i ao A', upd i cap C', ?_, fun j hj => ?_⟩, ?_⟩
            · refine (HX.out.put i ao cap (F i) HO.out.rd (fun a ha => ?_) HO.out.nil).congr fun j _ => upto_succ i F j
              have := (HO.out.at_ ha).1
              exact ⟨by omega, by omega⟩
            · have hoth : ∀ x c y, OwC wz.heap.size wa x c y → OwC wz.heap.size (wa.setCell ⟨w1.heap.size + 1, i, none⟩ (.slice ao (F i).length cap)) x c y := fun x c y h => h.stay fun g hg _ => Below.heap_setCell _ _ _ _ (by show g ≠ w1.heap.size + 1; omega)
              by_cases e : j = i
              · subst e; rw [upd_at, upd_at]; exact hoth _ _ _ HO.out
              · rw [upd_ne _ _ e, upd_ne _ _ e]; exact hoth _ _ _ (HS2.out j (by omega))
            · exact (hb.out.then HA.out).setCell (p := ⟨w1.heap.size + 1, i, none⟩) rfl _
          case measure => simp [intOf]; omega
      · obtain rfl : i = n := by omega
        obtain ⟨⟨m0, m1, m2, m3, m4⟩, m5⟩ := SM.out wr hb.out
        have hv := SV.out wr hb.out
        have v0 : wr.cell? ⟨w1.heap.size, 0, none⟩ = some (.int .i64 k) := hv.cell rfl
        have v1 : wr.cell? ⟨w1.heap.size, 1, none⟩ = some (.int .i64 r) := hv.cell rfl
        have v2 : wr.cell? ⟨w1.heap.size, 2, none⟩ = some (.int .i64 c) := hv.cell rfl
        have v3 : wr.cell? ⟨w1.heap.size, 3, none⟩ = some (.int .i64 q) := hv.cell rfl
        have HBW : Hid (Below w.heap.size w wr) := hbw
        have hzs := hb.out.size
        clear hbw hv
        go_wp2_with fail
        refine bodyPost_ret (v := .agg #[.int .i64 k, .int .i64 r, .int .i64 c, .int .i64 q, .slice (some ⟨w1.heap.size + 1, 0, none⟩) i i]) (by simp [results, Try.results45, go_sem, m0, m1, m2, m3, m4]) rfl ?_
        obtain ⟨A', C', hs1, hs2⟩ := hs.out
        have hO := only5 wr (w.heap.size + 1) (.int .i64 k) (.int .i64 r) (.int .i64 c) (.int .i64 q) (.slice (some ⟨w1.heap.size + 1, 0, none⟩) i i)
        refine ⟨w1.heap.size + 1, A', C', rfl, ?_, fun j hj => ?_, ?_⟩
        · have h1 := (hs1.congr (G := F) fun j hj => upto_all F j hj)
          exact rsl_only (Z := fun b => w.heap.size + 2 ≤ b) (h1.narrow (by omega) (fun j a hj ha => by have := ((hs2 j hj).at_ ha).1; omega)) hO (fun b h => by omega) (fun b h => by omega)
        · exact ((hs2 j hj).stay fun g hg hl => hO.block g hl (by omega)).mono (by omega)
        · exact HBW.out.trans (hO.below (fun b h => by omega) (by omega))
end Go.Proofs.Ytenlfhdchflnjaa
