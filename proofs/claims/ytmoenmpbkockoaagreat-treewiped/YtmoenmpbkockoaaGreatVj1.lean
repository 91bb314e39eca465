import Derived.Laws.AppendOwnNone
import Derived.Laws.OwnMore
import Derived.Laws.BytesArg
import Derived.Laws.CopyOwn
import Derived.Laws.IdiomStrings
import Derived.Laws.Rows
import Derived.Deep.AppendLies
import Derived.Deep.RegionLawGrows
import Derived.Deep.OwnRows
import Derived.Lib.SliceRun
import Derived.BigQuiet
import Derived.StillTailTactics
import Derived.Maps.OwnSet
import Derived.DeepKeys4
import Derived.Laws.Cover3
import Derived.Deep.DeepMust
import Derived.Sort.OwnSortedInts
import Derived.Lib.OwnBridge
import Derived.Lib.RowBridge
import Derived.Test.YtmoenmpbkockoaaGreatWj47
import Derived.Test.YtmoenmpbkockoaaGreatWj48
namespace Go.Proofs.YtmoenmpbkockoaaGreat.Im
open Go.RowKit
def wpF (Q : Nat) (d : Nat) (F : Nat -> List UInt8) (i : Nat) : List UInt8 := if i / (2 * Q) = d then [] else F i
def Wip (k r c q : Int) (n : Nat) (F : Nat -> List UInt8) (d x k' r' c' q' : Int) (n' : Nat) (F' : Nat -> List UInt8) : Prop :=
  ∃ y N Q S, Ck k r c q n F y N Q S /\
    ((y = 0 /\ 0 <= d /\ d < (N : Int) /\ x = 0 /\ k' = k /\ r' = r /\ c' = c /\ q' = q /\ n' = n /\ F' = wpF Q d.toNat F) \/
     ((k' = 0 /\ r' = 0 /\ c' = 0 /\ q' = 0 /\ n' = 0 /\ F' = fun _ => []) /\ ((¬ y = 0 /\ x = y) \/ (y = 0 /\ ¬ (0 <= d /\ d < (N : Int)) /\ x = 2))))
theorem wip_ex (k r c q : Int) (n : Nat) (F : Nat -> List UInt8) (d : Int) : ∃ x k' r' c' q' n' F', Wip k r c q n F d x k' r' c' q' n' F' := by
  obtain ⟨y, N, Q, S, h⟩ := ck_ex k r c q n F
  by_cases hy : y = 0
  · by_cases hd : 0 <= d /\ d < (N : Int)
    · exact ⟨0, k, r, c, q, n, _, y, N, Q, S, h, .inl ⟨hy, hd.1, hd.2, rfl, rfl, rfl, rfl, rfl, rfl, rfl⟩⟩
    · exact ⟨2, 0, 0, 0, 0, 0, _, y, N, Q, S, h, .inr ⟨⟨rfl, rfl, rfl, rfl, rfl, rfl⟩, .inr ⟨hy, hd, rfl⟩⟩⟩
  · exact ⟨y, 0, 0, 0, 0, 0, _, y, N, Q, S, h, .inr ⟨⟨rfl, rfl, rfl, rfl, rfl, rfl⟩, .inl ⟨hy, rfl⟩⟩⟩
end Go.Proofs.YtmoenmpbkockoaaGreat.Im
namespace Go.Proofs.YtmoenmpbkockoaaGreat.Im
open Go.RowKit
theorem set_cell {w : World} {l p : Nat} {a : Addr} {v : Value} (h : w.cell? a = some v) (hn : a.block ≠ l) (u : Value) : (w.setCell ⟨l, p, none⟩ u).cell? a = some v :=
  (World.cell?_setCell_other _ _ _ _ (fun e => hn (by rw [<- e]))).trans h
theorem info33 : (Tryz.prog.info? 75).map (fun i => (i.zero, i.size, i.bytes)) = some (some (.slice none 0 0), 1, 24) := by kernel_rfl
theorem RSl.lst {Y : Nat -> Prop} {w : World} {l n : Nat} {A : Nat -> Option Addr} {C : Nat -> Nat} {F : Nat -> List UInt8} (h : RSl w Y l n A C F) : Lst w (some ⟨l, 0, none⟩) n A C F :=
  ⟨fun _ => ⟨l, 0, rfl, fun i hi => by rw [Nat.zero_add]; exact h.cell i hi⟩, h.rd, h.nil⟩
end Go.Proofs.YtmoenmpbkockoaaGreat.Im
namespace Go.Proofs.YtmoenmpbkockoaaGreat.Im
open Go.RowKit
theorem only5 (v : World) (g : Nat) (a b c d e : Value) : Only (fun x => x = g) v (((((v.setCell ⟨g, 0, none⟩ a).setCell ⟨g, 1, none⟩ b).setCell ⟨g, 2, none⟩ c).setCell ⟨g, 3, none⟩ d).setCell ⟨g, 4, none⟩ e) := by
  have h : ∀ {u : World} (i : Nat) (x : Value), Only (fun x => x = g) v u -> Only (fun x => x = g) v (u.setCell ⟨g, i, none⟩ x) := fun i x h => h.setCell (p := ⟨g, i, none⟩) rfl x
  exact h 4 e (h 3 d (h 2 c (h 1 b (h 0 a (Only.refl _ _)))))
theorem RSl.narrow {Y Z : Nat -> Prop} {w : World} {l n : Nat} {A : Nat -> Option Addr} {C : Nat -> Nat} {F : Nat -> List UInt8} (h : RSl w Y l n A C F) (hl : Z l) (ha : ∀ i a, i < n -> A i = some a -> Z a.block) : RSl w Z l n A C F :=
  ⟨h.cell, h.free, h.rd, fun i a hi e => ⟨ha i a hi e, (h.at_ i a hi e).2⟩, h.nil, hl⟩
theorem rsl_only {X Y Z : Nat -> Prop} {w w' : World} {l n : Nat} {A : Nat -> Option Addr} {C : Nat -> Nat} {F : Nat -> List UInt8} (h : RSl w Z l n A C F) (ho : Only X w w') (hx : ∀ b, Z b -> ¬ X b) (hy : ∀ b, Z b -> Y b) : RSl w' Y l n A C F := (h.only ho hx).mono hy
set_option maxHeartbeats 1000000 in
set_option maxRecDepth 100000 in
theorem copiedImage_any (k r c q : Int) (w : World) (lo : Option Addr) (n cl : Nat) (A : Nat -> Option Addr) (C : Nat -> Nat) (F : Nat -> List UInt8) (hn : n <= 1000000) (hl : Lst w lo n A C F) (hf : ∀ i, i < n -> (F i).length <= 1000000) :
    Calls Tryz.prog 73 #[.agg #[.int .i64 k, .int .i64 r, .int .i64 c, .int .i64 q, .slice lo n cl]] w fun e w' => ∃ l A' C', e = .returned (.agg #[.int .i64 k, .int .i64 r, .int .i64 c, .int .i64 q, .slice (some ⟨l, 0, none⟩) n n]) /\ RSl w' (fun b => w.heap.size <= b) l n A' C' F /\ (∀ i, i < n -> OwC w.heap.size w' (A' i) (C' i) (F i)) /\ Below w.heap.size w w' := by
  have HL : Hid (Lst w lo n A C F) := hl
  have HF : Hid (∀ i, i < n -> (F i).length <= 1000000) := hf
  have hmk := fun w => run_make_row' (P := Tryz.prog) 49 75 (.slice none 0 0) 24 Tryz.underlying49 info33 rfl .i64 .i64 n (by omega) (by omega) w
  obtain ⟨Z, hZ⟩ : ∃ Z, Z = madeCells #[.slice none 0 0] n := ⟨_, rfl⟩
  rw [<- hZ] at hmk
  have HZ : Hid (Z = madeCells #[.slice none 0 0] n) := hZ
  obtain ⟨w0, hw0⟩ : ∃ w0, w0 = w.alloc (.cells #[.int .i64 k, .int .i64 r, .int .i64 c, .int .i64 q, .slice lo n cl] 51) := ⟨_, rfl⟩
  obtain ⟨w1, hw1⟩ : ∃ w1, w1 = w0.alloc (.cells #[.int .i64 0, .int .i64 0, .int .i64 0, .int .i64 0, .slice none 0 0] 51) := ⟨_, rfl⟩
  have b0 : Below w.heap.size w w0 := by rw [hw0]; exact below_alloc _ _
  have b1 : Below w0.heap.size w0 w1 := by rw [hw1]; exact below_alloc _ _
  have z0 : w0.heap.size = w.heap.size + 1 := by rw [hw0]; simp
  have z1 : w.heap.size + 2 <= w1.heap.size := by rw [hw1]; simp; omega
  have SH : Hid (∀ v, Below w1.heap.size w1 v -> v.cell? ⟨w.heap.size, 0, none⟩ = some (.int .i64 k) /\ v.cell? ⟨w.heap.size, 1, none⟩ = some (.int .i64 r) /\ v.cell? ⟨w.heap.size, 2, none⟩ = some (.int .i64 c) /\ v.cell? ⟨w.heap.size, 3, none⟩ = some (.int .i64 q) /\ v.cell? ⟨w.heap.size, 4, none⟩ = some (.slice lo n cl)) := fun v hv => img_held hw0 (below_then b1 hv)
  have MH : Hid (∀ v, Below w1.heap.size w1 v -> (v.cell? ⟨w.heap.size + 1, 0, none⟩ = some (.int .i64 0) /\ v.cell? ⟨w.heap.size + 1, 1, none⟩ = some (.int .i64 0) /\ v.cell? ⟨w.heap.size + 1, 2, none⟩ = some (.int .i64 0) /\ v.cell? ⟨w.heap.size + 1, 3, none⟩ = some (.int .i64 0) /\ v.cell? ⟨w.heap.size + 1, 4, none⟩ = some (.slice none 0 0)) /\ ∀ i, v.frozen? ⟨w.heap.size + 1, i, none⟩ = false) := fun v hv => by rw [<- z0]; exact ⟨img_held hw1 hv, blk_free hw1 hv⟩
  have HB1 : Hid (Below w.heap.size w w1) := below_then b0 b1
  obtain ⟨s0, s1, s2, s3, s4⟩ := SH.out w1 (Below.refl _ _)
  have x0 := fun o => SH.out (w1.alloc o) (below_alloc _ _)
  have x1 := fun o o' => SH.out ((w1.alloc o).alloc o') (below_then (below_alloc _ _) (below_alloc _ _))
  have y0 := fun o => (x0 o).1
  have y1 := fun o => (x0 o).2.1
  have y2 := fun o => (x0 o).2.2.1
  have y3 := fun o => (x0 o).2.2.2.1
  have y4 := fun o => (x0 o).2.2.2.2
  have u0 := fun o o' => (x1 o o').1
  have u1 := fun o o' => (x1 o o').2.1
  have u2 := fun o o' => (x1 o o').2.2.1
  have u3 := fun o o' => (x1 o o').2.2.2.1
  have u4 := fun o o' => (x1 o o').2.2.2.2
  clear x0 x1 hl hf z0 hZ
  go_enter Tryz.func73, Tryz.ntmps73
  go_wp2_with fail
  rw [<- hw0, <- hw1]
  clear hw0 hw1 b0 b1
  go_region_held3 (fun v => v.cell? ⟨w.heap.size, 0, none⟩ = some (.int .i64 k) /\ v.cell? ⟨w.heap.size, 1, none⟩ = some (.int .i64 r) /\ v.cell? ⟨w.heap.size, 2, none⟩ = some (.int .i64 c) /\ v.cell? ⟨w.heap.size, 3, none⟩ = some (.int .i64 q) /\ v.cell? ⟨w.heap.size, 4, none⟩ = some (.slice lo n cl)) (go_keep) (fail)
  · obtain ⟨wz, hwz⟩ : ∃ wz, wz = ((w1.alloc (.cells Z 75)).alloc (.cells #[.int .i64 k, .int .i64 r, .int .i64 c, .int .i64 q, .slice (some ⟨w1.heap.size, 0, none⟩) n n] 51)).drew := ⟨_, rfl⟩
    rw [<- hwz]
    have HB : Hid (Below w1.heap.size w1 wz) := by rw [hwz]; exact (below_then (below_alloc _ _) (below_alloc _ _)).drew
    have zz : w1.heap.size + 2 <= wz.heap.size := by rw [hwz]; show _ <= (((w1.alloc (.cells Z 75)).alloc (.cells #[.int .i64 k, .int .i64 r, .int .i64 c, .int .i64 q, .slice (some ⟨w1.heap.size, 0, none⟩) n n] 51))).heap.size; simp
    have HS : Hid (RSl wz (fun b => w.heap.size <= b) (w1.heap.size) n (fun _ => none) (fun _ => 0) (upto 0 F)) := by
      refine rsl_blank (t := 75) ?_ (by show _ <= _; omega) F
      rw [hwz, HZ.out]
      exact (World.rowIs_made w1 (.slice none 0 0) n 75).of_block (heap_alloc_old _ _ (by simp))
    have HV : Hid (Blk wz (w1.heap.size + 1) 51 [.int .i64 k, .int .i64 r, .int .i64 c, .int .i64 q, .slice (some ⟨w1.heap.size, 0, none⟩) n n]) := by
      rw [hwz]
      exact heap_alloc2_new _ _ _
    clear hwz y0 y1 y2 y3 y4 u0 u1 u2 u3 u4 hmk s0 s1 s2 s3
    have SM : Hid (∀ v, Only (fun b => b = w1.heap.size) wz v -> (v.cell? ⟨w.heap.size + 1, 0, none⟩ = some (.int .i64 0) /\ v.cell? ⟨w.heap.size + 1, 1, none⟩ = some (.int .i64 0) /\ v.cell? ⟨w.heap.size + 1, 2, none⟩ = some (.int .i64 0) /\ v.cell? ⟨w.heap.size + 1, 3, none⟩ = some (.int .i64 0) /\ v.cell? ⟨w.heap.size + 1, 4, none⟩ = some (.slice none 0 0)) /\ ∀ i, v.frozen? ⟨w.heap.size + 1, i, none⟩ = false) := fun v hv => by
      obtain ⟨⟨a0, a1, a2, a3, a4⟩, a5⟩ := MH.out wz HB.out
      have hne : ¬ (w.heap.size + 1 = w1.heap.size) := by omega
      exact ⟨⟨hv.cell a0 hne, hv.cell a1 hne, hv.cell a2 hne, hv.cell a3 hne, hv.cell a4 hne⟩, fun i => (World.frozen?_of_block (a := ⟨w.heap.size + 1, i, none⟩) (hv.block (w.heap.size + 1) (by omega) hne)).trans (a5 i)⟩
    have S4 : Hid (∀ v, Only (fun b => b = w1.heap.size) wz v -> v.cell? ⟨w.heap.size, 4, none⟩ = some (.slice lo n cl)) := fun v hv => hv.cell (SH.out wz HB.out).2.2.2.2 (by show ¬ (w.heap.size = w1.heap.size); omega)
    have SV : Hid (∀ v, Only (fun b => b = w1.heap.size) wz v -> Blk v (w1.heap.size + 1) 51 [.int .i64 k, .int .i64 r, .int .i64 c, .int .i64 q, .slice (some ⟨w1.heap.size, 0, none⟩) n n]) := fun v hv => HV.out.only hv (by omega)
    have HWZ : Hid (Below w.heap.size w wz) := below_then HB1.out HB.out
    have s4 := S4.out wz (Only.refl _ _)
    go_wp2_with fail
    go_loopw [4, 5, 16] (fun _ _ x wr => ∃ i : Nat, i <= n /\ x = .int .i64 i /\ Hid (∃ A' C', RSl wr (fun b => w.heap.size <= b) (w1.heap.size) n A' C' (upto i F) /\ (∀ j, j < i -> OwC wz.heap.size wr (A' j) (C' j) (F j))) /\ Hid (Only (fun b => b = w1.heap.size) wz wr)) (fun _ _ x _ => n - (intOf x).toNat)
    case atStart => exact ⟨0, Nat.zero_le _, rfl, ⟨_, _, HS.out, fun j hj => absurd hj (Nat.not_lt_zero _)⟩, Only.refl _ _⟩
    case round =>
      obtain ⟨i, hi, rfl, hs, hb⟩ := hrel
      have hbw : Below w.heap.size w wr := HWZ.out.trans (hb.out.below (fun i h => by omega) (by omega))
      have v4 : wr.cell? ⟨w1.heap.size + 1, 4, none⟩ = some (.slice (some ⟨w1.heap.size, 0, none⟩) n n) := (SV.out wr hb.out).cell rfl
      by_cases hlt : i < n
      · obtain ⟨b, off, rfl, hc⟩ := (HL.out.below hbw).at_ (by omega)
        have ck := hc i hlt
        have HC : Hid (Calls Tryz.prog 129 #[.slice (A i) (F i).length (C i)] wr.drew fun e w' => ∃ ao' cap', e = .returned (.slice ao' (F i).length cap') /\ OwC wr.drew.heap.size w' ao' cap' (F i) /\ Below wr.drew.heap.size wr.drew w') := copied_any wr.drew (A i) (F i).length (C i) (F i) ((HL.out.rd i hlt).below (below_then hbw (below_drew _ _))) rfl (HF.out i hlt)
        have i1 : (0 : Int) <= (i : Int) := by omega
        have i2 : (i : Int) < (n : Int) := by omega
        have hzs := hb.out.size
        clear hc hbw
        go_wp2_with fail
        go_region_held3 (fun v => v.cell? ⟨w1.heap.size + 1, 4, none⟩ = some (.slice (some ⟨w1.heap.size, 0, none⟩) n n)) (go_keep)
          ((go_at_call 129; refine HC.out.mono ?_; rintro e wa ⟨ao, cap, rfl, ho, ha⟩; have HA : Hid (Below wr.heap.size wr wa) := of_drew ha; obtain ⟨A', C', hs1, hs2⟩ := hs.out; have HX : Hid (RSl wa (fun b => w.heap.size <= b) (w1.heap.size) n A' C' (upto i F)) := hs1.only (X := fun _ => False) (.of_below (of_drew ha)) (fun _ _ h => h); have HO : Hid (OwC wz.heap.size wa ao cap (F i)) := ho.mono hzs; have HS2 : Hid (∀ j, j < i -> OwC wz.heap.size wa (A' j) (C' j) (F j)) := fun j hj => (hs2 j hj).below (of_drew ha); have q4 := held v4 (of_drew ha); have cc := HX.out.cell i hlt; have cf := HX.out.free i hlt; have q5 : ∀ u, (wa.setCell ⟨w1.heap.size, i, none⟩ u).cell? ⟨w1.heap.size + 1, 4, none⟩ = some (.slice (some ⟨w1.heap.size, 0, none⟩) n n) := fun u => set_cell q4 (by show w1.heap.size + 1 ≠ w1.heap.size; omega) u; clear hs1 hs2 ho ha))
        all_goals
          go_wp2_with fail
          go_roundw
          case rel =>
            refine ⟨i + 1, by omega, by go_num, ⟨upd i ao A', upd i cap C', ?_, fun j hj => ?_⟩, ?_⟩
            · refine (HX.out.put i ao cap (F i) HO.out.rd (fun a ha => ?_) HO.out.nil).congr fun j _ => upto_succ i F j
              have := (HO.out.at_ ha).1
              exact ⟨by omega, by omega⟩
            · have hoth : ∀ x c y, OwC wz.heap.size wa x c y -> OwC wz.heap.size (wa.setCell ⟨w1.heap.size, i, none⟩ (.slice ao (F i).length cap)) x c y := fun x c y h => h.stay fun g hg _ => Below.heap_setCell _ _ _ _ (by show g ≠ w1.heap.size; omega)
              by_cases e : j = i
              · subst e; rw [upd_at, upd_at]; exact hoth _ _ _ HO.out
              · rw [upd_ne _ _ e, upd_ne _ _ e]; exact hoth _ _ _ (HS2.out j (by omega))
            · exact (hb.out.then HA.out).setCell (p := ⟨w1.heap.size, i, none⟩) rfl _
          case measure => simp [intOf]; omega
      · obtain rfl : i = n := by omega
        obtain ⟨⟨m0, m1, m2, m3, m4⟩, m5⟩ := SM.out wr hb.out
        have hv := SV.out wr hb.out
        have v0 : wr.cell? ⟨w1.heap.size + 1, 0, none⟩ = some (.int .i64 k) := hv.cell rfl
        have v1 : wr.cell? ⟨w1.heap.size + 1, 1, none⟩ = some (.int .i64 r) := hv.cell rfl
        have v2 : wr.cell? ⟨w1.heap.size + 1, 2, none⟩ = some (.int .i64 c) := hv.cell rfl
        have v3 : wr.cell? ⟨w1.heap.size + 1, 3, none⟩ = some (.int .i64 q) := hv.cell rfl
        have HBW : Hid (Below w.heap.size w wr) := hbw
        have hzs := hb.out.size
        clear hbw hv
        go_wp2_with fail
        refine bodyPost_ret (v := .agg #[.int .i64 k, .int .i64 r, .int .i64 c, .int .i64 q, .slice (some ⟨w1.heap.size, 0, none⟩) i i]) (by simp [results, Tryz.results73, go_sem, m0, m1, m2, m3, m4]) rfl ?_
        obtain ⟨A', C', hs1, hs2⟩ := hs.out
        have hO := only5 wr (w.heap.size + 1) (.int .i64 k) (.int .i64 r) (.int .i64 c) (.int .i64 q) (.slice (some ⟨w1.heap.size, 0, none⟩) i i)
        refine ⟨w1.heap.size, A', C', rfl, ?_, fun j hj => ?_, ?_⟩
        · have h1 := (hs1.congr (G := F) fun j hj => upto_all F j hj)
          exact rsl_only (Z := fun b => w.heap.size + 2 <= b) (h1.narrow (by omega) (fun j a hj ha => by have := ((hs2 j hj).at_ ha).1; omega)) hO (fun b h => by omega) (fun b h => by omega)
        · exact ((hs2 j hj).stay fun g hg hl => hO.block g hl (by omega)).mono (by omega)
        · exact HBW.out.trans (hO.below (fun b h => by omega) (by omega))
  · obtain ⟨wz, hwz⟩ : ∃ wz, wz = ((w1.alloc (.cells #[.int .i64 k, .int .i64 r, .int .i64 c, .int .i64 q, .slice (some ⟨w1.heap.size + 1, 0, none⟩) n n] 51)).alloc (.cells Z 75)).drew := ⟨_, rfl⟩
    rw [<- hwz]
    have HB : Hid (Below w1.heap.size w1 wz) := by rw [hwz]; exact (below_then (below_alloc _ _) (below_alloc _ _)).drew
    have zz : w1.heap.size + 2 <= wz.heap.size := by rw [hwz]; show _ <= (((w1.alloc (.cells #[.int .i64 k, .int .i64 r, .int .i64 c, .int .i64 q, .slice (some ⟨w1.heap.size + 1, 0, none⟩) n n] 51)).alloc (.cells Z 75))).heap.size; simp
    have HS : Hid (RSl wz (fun b => w.heap.size <= b) (w1.heap.size + 1) n (fun _ => none) (fun _ => 0) (upto 0 F)) := by
      refine rsl_blank (t := 75) ?_ (by show _ <= _; omega) F
      rw [hwz, HZ.out]
      have h := World.rowIs_made (w1.alloc (.cells #[.int .i64 k, .int .i64 r, .int .i64 c, .int .i64 q, .slice (some ⟨w1.heap.size + 1, 0, none⟩) n n] 51)) (.slice none 0 0) n 75; rw [show (w1.alloc (.cells #[.int .i64 k, .int .i64 r, .int .i64 c, .int .i64 q, .slice (some ⟨w1.heap.size + 1, 0, none⟩) n n] 51)).heap.size = w1.heap.size + 1 by simp] at h; exact h
    have HV : Hid (Blk wz (w1.heap.size) 51 [.int .i64 k, .int .i64 r, .int .i64 c, .int .i64 q, .slice (some ⟨w1.heap.size + 1, 0, none⟩) n n]) := by
      rw [hwz]
      exact heap_alloc2_old _ _ _
    clear hwz y0 y1 y2 y3 y4 u0 u1 u2 u3 u4 hmk s0 s1 s2 s3
    have SM : Hid (∀ v, Only (fun b => b = w1.heap.size + 1) wz v -> (v.cell? ⟨w.heap.size + 1, 0, none⟩ = some (.int .i64 0) /\ v.cell? ⟨w.heap.size + 1, 1, none⟩ = some (.int .i64 0) /\ v.cell? ⟨w.heap.size + 1, 2, none⟩ = some (.int .i64 0) /\ v.cell? ⟨w.heap.size + 1, 3, none⟩ = some (.int .i64 0) /\ v.cell? ⟨w.heap.size + 1, 4, none⟩ = some (.slice none 0 0)) /\ ∀ i, v.frozen? ⟨w.heap.size + 1, i, none⟩ = false) := fun v hv => by
      obtain ⟨⟨a0, a1, a2, a3, a4⟩, a5⟩ := MH.out wz HB.out
      have hne : ¬ (w.heap.size + 1 = w1.heap.size + 1) := by omega
      exact ⟨⟨hv.cell a0 hne, hv.cell a1 hne, hv.cell a2 hne, hv.cell a3 hne, hv.cell a4 hne⟩, fun i => (World.frozen?_of_block (a := ⟨w.heap.size + 1, i, none⟩) (hv.block (w.heap.size + 1) (by omega) hne)).trans (a5 i)⟩
    have S4 : Hid (∀ v, Only (fun b => b = w1.heap.size + 1) wz v -> v.cell? ⟨w.heap.size, 4, none⟩ = some (.slice lo n cl)) := fun v hv => hv.cell (SH.out wz HB.out).2.2.2.2 (by show ¬ (w.heap.size = w1.heap.size + 1); omega)
    have SV : Hid (∀ v, Only (fun b => b = w1.heap.size + 1) wz v -> Blk v (w1.heap.size) 51 [.int .i64 k, .int .i64 r, .int .i64 c, .int .i64 q, .slice (some ⟨w1.heap.size + 1, 0, none⟩) n n]) := fun v hv => HV.out.only hv (by omega)
    have HWZ : Hid (Below w.heap.size w wz) := below_then HB1.out HB.out
    have s4 := S4.out wz (Only.refl _ _)
    go_wp2_with fail
    go_loopw [4, 5, 16] (fun _ _ x wr => ∃ i : Nat, i <= n /\ x = .int .i64 i /\ Hid (∃ A' C', RSl wr (fun b => w.heap.size <= b) (w1.heap.size + 1) n A' C' (upto i F) /\ (∀ j, j < i -> OwC wz.heap.size wr (A' j) (C' j) (F j))) /\ Hid (Only (fun b => b = w1.heap.size + 1) wz wr)) (fun _ _ x _ => n - (intOf x).toNat)
    case atStart => exact ⟨0, Nat.zero_le _, rfl, ⟨_, _, HS.out, fun j hj => absurd hj (Nat.not_lt_zero _)⟩, Only.refl _ _⟩
    case round =>
      obtain ⟨i, hi, rfl, hs, hb⟩ := hrel
      have hbw : Below w.heap.size w wr := HWZ.out.trans (hb.out.below (fun i h => by omega) (by omega))
      have v4 : wr.cell? ⟨w1.heap.size, 4, none⟩ = some (.slice (some ⟨w1.heap.size + 1, 0, none⟩) n n) := (SV.out wr hb.out).cell rfl
      by_cases hlt : i < n
      · obtain ⟨b, off, rfl, hc⟩ := (HL.out.below hbw).at_ (by omega)
        have ck := hc i hlt
        have HC : Hid (Calls Tryz.prog 129 #[.slice (A i) (F i).length (C i)] wr.drew fun e w' => ∃ ao' cap', e = .returned (.slice ao' (F i).length cap') /\ OwC wr.drew.heap.size w' ao' cap' (F i) /\ Below wr.drew.heap.size wr.drew w') := copied_any wr.drew (A i) (F i).length (C i) (F i) ((HL.out.rd i hlt).below (below_then hbw (below_drew _ _))) rfl (HF.out i hlt)
        have i1 : (0 : Int) <= (i : Int) := by omega
        have i2 : (i : Int) < (n : Int) := by omega
        have hzs := hb.out.size
        clear hc hbw
        go_wp2_with fail
        go_region_held3 (fun v => v.cell? ⟨w1.heap.size, 4, none⟩ = some (.slice (some ⟨w1.heap.size + 1, 0, none⟩) n n)) (go_keep)
          ((go_at_call 129; refine HC.out.mono ?_; rintro e wa ⟨ao, cap, rfl, ho, ha⟩; have HA : Hid (Below wr.heap.size wr wa) := of_drew ha; obtain ⟨A', C', hs1, hs2⟩ := hs.out; have HX : Hid (RSl wa (fun b => w.heap.size <= b) (w1.heap.size + 1) n A' C' (upto i F)) := hs1.only (X := fun _ => False) (.of_below (of_drew ha)) (fun _ _ h => h); have HO : Hid (OwC wz.heap.size wa ao cap (F i)) := ho.mono hzs; have HS2 : Hid (∀ j, j < i -> OwC wz.heap.size wa (A' j) (C' j) (F j)) := fun j hj => (hs2 j hj).below (of_drew ha); have q4 := held v4 (of_drew ha); have cc := HX.out.cell i hlt; have cf := HX.out.free i hlt; have q5 : ∀ u, (wa.setCell ⟨w1.heap.size + 1, i, none⟩ u).cell? ⟨w1.heap.size, 4, none⟩ = some (.slice (some ⟨w1.heap.size + 1, 0, none⟩) n n) := fun u => set_cell q4 (by show w1.heap.size ≠ w1.heap.size + 1; omega) u; clear hs1 hs2 ho ha))
        all_goals
          go_wp2_with fail
          go_roundw
          case rel =>
            refine ⟨i + 1, by omega, by go_num, ⟨upd i ao A', upd i cap C', ?_, fun j hj => ?_⟩, ?_⟩
            · refine (HX.out.put i ao cap (F i) HO.out.rd (fun a ha => ?_) HO.out.nil).congr fun j _ => upto_succ i F j
              have := (HO.out.at_ ha).1
              exact ⟨by omega, by omega⟩
            · have hoth : ∀ x c y, OwC wz.heap.size wa x c y -> OwC wz.heap.size (wa.setCell ⟨w1.heap.size + 1, i, none⟩ (.slice ao (F i).length cap)) x c y := fun x c y h => h.stay fun g hg _ => Below.heap_setCell _ _ _ _ (by show g ≠ w1.heap.size + 1; omega)
              by_cases e : j = i
              · subst e; rw [upd_at, upd_at]; exact hoth _ _ _ HO.out
              · rw [upd_ne _ _ e, upd_ne _ _ e]; exact hoth _ _ _ (HS2.out j (by omega))
            · exact (hb.out.then HA.out).setCell (p := ⟨w1.heap.size + 1, i, none⟩) rfl _
          case measure => simp [intOf]; omega
      · obtain rfl : i = n := by omega
        obtain ⟨⟨m0, m1, m2, m3, m4⟩, m5⟩ := SM.out wr hb.out
        have hv := SV.out wr hb.out
        have v0 : wr.cell? ⟨w1.heap.size, 0, none⟩ = some (.int .i64 k) := hv.cell rfl
        have v1 : wr.cell? ⟨w1.heap.size, 1, none⟩ = some (.int .i64 r) := hv.cell rfl
        have v2 : wr.cell? ⟨w1.heap.size, 2, none⟩ = some (.int .i64 c) := hv.cell rfl
        have v3 : wr.cell? ⟨w1.heap.size, 3, none⟩ = some (.int .i64 q) := hv.cell rfl
        have HBW : Hid (Below w.heap.size w wr) := hbw
        have hzs := hb.out.size
        clear hbw hv
        go_wp2_with fail
        refine bodyPost_ret (v := .agg #[.int .i64 k, .int .i64 r, .int .i64 c, .int .i64 q, .slice (some ⟨w1.heap.size + 1, 0, none⟩) i i]) (by simp [results, Tryz.results73, go_sem, m0, m1, m2, m3, m4]) rfl ?_
        obtain ⟨A', C', hs1, hs2⟩ := hs.out
        have hO := only5 wr (w.heap.size + 1) (.int .i64 k) (.int .i64 r) (.int .i64 c) (.int .i64 q) (.slice (some ⟨w1.heap.size + 1, 0, none⟩) i i)
        refine ⟨w1.heap.size + 1, A', C', rfl, ?_, fun j hj => ?_, ?_⟩
        · have h1 := (hs1.congr (G := F) fun j hj => upto_all F j hj)
          exact rsl_only (Z := fun b => w.heap.size + 2 <= b) (h1.narrow (by omega) (fun j a hj ha => by have := ((hs2 j hj).at_ ha).1; omega)) hO (fun b h => by omega) (fun b h => by omega)
        · exact ((hs2 j hj).stay fun g hg hl => hO.block g hl (by omega)).mono (by omega)
        · exact HBW.out.trans (hO.below (fun b h => by omega) (by omega))
end Go.Proofs.YtmoenmpbkockoaaGreat.Im
namespace Go.Proofs.YtmoenmpbkockoaaGreat.Im
open Go.RowKit
theorem Im.lst {B : Nat} {w : World} {lo : Option Addr} {n : Nat} {A : Nat -> Option Addr} {C : Nat -> Nat} {F : Nat -> List UInt8} (h : Im B w lo n A C F) : Lst w lo n A C F := by
  rcases h with ⟨rfl, rfl⟩ | ⟨l, rfl, h, _⟩
  · exact lst_none _ _ _ _ _
  · exact h.lst
theorem Im.below {B : Nat} {w w' : World} {lo : Option Addr} {n : Nat} {A : Nat -> Option Addr} {C : Nat -> Nat} {F : Nat -> List UInt8} (h : Im B w lo n A C F) (hb : Below w.heap.size w w') : Im B w' lo n A C F := by
  rcases h with h | ⟨l, e, h1, h2⟩
  · exact .inl h
  · exact .inr ⟨l, e, h1.only (X := fun _ => False) (.of_below hb) (fun _ _ h => h), fun i hi => (h2 i hi).below hb⟩
end Go.Proofs.YtmoenmpbkockoaaGreat.Im
namespace Go.Proofs.YtmoenmpbkockoaaGreat.Im
open Go.RowKit
def clrF (a cnt : Nat) (F : Nat -> List UInt8) (j : Nat) : List UInt8 := if a <= j /\ j < a + cnt then [] else F j
theorem ImR.clear {B l n : Nat} : ∀ (cnt a : Nat) {w : World} {A : Nat -> Option Addr} {C : Nat -> Nat} {F : Nat -> List UInt8}, ImR B w l n A C F -> ∃ A' C', ImR B (w.setCells l a (List.replicate cnt (.slice none 0 0))) l n A' C' (clrF a cnt F)
  | 0, a, w, A, C, F, h => ⟨A, C, h.congr fun i _ => by unfold clrF; rw [if_neg (by omega)]⟩
  | cnt + 1, a, w, A, C, F, h => by
    have h1 := h.put a (ao := none) (cp := 0) (x := []) (.inl ⟨rfl, rfl, rfl⟩) (fun _ e => by cases e)
    obtain ⟨A', C', h2⟩ := ImR.clear cnt (a + 1) h1
    refine ⟨A', C', h2.congr fun i _ => ?_⟩
    unfold clrF upd
    by_cases e : i = a
    · subst e; rw [if_neg (by omega), if_pos rfl, if_pos (by omega)]
    · rw [if_neg e]
      by_cases g : a + 1 <= i /\ i < a + 1 + cnt
      · rw [if_pos g, if_pos (by omega)]
      · rw [if_neg g, if_neg (by omega)]
theorem clr_wp {Q : Nat} (hQ : 0 < Q) (d : Nat) (F : Nat -> List UInt8) (j : Nat) : clrF (d * Q * 2) (Q * 2) F j = wpF Q d F j := by
  unfold clrF wpF
  have e : d * Q * 2 = d * (2 * Q) := by rw [Nat.mul_assoc, Nat.mul_comm Q 2]
  have hp : 0 < 2 * Q := by omega
  have h1 := Nat.div_add_mod j (2 * Q)
  have h2 := Nat.mod_lt j hp
  by_cases g : j / (2 * Q) = d
  · rw [if_pos g, if_pos]
    rw [g, Nat.mul_comm] at h1
    rw [e]
    omega
  · rw [if_neg g, if_neg]
    rintro ⟨g1, g2⟩
    rw [e] at g1 g2
    apply g
    exact Nat.div_eq_of_lt_le g1 (by rw [Nat.add_mul, Nat.one_mul]; omega)
theorem Only.setCells {X : Nat -> Prop} {a : World} {g : Nat} (hg : X g) : ∀ (vs : List Value) (o : Nat) {b : World}, Only X a b -> Only X a (b.setCells g o vs)
  | [], _, _, h => h
  | v :: r, o, _, h => Only.setCells hg r (o + 1) (h.setCell (p := ⟨g, o, none⟩) hg v)
section
variable {k r c q : Int} {n : Nat} {F : Nat -> List UInt8} {N Q S : Nat}
set_option maxHeartbeats 1000000 in
set_option maxRecDepth 100000 in
theorem Wiped_e1 {x : Int} (hck : Ck k r c q n F x N Q S) (hx : ¬ x = 0) (d : Int) (lo : Option Addr) (cl : Nat) (A : Nat -> Option Addr) (C : Nat -> Nat) (w : World) (hl : Lst w lo n A C F) :
    Calls Tryz.prog 32 #[.agg #[.int .i64 k, .int .i64 r, .int .i64 c, .int .i64 q, .slice lo n cl], .int .i64 d] w fun e w' => ∃ lo' A' C', e = .returned (.tuple #[.agg #[.int .i64 0, .int .i64 0, .int .i64 0, .int .i64 0, .slice lo' 0 0], .int .i64 x]) /\ Im w.heap.size w' lo' 0 A' C' (fun _ => []) /\ Below w.heap.size w w' := by
  obtain ⟨w0, hw0⟩ : ∃ w0, w0 = w.alloc (.cells #[.int .i64 k, .int .i64 r, .int .i64 c, .int .i64 q, .slice lo n cl] 51) := ⟨_, rfl⟩
  obtain ⟨w1, hw1⟩ : ∃ w1, w1 = w0.alloc (.cells #[.int .i64 0, .int .i64 0, .int .i64 0, .int .i64 0, .slice none 0 0] 51) := ⟨_, rfl⟩
  have b0 : Below w.heap.size w w0 := by rw [hw0]; exact below_alloc _ _
  have b1 : Below w0.heap.size w0 w1 := by rw [hw1]; exact below_alloc _ _
  have z0 : w0.heap.size = w.heap.size + 1 := by rw [hw0]; simp
  have z1 : w.heap.size + 2 <= w1.heap.size := by rw [hw1]; simp; omega
  have SH : Hid (∀ v, Below w1.heap.size w1 v -> v.cell? ⟨w.heap.size, 0, none⟩ = some (.int .i64 k) /\ v.cell? ⟨w.heap.size, 1, none⟩ = some (.int .i64 r) /\ v.cell? ⟨w.heap.size, 2, none⟩ = some (.int .i64 c) /\ v.cell? ⟨w.heap.size, 3, none⟩ = some (.int .i64 q) /\ v.cell? ⟨w.heap.size, 4, none⟩ = some (.slice lo n cl)) := fun v hv => img_held hw0 (below_then b1 hv)
  have MH : Hid (∀ v, Below w1.heap.size w1 v -> (v.cell? ⟨w.heap.size + 1, 0, none⟩ = some (.int .i64 0) /\ v.cell? ⟨w.heap.size + 1, 1, none⟩ = some (.int .i64 0) /\ v.cell? ⟨w.heap.size + 1, 2, none⟩ = some (.int .i64 0) /\ v.cell? ⟨w.heap.size + 1, 3, none⟩ = some (.int .i64 0) /\ v.cell? ⟨w.heap.size + 1, 4, none⟩ = some (.slice none 0 0)) /\ ∀ i, v.frozen? ⟨w.heap.size + 1, i, none⟩ = false) := fun v hv => by rw [<- z0]; exact ⟨img_held hw1 hv, blk_free hw1 hv⟩
  have HB1 : Hid (Below w.heap.size w w1) := below_then b0 b1
  have HC := checked_any hck lo cl A C w1 (hl.below HB1.out)
  have hx2 : (x != 0) = true := by simp; exact hx
  clear hck hl hx
  go_enter Tryz.func32, Tryz.ntmps32
  go_wp2_with fail
  rw [<- hw0, <- hw1]
  clear hw0 hw1 b0 b1 z0
  refine HC.mono ?_
  rintro e wa ⟨rfl, ha⟩
  obtain ⟨⟨m0, m1, m2, m3, m4⟩, m5⟩ := MH.out wa ha
  have HB := below_then HB1.out ha
  have n0 := fun o => held m0 (below_alloc wa o)
  have n1 := fun o => held m1 (below_alloc wa o)
  have n2 := fun o => held m2 (below_alloc wa o)
  have n3 := fun o => held m3 (below_alloc wa o)
  have n4 := fun o => held m4 (below_alloc wa o)
  have n5 : ∀ o i, (wa.alloc o).frozen? ⟨w.heap.size + 1, i, none⟩ = false := fun o i => free_below (m5 i) (below_alloc _ _) (World.block_lt_of_cell? wa ⟨w.heap.size + 1, 0, none⟩ m0)
  clear HC ha m0 m1 m2 m3 m4 m5
  go_wp2_with fail
  refine bodyPost_ret (v := .tuple #[.agg #[.int .i64 0, .int .i64 0, .int .i64 0, .int .i64 0, .slice none 0 0], .int .i64 x]) (by simp [results, Tryz.results32, go_sem, n0, n1, n2, n3, n4]) rfl ?_
  exact ⟨none, fun _ => none, fun _ => 0, rfl, .inl ⟨rfl, rfl⟩, (((((HB.alloc HB.size _).setCell (Nat.le_succ _) _).setCell (Nat.le_succ _) _).setCell (Nat.le_succ _) _).setCell (Nat.le_succ _) _).setCell (Nat.le_succ _) _⟩
set_option maxHeartbeats 1000000 in
set_option maxRecDepth 100000 in
theorem Wiped_e2 (hck : Ck k r c q n F 0 N Q S) (d : Int) (hd : ¬ (0 <= d /\ d < (N : Int))) (lo : Option Addr) (cl : Nat) (A : Nat -> Option Addr) (C : Nat -> Nat) (w : World) (hl : Lst w lo n A C F) :
    Calls Tryz.prog 32 #[.agg #[.int .i64 k, .int .i64 r, .int .i64 c, .int .i64 q, .slice lo n cl], .int .i64 d] w fun e w' => ∃ lo' A' C', e = .returned (.tuple #[.agg #[.int .i64 0, .int .i64 0, .int .i64 0, .int .i64 0, .slice lo' 0 0], .int .i64 2]) /\ Im w.heap.size w' lo' 0 A' C' (fun _ => []) /\ Below w.heap.size w w' := by
  obtain ⟨w0, hw0⟩ : ∃ w0, w0 = w.alloc (.cells #[.int .i64 k, .int .i64 r, .int .i64 c, .int .i64 q, .slice lo n cl] 51) := ⟨_, rfl⟩
  obtain ⟨w1, hw1⟩ : ∃ w1, w1 = w0.alloc (.cells #[.int .i64 0, .int .i64 0, .int .i64 0, .int .i64 0, .slice none 0 0] 51) := ⟨_, rfl⟩
  have b0 : Below w.heap.size w w0 := by rw [hw0]; exact below_alloc _ _
  have b1 : Below w0.heap.size w0 w1 := by rw [hw1]; exact below_alloc _ _
  have z0 : w0.heap.size = w.heap.size + 1 := by rw [hw0]; simp
  have z1 : w.heap.size + 2 <= w1.heap.size := by rw [hw1]; simp; omega
  have SH : Hid (∀ v, Below w1.heap.size w1 v -> v.cell? ⟨w.heap.size, 0, none⟩ = some (.int .i64 k) /\ v.cell? ⟨w.heap.size, 1, none⟩ = some (.int .i64 r) /\ v.cell? ⟨w.heap.size, 2, none⟩ = some (.int .i64 c) /\ v.cell? ⟨w.heap.size, 3, none⟩ = some (.int .i64 q) /\ v.cell? ⟨w.heap.size, 4, none⟩ = some (.slice lo n cl)) := fun v hv => img_held hw0 (below_then b1 hv)
  have MH : Hid (∀ v, Below w1.heap.size w1 v -> (v.cell? ⟨w.heap.size + 1, 0, none⟩ = some (.int .i64 0) /\ v.cell? ⟨w.heap.size + 1, 1, none⟩ = some (.int .i64 0) /\ v.cell? ⟨w.heap.size + 1, 2, none⟩ = some (.int .i64 0) /\ v.cell? ⟨w.heap.size + 1, 3, none⟩ = some (.int .i64 0) /\ v.cell? ⟨w.heap.size + 1, 4, none⟩ = some (.slice none 0 0)) /\ ∀ i, v.frozen? ⟨w.heap.size + 1, i, none⟩ = false) := fun v hv => by rw [<- z0]; exact ⟨img_held hw1 hv, blk_free hw1 hv⟩
  have HB1 : Hid (Below w.heap.size w w1) := below_then b0 b1
  have HC := checked_any hck lo cl A C w1 (hl.below HB1.out)
  have HW := fun w => inW_any d (N : Int) w
  rw [decide_eq_false hd] at HW
  clear hck hl hd
  go_enter Tryz.func32, Tryz.ntmps32
  go_wp2_with fail
  rw [<- hw0, <- hw1]
  clear hw0 hw1 b0 b1 z0
  refine HC.mono ?_
  rintro e wa ⟨rfl, ha⟩
  obtain ⟨⟨m0, m1, m2, m3, m4⟩, m5⟩ := MH.out wa ha
  have HB := below_then HB1.out ha
  have n0 := fun o => held m0 (below_alloc wa o)
  have n1 := fun o => held m1 (below_alloc wa o)
  have n2 := fun o => held m2 (below_alloc wa o)
  have n3 := fun o => held m3 (below_alloc wa o)
  have n4 := fun o => held m4 (below_alloc wa o)
  have n5 : ∀ o i, (wa.alloc o).frozen? ⟨w.heap.size + 1, i, none⟩ = false := fun o i => free_below (m5 i) (below_alloc _ _) (World.block_lt_of_cell? wa ⟨w.heap.size + 1, 0, none⟩ m0)
  clear HC ha m0 m1 m2 m3 m4 m5
  go_wp2_with (go_at_call 68; refine (HW _).mono ?_; rintro e w' ⟨rfl, hw'⟩; obtain rfl := hw'.symm)
  refine bodyPost_ret (v := .tuple #[.agg #[.int .i64 0, .int .i64 0, .int .i64 0, .int .i64 0, .slice none 0 0], .int .i64 2]) (by simp [results, Tryz.results32, go_sem, n0, n1, n2, n3, n4]) rfl ?_
  exact ⟨none, fun _ => none, fun _ => 0, rfl, .inl ⟨rfl, rfl⟩, (((((HB.alloc HB.size _).setCell (Nat.le_succ _) _).setCell (Nat.le_succ _) _).setCell (Nat.le_succ _) _).setCell (Nat.le_succ _) _).setCell (Nat.le_succ _) _⟩
set_option maxHeartbeats 2000000 in
set_option maxRecDepth 100000 in
theorem Wiped_ok (hck : Ck k r c q n F 0 N Q S) (d : Nat) (hd : d < N) (lo : Option Addr) (cl : Nat) (A : Nat -> Option Addr) (C : Nat -> Nat) (w : World) (hl : Lst w lo n A C F) :
    Calls Tryz.prog 32 #[.agg #[.int .i64 k, .int .i64 r, .int .i64 c, .int .i64 q, .slice lo n cl], .int .i64 (d : Int)] w fun e w' => ∃ lo' A' C', e = .returned (.tuple #[.agg #[.int .i64 k, .int .i64 r, .int .i64 c, .int .i64 q, .slice lo' n n], .int .i64 0]) /\ Im w.heap.size w' lo' n A' C' (wpF Q d F) /\ Below w.heap.size w w' := by
  obtain ⟨hpm, hne, hfit⟩ := hck.ok rfl
  obtain ⟨hN1, hN2, hQ1, hQ, hS1, hS2, hn1, hn2⟩ := hpm.bounds
  rw [<- hne] at hn1 hn2
  have hsl : ∀ i, i < n -> (F i).length <= 1000000 := fun i hi => by have := hfit i hi; omega
  have HSL : Hid (∀ i, i < n -> (F i).length <= 1000000) := hsl
  have HLL : Hid (Lst w lo n A C F) := hl
  have HWP : Hid (∀ j, clrF (d * Q * 2) (Q * 2) F j = wpF Q d F j) := clr_wp (by omega) d F
  have hsum : (d + 1) * Q * 2 <= n := by rw [hne]; exact Nat.mul_le_mul_right 2 (Nat.mul_le_mul_right Q (by omega))
  have hsu2 : (d + 1) * Q * 2 = d * Q * 2 + Q * 2 := by rw [Nat.add_mul, Nat.add_mul, Nat.one_mul]
  have HAT : Hid (∀ v, Calls Tryz.prog 74 #[.agg #[.int .i64 (N : Int), .int .i64 (Q : Int), .int .i64 (S : Int)], .int .i64 (d : Int), .int .i64 0, .int .i64 0] v fun e w' => e = .returned (.int .i64 ((d * Q * 2 : Nat) : Int)) /\ Below v.heap.size v w') := fun v => by
    have h := at_any N Q S hQ (d : Int) 0 0 (by omega) (by omega) (by decide) (by decide) (by decide) (by decide) v
    rwa [plc_all] at h
  have HAT2 : Hid (∀ v, Calls Tryz.prog 74 #[.agg #[.int .i64 (N : Int), .int .i64 (Q : Int), .int .i64 (S : Int)], .int .i64 ((d : Int) + 1), .int .i64 0, .int .i64 0] v fun e w' => e = .returned (.int .i64 (((d + 1) * Q * 2 : Nat) : Int)) /\ Below v.heap.size v w') := fun v => by
    have h := at_any N Q S hQ ((d + 1 : Nat) : Int) 0 0 (by omega) (by omega) (by decide) (by decide) (by decide) (by decide) v
    rw [plc_all] at h
    exact h
  obtain ⟨w0, hw0⟩ : ∃ w0, w0 = w.alloc (.cells #[.int .i64 k, .int .i64 r, .int .i64 c, .int .i64 q, .slice lo n cl] 51) := ⟨_, rfl⟩
  obtain ⟨w1, hw1⟩ : ∃ w1, w1 = w0.alloc (.cells #[.int .i64 0, .int .i64 0, .int .i64 0, .int .i64 0, .slice none 0 0] 51) := ⟨_, rfl⟩
  have b0 : Below w.heap.size w w0 := by rw [hw0]; exact below_alloc _ _
  have b1 : Below w0.heap.size w0 w1 := by rw [hw1]; exact below_alloc _ _
  have z0 : w0.heap.size = w.heap.size + 1 := by rw [hw0]; simp
  have z1 : w.heap.size + 2 <= w1.heap.size := by rw [hw1]; simp; omega
  have SH : Hid (∀ v, Below w1.heap.size w1 v -> v.cell? ⟨w.heap.size, 0, none⟩ = some (.int .i64 k) /\ v.cell? ⟨w.heap.size, 1, none⟩ = some (.int .i64 r) /\ v.cell? ⟨w.heap.size, 2, none⟩ = some (.int .i64 c) /\ v.cell? ⟨w.heap.size, 3, none⟩ = some (.int .i64 q) /\ v.cell? ⟨w.heap.size, 4, none⟩ = some (.slice lo n cl)) := fun v hv => img_held hw0 (below_then b1 hv)
  have MH : Hid (∀ v, Below w1.heap.size w1 v -> (v.cell? ⟨w.heap.size + 1, 0, none⟩ = some (.int .i64 0) /\ v.cell? ⟨w.heap.size + 1, 1, none⟩ = some (.int .i64 0) /\ v.cell? ⟨w.heap.size + 1, 2, none⟩ = some (.int .i64 0) /\ v.cell? ⟨w.heap.size + 1, 3, none⟩ = some (.int .i64 0) /\ v.cell? ⟨w.heap.size + 1, 4, none⟩ = some (.slice none 0 0)) /\ ∀ i, v.frozen? ⟨w.heap.size + 1, i, none⟩ = false) := fun v hv => by rw [<- z0]; exact ⟨img_held hw1 hv, blk_free hw1 hv⟩
  have HB1 : Hid (Below w.heap.size w w1) := below_then b0 b1
  have HC := checked_any hck lo cl A C w1 (hl.below HB1.out)
  have HW := fun w => inW_any (d : Int) (N : Int) w
  rw [decide_eq_true (show 0 <= (d : Int) /\ (d : Int) < (N : Int) by omega)] at HW
  have wd1 : IntKind.i64.wrap ((d : Int) + 1) = (d : Int) + 1 := by rw [IntKind.wrap_i64]; omega
  clear hck hl hpm hne hfit hsl
  rw [hsu2] at HAT2 hsum
  clear hsu2
  obtain ⟨a0, ha0⟩ : ∃ a0, a0 = d * Q * 2 := ⟨_, rfl⟩
  obtain ⟨ct, hct⟩ : ∃ ct, ct = Q * 2 := ⟨_, rfl⟩
  rw [<- ha0, <- hct] at HWP HAT2 hsum
  rw [<- ha0] at HAT
  obtain ⟨en, hen⟩ : ∃ en, en = a0 + ct := ⟨_, rfl⟩
  rw [<- hen] at HAT2 hsum
  obtain rfl : ct = en - a0 := by omega
  have hct1 : 0 < en - a0 := by omega
  have i0 : (0 : Int) <= (a0 : Int) := by omega
  have i1 : (a0 : Int) <= (en : Int) := by omega
  have i2 : (en : Int) <= (n : Int) := by omega
  have i3 : (0 : Int) <= (en : Int) := by omega
  have i4 : ¬ n = a0 := by omega
  clear hen
  clear ha0 hct
  go_enter Tryz.func32, Tryz.ntmps32
  go_wp2_with fail
  rw [<- hw0, <- hw1]
  clear hw0 hw1 b0 b1 z0
  refine HC.mono ?_
  rintro e wa ⟨rfl, ha⟩
  obtain ⟨wb, hwb⟩ : ∃ wb, wb = wa.alloc (.cells #[.int .i64 (N : Int), .int .i64 (Q : Int), .int .i64 (S : Int)] 124) := ⟨_, rfl⟩
  have hab : Below wa.heap.size wa wb := by rw [hwb]; exact below_alloc _ _
  have HBb : Hid (Below w1.heap.size w1 wb) := below_then ha hab
  have SP : Hid (∀ v, Below wb.heap.size wb v -> v.cell? ⟨wa.heap.size, 0, none⟩ = some (.int .i64 (N : Int)) /\ v.cell? ⟨wa.heap.size, 1, none⟩ = some (.int .i64 (Q : Int)) /\ v.cell? ⟨wa.heap.size, 2, none⟩ = some (.int .i64 (S : Int))) := fun v hv => shp_held hwb hv
  obtain ⟨s0, s1, s2, s3, s4⟩ := SH.out wa ha
  have y0 := fun o => held s0 (below_alloc wa o)
  have y1 := fun o => held s1 (below_alloc wa o)
  have y2 := fun o => held s2 (below_alloc wa o)
  have y3 := fun o => held s3 (below_alloc wa o)
  have y4 := fun o => held s4 (below_alloc wa o)
  have HCI := copiedImage_any k r c q wb lo n cl A C F (by omega) (HLL.out.below (below_then HB1.out HBb.out)) HSL.out
  have zab : wa.heap.size < wb.heap.size := by rw [hwb]; simp
  have zb1 := HBb.out.size
  clear HC ha
  go_wp2_with (first | (go_at_call 68; refine (HW _).mono ?_; rintro e w' ⟨rfl, hw'⟩; obtain rfl := hw'.symm) | fail)
  rw [<- hwb]
  clear hwb hab y0 y1 y2 y3 y4 s0 s1 s2 s3 s4
  refine HCI.mono ?_
  rintro e wd ⟨l, A1, C1, rfl, h1, h2, hd2⟩
  obtain ⟨we, hwe⟩ : ∃ we, we = wd.alloc (.cells #[.int .i64 k, .int .i64 r, .int .i64 c, .int .i64 q, .slice (some ⟨l, 0, none⟩) n n] 51) := ⟨_, rfl⟩
  have bde : Below wd.heap.size wd we := by rw [hwe]; exact below_alloc _ _
  have hcd := hd2.size
  have zde : wd.heap.size < we.heap.size := by rw [hwe]; simp
  have hlc : wb.heap.size <= l := h1.own
  have hld : l < wd.heap.size := World.block_lt_of_cell? wd _ (h1.cell 0 (by omega))
  have HIR : Hid (ImR wb.heap.size we l n A1 C1 F) := (show ImR wb.heap.size wd l n A1 C1 F from ⟨h1, h2⟩).below bde
  have HWC : Hid (Below wb.heap.size wb we) := below_then hd2 bde
  have HWE : Hid (Below w.heap.size w we) := below_then HB1.out (below_then HBb.out HWC.out)
  have HVE : Hid (Blk we wd.heap.size 51 [.int .i64 k, .int .i64 r, .int .i64 c, .int .i64 q, .slice (some ⟨l, 0, none⟩) n n]) := by rw [hwe]; exact blk_new wd 51 _
  have CH : Hid (∀ v, Below we.heap.size we v -> v.cell? ⟨wd.heap.size, 4, none⟩ = some (.slice (some ⟨l, 0, none⟩) n n) /\ v.cell? ⟨wa.heap.size, 0, none⟩ = some (.int .i64 (N : Int)) /\ v.cell? ⟨wa.heap.size, 1, none⟩ = some (.int .i64 (Q : Int)) /\ v.cell? ⟨wa.heap.size, 2, none⟩ = some (.int .i64 (S : Int))) := fun v hv => ⟨held (HVE.out.cell rfl) hv, SP.out v (below_then HWC.out hv)⟩
  obtain ⟨c0, c1, c2, c3⟩ := CH.out we (Below.refl _ _)
  have tok1 : True := trivial
  clear HCI h1 h2 hd2 bde HW
  go_wp2_with fail
  rw [<- hwe]
  clear hwe
  go_region_held3 (fun v => v.cell? ⟨wd.heap.size, 4, none⟩ = some (.slice (some ⟨l, 0, none⟩) n n) /\ v.cell? ⟨wa.heap.size, 0, none⟩ = some (.int .i64 (N : Int)) /\ v.cell? ⟨wa.heap.size, 1, none⟩ = some (.int .i64 (Q : Int)) /\ v.cell? ⟨wa.heap.size, 2, none⟩ = some (.int .i64 (S : Int))) (go_keep)
    (first
      | (go_at_call 74; have _t := tok1; refine (HAT.out _).mono ?_; rintro e wf ⟨rfl, hf⟩; have HFf : Hid (Below we.heap.size we wf) := of_drew hf; obtain ⟨f0, f1, f2, f3⟩ := CH.out wf (of_drew hf); clear hf tok1)
      | (go_at_call 74; refine (HAT2.out _).mono ?_; rintro e wg ⟨rfl, hg⟩; have HG : Hid (Below we.heap.size we wg) := below_then HFf.out hg; obtain ⟨g0, g1, g2, g3⟩ := CH.out wg HG.out; have HX : Hid (ImR wb.heap.size wg l n A1 C1 F) := HIR.out.below HG.out; have hclr := fun ty => Lib.run_clear_slice (P := Tryz.prog) wg 49 75 ty (.slice none 0 0) Tryz.underlying49 Tryz.zeroValue75 rfl rfl l a0 (en - a0) (n - a0) hct1 (fun j hj => by rw [HX.out.1.cell (a0 + j) (by omega)]; rfl) (fun j hj => HX.out.1.free (a0 + j) (by omega)); obtain ⟨wh, hwh⟩ : ∃ wh, wh = wg.setCells l a0 (List.replicate (en - a0) (.slice none 0 0)) := ⟨_, rfl⟩; rw [<- hwh] at hclr; have HOH : Hid (Only (fun b => b = l) wg wh) := (by rw [hwh]; exact Only.setCells (X := fun b => b = l) rfl _ _ (Only.refl _ _)); have HXX : Hid (∃ A' C', ImR wb.heap.size wh l n A' C' (clrF a0 (en - a0) F)) := (by rw [hwh]; exact HX.out.clear (en - a0) a0); have e0 := HOH.out.cell g0 (show ¬ (wd.heap.size = l) by omega); have e1 := HOH.out.cell g1 (show ¬ (wa.heap.size = l) by omega); have e2 := HOH.out.cell g2 (show ¬ (wa.heap.size = l) by omega); have e3 := HOH.out.cell g3 (show ¬ (wa.heap.size = l) by omega); clear hg hwh))
  all_goals
    have HO2 : Hid (Only (fun b => b = l) we wh) := (Only.of_below HG.out).trans HOH.out
    obtain ⟨⟨a0', a1', a2', a3', a4'⟩, a5'⟩ := MH.out we (below_then HBb.out HWC.out)
    have hne : ¬ (w.heap.size + 1 = l) := by omega
    have m0 := HO2.out.cell a0' hne
    have m1 := HO2.out.cell a1' hne
    have m2 := HO2.out.cell a2' hne
    have m3 := HO2.out.cell a3' hne
    have m4 := HO2.out.cell a4' hne
    have m5 := fun i => (World.frozen?_of_block (a := ⟨w.heap.size + 1, i, none⟩) (HO2.out.block (w.heap.size + 1) (by omega) hne)).trans (a5' i)
    have hv := HVE.out.only HO2.out (by omega)
    have v0 : wh.cell? ⟨wd.heap.size, 0, none⟩ = some (.int .i64 k) := hv.cell rfl
    have v1 : wh.cell? ⟨wd.heap.size, 1, none⟩ = some (.int .i64 r) := hv.cell rfl
    have v2 : wh.cell? ⟨wd.heap.size, 2, none⟩ = some (.int .i64 c) := hv.cell rfl
    have v3 : wh.cell? ⟨wd.heap.size, 3, none⟩ = some (.int .i64 q) := hv.cell rfl
    have v4 : wh.cell? ⟨wd.heap.size, 4, none⟩ = some (.slice (some ⟨l, 0, none⟩) n n) := hv.cell rfl
    clear hv a0' a1' a2' a3' a4' a5'
    go_wp2_with fail
    refine bodyPost_ret (v := .tuple #[.agg #[.int .i64 k, .int .i64 r, .int .i64 c, .int .i64 q, .slice (some ⟨l, 0, none⟩) n n], .int .i64 0]) (by simp [results, Tryz.results32, go_sem, m0, m1, m2, m3, m4]) rfl ?_
    obtain ⟨A', C', hs1⟩ := HXX.out
    have hO := only5 wh (w.heap.size + 1) (.int .i64 k) (.int .i64 r) (.int .i64 c) (.int .i64 q) (.slice (some ⟨l, 0, none⟩) n n)
    have hs2 := ((hs1.only hO (fun b h => by omega)).congr fun j _ => HWP.out j).mono (B' := w.heap.size) (by omega)
    have hbw : Below w.heap.size w wh := HWE.out.trans (HO2.out.below (fun i h => by omega) (by omega))
    exact ⟨some ⟨l, 0, none⟩, A', C', rfl, .inr ⟨l, rfl, hs2.1, hs2.2⟩, hbw.trans (hO.below (fun b h => by omega) hbw.size)⟩
end
theorem Wiped_any {k r c q : Int} {n : Nat} {F : Nat -> List UInt8} {d x k' r' c' q' : Int} {n' : Nat} {F' : Nat -> List UInt8} (h : Wip k r c q n F d x k' r' c' q' n' F') (lo : Option Addr) (cl : Nat) (A : Nat -> Option Addr) (C : Nat -> Nat) (w : World) (hl : Lst w lo n A C F) :
    Calls Tryz.prog 32 #[.agg #[.int .i64 k, .int .i64 r, .int .i64 c, .int .i64 q, .slice lo n cl], .int .i64 d] w fun e w' => ∃ lo' A' C', e = .returned (.tuple #[.agg #[.int .i64 k', .int .i64 r', .int .i64 c', .int .i64 q', .slice lo' n' n'], .int .i64 x]) /\ Im w.heap.size w' lo' n' A' C' F' /\ Below w.heap.size w w' := by
  obtain ⟨y, N, Q, S, hck, hc⟩ := h
  rcases hc with ⟨rfl, h1, h2, rfl, rfl, rfl, rfl, rfl, rfl, rfl⟩ | ⟨⟨rfl, rfl, rfl, rfl, rfl, rfl⟩, hc⟩
  · obtain ⟨dd, rfl⟩ := Int.eq_ofNat_of_zero_le h1
    rw [Int.toNat_natCast]
    exact Wiped_ok hck dd (by omega) lo cl A C w hl
  · rcases hc with ⟨h1, rfl⟩ | ⟨rfl, h1, rfl⟩
    · exact Wiped_e1 hck h1 d lo cl A C w hl
    · exact Wiped_e2 hck d h1 lo cl A C w hl
end Go.Proofs.YtmoenmpbkockoaaGreat.Im
namespace Go.Proofs.YtmoenmpbkockoaaGreat.De
theorem okL_congr {q : Int} {n : Nat} {R V R' V' : Nat -> Int} (h : ∀ i, i < n -> R i = R' i /\ V i = V' i) : okL q n R V = okL q n R' V' := by
  unfold okL
  apply decide_eq_decide.2
  constructor
  · intro k i hi; rw [<- (h i hi).1, <- (h i hi).2]; exact k i hi
  · intro k i hi; rw [(h i hi).1, (h i hi).2]; exact k i hi
theorem okD_congr {W : Nat} {q len dep : Int} {n : Nat} {R V R' V' : Nat -> Int} (h : ∀ i, i < n -> R i = R' i /\ V i = V' i) : okD W q len dep n R V = okD W q len dep n R' V' := by
  unfold okD; rw [okL_congr h]
theorem isL_true {W : Nat} {q : Int} {n : Nat} {F : Nat -> UInt8} (h : isL W q n F = true) : okL q n (rdR F 0) (rdV F 0) = true /\ ∀ j, j < W -> 6 * n <= j -> F j = 0 := of_decide_eq_true h
end Go.Proofs.YtmoenmpbkockoaaGreat.De
namespace Go.Proofs.YtmoenmpbkockoaaGreat
open Go.RowKit
theorem b_drew {a v : World} (h : Below a.heap.size a v) : Below a.heap.size a v.drew := h.trans (below_drew _ _)
end Go.Proofs.YtmoenmpbkockoaaGreat
namespace Go.Proofs.YtmoenmpbkockoaaGreat.Cod
open Go.RowKit
open Go.Maps (Keyed)
end Go.Proofs.YtmoenmpbkockoaaGreat.Cod
namespace Go.Proofs.YtmoenmpbkockoaaGreat.Cod
open Go.RowKit
open Go.Maps (Keyed)
end Go.Proofs.YtmoenmpbkockoaaGreat.Cod
namespace Go.Proofs.YtmoenmpbkockoaaGreat.Cod
open Go.RowKit
open Go.Maps (Keyed)
end Go.Proofs.YtmoenmpbkockoaaGreat.Cod
namespace Go.Proofs.YtmoenmpbkockoaaGreat.Cod
theorem cnt_lt {L : Nat -> Nat} {n i : Nat} (hi : i < n) (h : L i = 0) : cnt L n < n := by
  have h1 := cnt_le L i
  have h2 : cnt L (i + 1) = cnt L i := cnt_skip h
  have h3 : ∀ m, i + 1 <= m -> cnt L m < m := fun m => by
    induction m with
    | zero => intro g; omega
    | succ m ih =>
      intro g
      by_cases e : i = m
      · subst e; omega
      · have := ih (by omega)
        by_cases q : L m = 0
        · rw [cnt_skip q]; omega
        · rw [cnt_take q]; omega
  exact h3 n hi
theorem cnt_congr {L L' : Nat -> Nat} {n : Nat} (h : ∀ i, i < n -> (L i = 0 ↔ L' i = 0)) : selF L n = selF L' n := by
  induction n with
  | zero => rfl
  | succ n ih =>
    rw [selF, selF, ih (fun i hi => h i (by omega))]
    have := h n (by omega)
    by_cases e : L n = 0
    · rw [if_pos e, if_pos (this.1 e)]
    · rw [if_neg e, if_neg (fun g => e (this.2 g))]
theorem dec_enc {k n : Nat} {R : Nat -> Nat} (H D : M) (hk : k <= 12) (hn : n <= 16) (hlt : ∀ t, t < k -> R t < n) (hr : ∀ t t', t < t' -> t' < k -> R t < R t') (b : Nat) (h : ∀ t, t < k -> H (R t) b = enc k D (R t) b) (i : Nat) (hi : i < k) : dec k R H i b = D i b := by
  have hv := rows_inv hk hn hlt hr
  show sum k (fun t => K.mul (invOf k (rowsR k R) i t) (H (R t) b)) = _
  rw [sum_congr (g := fun t => K.mul (invOf k (rowsR k R) i t) (mm k (rowsR k R) D t b)) (fun t ht => by rw [h t ht]; rfl)]
  show mm k (invOf k (rowsR k R)) (mm k (rowsR k R) D) i b = _
  rw [<- mm_assoc]
  show sum k (fun l => K.mul (mm k (invOf k (rowsR k R)) (rowsR k R) i l) (D l b)) = _
  rw [sum_congr (g := fun l => K.mul (one i l) (D l b)) (fun l hl => by rw [(hv i l hi hl).1])]
  exact one_mm hi
theorem enc_congr {k : Nat} {D D' : M} {b : Nat} (h : ∀ j, j < k -> D j b = D' j b) (i : Nat) : enc k D i b = enc k D' i b := sum_congr fun j hj => congrArg (K.mul _) (h j hj)
end Go.Proofs.YtmoenmpbkockoaaGreat.Cod
namespace Go.Proofs.YtmoenmpbkockoaaGreat.Cod
open Go.RowKit
end Go.Proofs.YtmoenmpbkockoaaGreat.Cod
namespace Go.Proofs.YtmoenmpbkockoaaGreat.Cod
open Go.RowKit
end Go.Proofs.YtmoenmpbkockoaaGreat.Cod
namespace Go.Proofs.YtmoenmpbkockoaaGreat.Cod
open Go.RowKit
end Go.Proofs.YtmoenmpbkockoaaGreat.Cod
namespace Go.Proofs.YtmoenmpbkockoaaGreat.Cod
open Go.RowKit
end Go.Proofs.YtmoenmpbkockoaaGreat.Cod
namespace Go.Proofs.YtmoenmpbkockoaaGreat.Cod
open Go.RowKit
end Go.Proofs.YtmoenmpbkockoaaGreat.Cod
namespace Go.Proofs.YtmoenmpbkockoaaGreat.Cod
open Go.RowKit
def errE (may ok : Bool) : Int := if may then (if ok then 0 else 40) else 2
theorem all_there {L : Nat -> Nat} {n : Nat} (h : n <= cnt L n) (i : Nat) (hi : i < n) : L i ≠ 0 := fun e => by have := cnt_lt hi e; omega
end Go.Proofs.YtmoenmpbkockoaaGreat.Cod
namespace Go.Proofs.YtmoenmpbkockoaaGreat.Cod
open Go.RowKit
end Go.Proofs.YtmoenmpbkockoaaGreat.Cod
namespace Go.Proofs.YtmoenmpbkockoaaGreat.Cod
open Go.RowKit
theorem Lst.from {w : World} {b off : Nat} {k r : Nat} {A : Nat -> Option Addr} {C L : Nat -> Nat} {H : M} (h : Lst w (some ⟨b, off, none⟩) (k + r) A C L H) : Lst w (some ⟨b, off + k, none⟩) r (fun i => A (k + i)) (fun i => C (k + i)) (fun i => L (k + i)) (fun i => H (k + i)) :=
  ⟨fun i hi => h.rd (k + i) (by omega), fun hp => by
    obtain ⟨b', off', e, hc⟩ := h.at_ (by omega)
    cases e
    exact ⟨b, off + k, rfl, fun i hi => by rw [Nat.add_assoc]; exact hc (k + i) (by omega)⟩⟩
theorem Lst.upto {w : World} {lo : Option Addr} {k r : Nat} {A : Nat -> Option Addr} {C L : Nat -> Nat} {H : M} (h : Lst w lo (k + r) A C L H) : Lst w lo k A C L H :=
  ⟨fun i hi => h.rd i (by omega), fun hp => by
    obtain ⟨b', off', e, hc⟩ := h.at_ (by omega)
    exact ⟨b', off', e, fun i hi => hc i (by omega)⟩⟩
end Go.Proofs.YtmoenmpbkockoaaGreat.Cod
namespace Go.Proofs.YtmoenmpbkockoaaGreat.Cod
open Go.RowKit
end Go.Proofs.YtmoenmpbkockoaaGreat.Cod
namespace Go.Proofs.YtmoenmpbkockoaaGreat.Cod
open Go.RowKit
end Go.Proofs.YtmoenmpbkockoaaGreat.Cod
namespace Go.Proofs.YtmoenmpbkockoaaGreat
theorem yy_none {N : Nat} {c : Int} {L : Nat -> Nat} {F : Nat -> Nat -> UInt8} {j : Nat} (h : L j = 0) : yy N c L F j = zSl := by
  rcases he_is N c ((j / 2 : Nat) : Int) (L j) (F j) with e | ⟨_, _, e, _⟩
  · exact e
  · have := (is_true e).1
    unfold sz at this
    omega
theorem hB_of {y : Sl} {kd : UInt8} {v : Int} (h1 : v ≠ 0) (h2 : y.kd = kd) (h3 : y.ce = v) : hB y kd v = true := decide_eq_true ⟨h1, h2, h3⟩
theorem hB_no {y : Sl} {kd : UInt8} {v : Int} (h : y.ce ≠ v) : hB y kd v = false := decide_eq_false fun e => h e.2.2
end Go.Proofs.YtmoenmpbkockoaaGreat
namespace Go.Proofs.YtmoenmpbkockoaaGreat
open Go.RowKit
def lz (z : Nat -> Sl) (i : Nat) : Nat := if (z i).ce = 0 then 0 else 1
def ct (z : Nat -> Sl) (d : Nat) : Nat := Cod.cnt (lz z) d
end Go.Proofs.YtmoenmpbkockoaaGreat
namespace Go.Proofs.YtmoenmpbkockoaaGreat
open Go.RowKit
theorem bK_toK (u : UInt8) : bK (toK u) = u := UInt8.toNat_inj.1 (bK_n (toK u))
end Go.Proofs.YtmoenmpbkockoaaGreat
namespace Go.Proofs.YtmoenmpbkockoaaGreat
open Go.RowKit
theorem lz_zero {N : Nat} {c : Int} {z : Nat -> Sl} (h : Zok N c z) (hc : 8 <= c) {i : Nat} (hi : i < N) : Lz z i = 0 ↔ lz z i = 0 := by
  unfold Lz lz
  rcases h.dn i hi with ⟨a, b⟩ | ⟨a, b⟩
  · rw [if_pos a, b]
  · rw [if_neg a, b]; constructor
    · intro e; omega
    · intro e; exact absurd e (by decide)
theorem cnt_ct {N : Nat} {c : Int} {z : Nat -> Sl} (h : Zok N c z) (hc : 8 <= c) : Cod.cnt (Lz z) N = ct z N /\ Cod.sel (Lz z) N = Cod.sel (lz z) N := by
  have := Cod.cnt_congr (fun i hi => lz_zero h hc (i := i) hi)
  unfold ct Cod.cnt Cod.sel
  rw [this]; exact ⟨rfl, rfl⟩
end Go.Proofs.YtmoenmpbkockoaaGreat
namespace Go.Proofs.YtmoenmpbkockoaaGreat.Cn
theorem dl_both (p : Nat -> Bool) : ∀ n : Nat, (dl p n).length + (dl (fun i => !p i) n).length = n
  | 0 => rfl
  | n + 1 => by
    have := dl_both p n
    rw [dl, dl]
    cases h : p n
    · simp; omega
    · simp; omega
theorem dl_few (p : Nat -> Bool) (n : Nat) : (dl p n).length <= n := by have := dl_both p n; omega
theorem dl_sub {p q : Nat -> Bool} : ∀ {n : Nat}, (∀ i, i < n -> p i = true -> q i = true) -> (dl p n).length <= (dl q n).length
  | 0, _ => Nat.le_refl _
  | n + 1, h => by
    have ih := dl_sub (n := n) (fun i hi => h i (by omega))
    rw [dl, dl]
    by_cases hp : p n = true
    · rw [if_pos hp, if_pos (h n (by omega) hp)]; simp; omega
    · rw [if_neg hp]
      split
      · simp; omega
      · exact ih
theorem dl_empty {p : Nat -> Bool} {n : Nat} (h : ∀ i, i < n -> p i = false) : dl p n = [] := by
  apply List.eq_nil_iff_forall_not_mem.2
  intro x hx
  obtain ⟨i, h1, h2, _⟩ := mem_dl.1 hx
  rw [h i h1] at h2
  cases h2
theorem dl_nil {p : Nat -> Bool} {n : Nat} (h : (dl p n).length = 0) {i : Nat} (hi : i < n) : p i = false := by
  cases hp : p i
  · rfl
  · have hm : ((i : Nat) : Int) ∈ dl p n := mem_dl.2 ⟨i, hi, hp, rfl⟩
    rw [List.length_eq_zero_iff.1 h] at hm
    cases hm
end Go.Proofs.YtmoenmpbkockoaaGreat.Cn
namespace Go.Proofs.YtmoenmpbkockoaaGreat.Cn
open Go.RowKit
theorem ev_z : ev zSl = 0 := rfl
theorem hQ_or (N : Nat) (c : Int) (L : Nat -> Nat) (F : Nat -> Nat -> UInt8) (i : Nat) {v : Int} (hv : v ≠ 0) : (hP N c L F i = v \/ hQ N c L F i = v) ↔ (hP N c L F i = v \/ hR N c L F i = v) := by
  unfold hQ onc
  split
  · rename_i e
    rw [e]
    constructor
    · rintro (h | h); exact .inl h; exact absurd h.symm hv
    · rintro (h | h); exact .inl h; exact .inl h
  · exact Iff.rfl
set_option maxHeartbeats 400000 in
set_option maxRecDepth 100000 in
theorem has_any (w : World) (a b v : Int) :
    Calls Tryz.prog 53 #[.agg #[.int .i64 a, .int .i64 b], .int .i64 v] w fun e w' => e = .returned (.bool (decide (a = v \/ b = v))) /\ Below w.heap.size w w' := by
  by_cases h : a = v
  · have hq : (a == v) = true := by simpa using h
    rw [decide_eq_true (.inl h)]
    clear h
    go_enter Tryz.func53, Tryz.ntmps53
    go_wp2
    go_ret
    exact ⟨rfl, below_alloc _ _⟩
  · have hq : (a == v) = false := by simpa using h
    have e : (decide (a = v \/ b = v)) = (b == v) := by
      by_cases g : b = v
      · rw [decide_eq_true (.inr g)]; simpa using g
      · rw [decide_eq_false (fun k => k.elim h g)]; symm; simpa using g
    rw [e]
    clear h e
    go_enter Tryz.func53, Tryz.ntmps53
    go_wp2
    go_ret
    exact ⟨rfl, below_alloc _ _⟩
end Go.Proofs.YtmoenmpbkockoaaGreat.Cn
namespace Go.Proofs.YtmoenmpbkockoaaGreat.Cn
open Go.RowKit Go.Maps Go.ChangeShapes
def AnsI (w : World) (E : Int) (zs : List Int) (e : Ending) (w' : World) : Prop :=
  ∃ a cap, e = .returned (.tuple #[.slice a (zs.length : Nat) cap, .int .i64 E]) /\ w'.ownsInts w.heap.size 3 .i64 (.slice a zs.length cap) zs /\ Below w.heap.size w w'
theorem ints_mono {w : World} {B B' : Nat} {v : Value} {zs : List Int} (h : w.ownsInts B 3 .i64 v zs) (hb : B' <= B) : w.ownsInts B' 3 .i64 v zs := ⟨row_mono h.1 hb, h.2⟩
end Go.Proofs.YtmoenmpbkockoaaGreat.Cn
namespace Go.Proofs.YtmoenmpbkockoaaGreat
open Go.RowKit Go.Sort
set_option maxHeartbeats 4000000 in
set_option maxRecDepth 100000 in
theorem Rows_bad {k r c q : Int} (w : World) (lo : Option Addr) (n cl : Nat) (o E : Int) (hE : E ≠ 0) (m : Nat) (a v : Nat -> Int)
    (HA : Hid (∀ u, Below w.heap.size w u -> Calls Tryz.prog 24 #[.agg #[.int .i64 k, .int .i64 r, .int .i64 c, .int .i64 q, .slice lo n cl], .int .i64 o] u (AnsLv u E m a v))) :
    Calls Tryz.prog 23 #[.agg #[.int .i64 k, .int .i64 r, .int .i64 c, .int .i64 q, .slice lo n cl], .int .i64 o] w fun e w' => e = .returned (.tuple #[.slice none 0 0, .int .i64 E]) /\ Below w.heap.size w w' := by
  have hz : (E != 0) = true := by simpa using hE
  unfold AnsLv at HA
  rw [lenE_ne m hE] at HA
  clear hE
  obtain ⟨w0, hw0⟩ : ∃ w0, w0 = w.alloc (.cells #[.int .i64 k, .int .i64 r, .int .i64 c, .int .i64 q, .slice lo n cl] 51) := ⟨_, rfl⟩
  have b0 : Below w.heap.size w w0 := by rw [hw0]; exact below_alloc _ _
  go_enter Tryz.func23, Tryz.ntmps23
  go_wp2_with fail
  rw [<- hw0]
  refine (HA.out _ b0).mono ?_
  rintro e wa ⟨ao, cp, rfl, _, ha⟩
  clear hw0 HA
  go_wp2_with fail
  go_ret2
  exact ⟨rfl, below_then b0 ha⟩
end Go.Proofs.YtmoenmpbkockoaaGreat
namespace Go.Proofs.YtmoenmpbkockoaaGreat
open Go.RowKit
set_option maxHeartbeats 400000 in
set_option maxRecDepth 100000 in
theorem May_any (k r c q : Int) (w : World) :
    Calls Tryz.prog 58 #[.agg #[.int .i64 k, .int .i64 r, .int .i64 c, .int .i64 q]] w fun e w' => e = .returned (.bool (may k r c q)) /\ Below w.heap.size w w' := by
  have HW : Hid (1 <= k -> k <= 12 -> 8 <= c -> c <= 64 -> wrap64 (k * c) = k * c) := wrap_wide
  go_enter Tryz.func58, Tryz.ntmps58
  go_wp2
  all_goals (go_ret; have := HW.out; refine ⟨ret_bool ?_, below_alloc _ _⟩; rw [may_decide]; first | exact decide_eq_decide.2 (by omega) | exact (decide_eq_false (by omega)).symm)
set_option maxHeartbeats 4000000 in
set_option maxRecDepth 100000 in
theorem big_any (k r c q : Int) (lo : Option Addr) (n cl : Nat) (w : World) : Calls Tryz.prog 21 #[.agg #[.int .i64 k, .int .i64 r, .int .i64 c, .int .i64 q, .slice lo n cl]] w fun e w' => (∃ b, e = .returned (.bool b)) /\ Below w.heap.size w w' := by
  have HM : Hid (∀ w, Calls Tryz.prog 58 #[.agg #[.int .i64 k, .int .i64 r, .int .i64 c, .int .i64 q]] w fun e w' => e = .returned (.bool (may k r c q)) /\ Below w.heap.size w w') := fun w => May_any k r c q w
  obtain ⟨w0, hw0⟩ : ∃ w0, w0 = w.alloc (.cells #[.int .i64 k, .int .i64 r, .int .i64 c, .int .i64 q, .slice lo n cl] 51) := ⟨_, rfl⟩
  have b0 : Below w.heap.size w w0 := by rw [hw0]; exact below_alloc _ _
  have s0 := blk_held hw0 (Below.refl _ _) 0 rfl
  have s1 := blk_held hw0 (Below.refl _ _) 1 rfl
  have s2 := blk_held hw0 (Below.refl _ _) 2 rfl
  have s3 := blk_held hw0 (Below.refl _ _) 3 rfl
  have a0 : w0.cell? ⟨w.heap.size, 0, none⟩ = some (.int .i64 k) := s0
  have a1 : w0.cell? ⟨w.heap.size, 1, none⟩ = some (.int .i64 r) := s1
  have a2 : w0.cell? ⟨w.heap.size, 2, none⟩ = some (.int .i64 c) := s2
  have a3 : w0.cell? ⟨w.heap.size, 3, none⟩ = some (.int .i64 q) := s3
  clear s0 s1 s2 s3
  cases hm : may k r c q
  · rw [hm] at HM
    go_enter Tryz.func21, Tryz.ntmps21
    go_wp2_with fail
    rw [<- hw0]
    clear hw0
    refine wp_region_held_drew (S := (fun v => v.cell? ⟨w.heap.size, 0, none⟩ = some (.int .i64 k) /\ v.cell? ⟨w.heap.size, 1, none⟩ = some (.int .i64 r) /\ v.cell? ⟨w.heap.size, 2, none⟩ = some (.int .i64 c) /\ v.cell? ⟨w.heap.size, 3, none⟩ = some (.int .i64 q))) (by kernel_rfl) ⟨a0, a1, a2, a3⟩ (fun hHeld => ?_)
    refine wpAnyH_take (i := 0) (oi := _) (v := .pointer (some ⟨w.heap.size, 0, none⟩)) rfl (by kernel_rfl) (by kernel_rfl) (by kernel_rfl) (fun _ _ _ h => h) (Or.inl ⟨by rfl, ?_⟩) (by assumption) ?_
    · intro w' hSw
      try dsimp only at hSw
      go_simp <;> first | with_reducible rfl | assumption
    simp only [Act.put]
    refine wpAnyH_take (i := 1) (oi := _) (v := .agg #[.int .i64 k, .int .i64 r, .int .i64 c, .int .i64 q]) rfl (by kernel_rfl) (by kernel_rfl) (by kernel_rfl) (fun _ _ _ h => h) (Or.inl ⟨by rfl, ?_⟩) (by assumption) ?_
    · intro w' hSw
      try dsimp only at hSw
      go_simp <;> first | with_reducible rfl | assumption
    simp only [Act.put]
    refine wpAnyH_ready (rs := [2]) (by kernel_rfl) (by simp) ?_
    refine AllReadyH.cons (o := _) rfl (fun K hK => ?_) AllReadyH.nil
    go_simp
    refine (HM.out _).mono ?_
    rintro e wa ⟨rfl, ha⟩
    have f0 := held (w := w0.drew) a0 ha
    have f1 := held (w := w0.drew) a1 ha
    have f2 := held (w := w0.drew) a2 ha
    have f3 := held (w := w0.drew) a3 ha
    refine hK.out _ _ ⟨f0, f1, f2, f3⟩ (fun hHeld => ?_)
    clear hK K
    try simp only [Act.put]
    refine wpAnyH_take (i := 3) (oi := _) (v := .bool false) rfl (by kernel_rfl) (by kernel_rfl) (by kernel_rfl) (fun _ _ _ h => h) (Or.inl ⟨by rfl, ?_⟩) (by assumption) ?_
    · intro w' hSw
      try dsimp only at hSw
      go_simp <;> first | with_reducible rfl | assumption
    simp only [Act.put]
    refine wpAnyH_take (i := 4) (oi := _) (v := undef) rfl (by kernel_rfl) (by kernel_rfl) (by kernel_rfl) (fun _ _ _ h => h) (Or.inr ⟨by rfl, rfl⟩) (by assumption) ?_
    simp only [Act.put]
    refine wpAnyH_take (i := 5) (oi := _) (v := undef) rfl (by kernel_rfl) (by kernel_rfl) (by kernel_rfl) (fun _ _ _ h => h) (Or.inr ⟨by rfl, rfl⟩) (by assumption) ?_
    simp only [Act.put]
    refine wpAnyH_take (i := 7) (oi := _) (v := undef) rfl (by kernel_rfl) (by kernel_rfl) (by kernel_rfl) (fun _ _ _ h => h) (Or.inr ⟨by rfl, rfl⟩) (by assumption) ?_
    simp only [Act.put]
    refine wpAnyH_take (i := 8) (oi := _) (v := undef) rfl (by kernel_rfl) (by kernel_rfl) (by kernel_rfl) (fun _ _ _ h => h) (Or.inr ⟨by rfl, rfl⟩) (by assumption) ?_
    simp only [Act.put]
    refine wpAnyH_take (i := 9) (oi := _) (v := undef) rfl (by kernel_rfl) (by kernel_rfl) (by kernel_rfl) (fun _ _ _ h => h) (Or.inr ⟨by rfl, rfl⟩) (by assumption) ?_
    simp only [Act.put]
    refine wpAnyH_ready (rs := [6]) (by kernel_rfl) (by simp) ?_
    refine AllReadyH.cons (o := _) rfl (fun K hK => ?_) AllReadyH.nil
    go_simp
    refine hK.out _ _ ⟨f0, f1, f2, f3⟩ (fun hHeld => ?_)
    clear hK K
    try simp only [Act.put]
    refine wpAnyH_take (i := 10) (oi := _) (v := undef) rfl (by kernel_rfl) (by kernel_rfl) (by kernel_rfl) (fun _ _ _ h => h) (Or.inr ⟨by rfl, rfl⟩) (by assumption) ?_
    simp only [Act.put]
    refine wpAnyH_take (i := 11) (oi := _) (v := undef) rfl (by kernel_rfl) (by kernel_rfl) (by kernel_rfl) (fun _ _ _ h => h) (Or.inr ⟨by rfl, rfl⟩) (by assumption) ?_
    simp only [Act.put]
    refine wpAnyH_take (i := 12) (oi := _) (v := .bool false) rfl (by kernel_rfl) (by kernel_rfl) (by kernel_rfl) (fun _ _ _ h => h) (Or.inl ⟨by rfl, ?_⟩) (by assumption) ?_
    · intro w' hSw
      try dsimp only at hSw
      go_simp <;> first | with_reducible rfl | assumption
    simp only [Act.put]
    refine wpAnyH_ready (rs := [13]) (by kernel_rfl) (by simp) ?_
    refine AllReadyH.cons (o := _) rfl (fun K hK => ?_) AllReadyH.nil
    go_simp
    refine hK.out _ _ ⟨f0, f1, f2, f3⟩ (fun hHeld => ?_)
    clear hK K
    try simp only [Act.put]
    refine wpAnyH_done (by kernel_rfl) ?_ _
    go_wp2_with fail
    go_ret
    exact ⟨⟨_, rfl⟩, below_then b0 (below_then (below_drew _ _) ha)⟩
  · rw [hm] at HM
    obtain ⟨h1, h2, h3, h4, h5, h6, h7, h8, h9⟩ := may_true hm
    obtain ⟨M, hM⟩ : ∃ M : Nat, (M : Int) = k + r := ⟨(k + r).toNat, by omega⟩
    have HN : Hid (∀ w, Calls Tryz.prog 59 #[.agg #[.int .i64 k, .int .i64 r, .int .i64 c, .int .i64 q]] w fun e w' => e = .returned (.int .i64 (M : Int)) /\ Below w.heap.size w w') := fun w => Im.N_any c q hM (by omega) w
    clear h1 h2 h3 h4 h5 h6 h7 h8 h9 hm
    go_enter Tryz.func21, Tryz.ntmps21
    go_wp2_with fail
    rw [<- hw0]
    clear hw0
    go_region_held3 (fun v => v.cell? ⟨w.heap.size, 0, none⟩ = some (.int .i64 k) /\ v.cell? ⟨w.heap.size, 1, none⟩ = some (.int .i64 r) /\ v.cell? ⟨w.heap.size, 2, none⟩ = some (.int .i64 c) /\ v.cell? ⟨w.heap.size, 3, none⟩ = some (.int .i64 q)) (go_keep)
      ((first
        | (go_at_call 58; refine (HM.out _).mono ?_; rintro e wp ⟨rfl, hp⟩
           have f0 := held (w := w0.drew) a0 hp; have f1 := held (w := w0.drew) a1 hp; have f2 := held (w := w0.drew) a2 hp; have f3 := held (w := w0.drew) a3 hp)
        | (go_at_call 59; refine (HN.out _).mono ?_; rintro e wq ⟨rfl, hq⟩
           have g0 := held f0 hq; have g1 := held f1 hq; have g2 := held f2 hq; have g3 := held f3 hq)))
    go_wp2_with fail
    go_ret
    exact ⟨⟨_, rfl⟩, below_then b0 (below_then (below_then (below_drew _ _) hp) hq)⟩
end Go.Proofs.YtmoenmpbkockoaaGreat
