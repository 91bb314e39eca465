import Derived.Deep.RegionHeld3
import Derived.Test.YtemlojjkokooeaaGreatSj14
import Derived.Test.YtemlojjkokooeaaGreatSj20
import Derived.Test.YtemlojjkokooeaaGreatSj29
set_option maxHeartbeats 8000000
set_option maxRecDepth 100000
namespace Go.Proofs.YtemlojjkokooeaaGreat
open Go.RowKit
def hN (y0 y1 : Sl) (kd : UInt8) (v : Int) : Int := if hB y0 kd v = true then 0 else if hB y1 kd v = true then 1 else -1
theorem hB_tests (y : Sl) (kd : UInt8) (v : Int) : (hB y kd v = false /\ decide (¬ y.ce = 0) = false) \/ (hB y kd v = false /\ decide (¬ y.ce = 0) = true /\ (((y.kd.toNat : Nat) : Int) == ((kd.toNat : Nat) : Int)) = false) \/ (hB y kd v = false /\ decide (¬ y.ce = 0) = true /\ (((y.kd.toNat : Nat) : Int) == ((kd.toNat : Nat) : Int)) = true /\ (y.ce == v) = false) \/ (hB y kd v = true /\ decide (¬ y.ce = 0) = true /\ (((y.kd.toNat : Nat) : Int) == ((kd.toNat : Nat) : Int)) = true /\ (y.ce == v) = true) := by
 unfold hB
 by_cases h1 : y.ce = 0
 ·exact .inl ⟨decide_eq_false fun h => h.1 (by rw [<- h.2.2]; exact h1), decide_eq_false fun h => h h1⟩
 ·by_cases h2 : y.kd = kd
  ·have e2 : (((y.kd.toNat : Nat) : Int) == ((kd.toNat : Nat) : Int)) = true := by rw [h2]; simp
   by_cases h3 : y.ce = v
   ·exact .inr (.inr (.inr ⟨decide_eq_true ⟨by rw [<- h3]; exact h1, h2, h3⟩, decide_eq_true h1, e2, by simpa using h3⟩))
   ·exact .inr (.inr (.inl ⟨decide_eq_false fun h => h3 h.2.2, decide_eq_true h1, e2, by simpa using h3⟩))
  ·refine .inr (.inl ⟨decide_eq_false fun h => h2 h.2.1, decide_eq_true h1, ?_⟩)
   simp only [beq_eq_false_iff_ne, ne_eq, Int.natCast_inj]
   exact fun e => h2 (UInt8.toNat_inj.1 e)
theorem hreg (w1 : World) (k r c q ix : Int) (g0 g1 i : Nat) (hi : (0 : Int) <= (i : Int)) (hi2 : (i : Int) < 2) (a0 : Option Addr) (n0 c0 : Nat) (y : Sl) (b : Bool) (x0 x1 x2 x4 x7 x8 x9 x10 x12 x13 x14 x15 x16 x17 x18 x19 x20 x21 x22 x23 x24 x25 x26 x27 x28 x29 x30 x31 x32 x33 x34 x35 x36 x37 x38 x39 x40 : Value)
  (HS : Hid (∀ v, Below w1.heap.size w1 v -> (v.cell? ⟨g0, 0, none⟩ = some (.int .i64 k) /\ v.cell? ⟨g0, 1, none⟩ = some (.int .i64 r) /\ v.cell? ⟨g0, 2, none⟩ = some (.int .i64 c) /\ v.cell? ⟨g0, 3, none⟩ = some (.int .i64 q) /\ v.cell? ⟨g1, i, none⟩ = some (.slice a0 n0 c0))))
  (HP1 : Hid (∀ v, Below w1.heap.size w1 v -> Calls Tryz.prog 135 #[.agg #[.int .i64 k, .int .i64 r, .int .i64 c, .int .i64 q], .slice a0 n0 c0, .int .i64 ix] v fun e w' => ∃ ao ca bo cb, e = .returned (.tuple #[.agg #[.int .u8 ((y.kd.toNat : Nat) : Int), .int .i64 y.ix, .int .i64 y.ce, .int .i64 y.st, .slice ao y.vn ca, .slice bo y.dn cb], .bool b]) /\ Got v.heap.size w' y ao ca bo cb /\ Below v.heap.size v w'))
  (Q : Exit -> Act -> World -> Prop) (HQ : Hid (∀ v g ao ca bo cb, Below w1.heap.size w1 v -> At w1 v g #[.int .u8 ((y.kd.toNat : Nat) : Int), .int .i64 y.ix, .int .i64 y.ce, .int .i64 y.st, .slice ao y.vn ca, .slice bo y.dn cb] 107 -> Q .normal { tmps := #[x0, x1, x2, .int .i64 ix, x4, .pointer (some ⟨g0, 0, none⟩), .pointer (some ⟨g1, 0, none⟩), x7, x8, x9, x10, .int .i64 (i : Int), .pointer (some ⟨g, 0, none⟩), .bool b, x14, x15, x16, x17, .tuple #[.agg #[.int .u8 ((y.kd.toNat : Nat) : Int), .int .i64 y.ix, .int .i64 y.ce, .int .i64 y.st, .slice ao y.vn ca, .slice bo y.dn cb], .bool b], .agg #[.int .i64 k, .int .i64 r, .int .i64 c, .int .i64 q], .int .i64 (i : Int), .pointer (some ⟨g1, i, none⟩), .slice a0 n0 c0, .int .i64 ix, .tuple #[.agg #[.int .u8 ((y.kd.toNat : Nat) : Int), .int .i64 y.ix, .int .i64 y.ce, .int .i64 y.st, .slice ao y.vn ca, .slice bo y.dn cb], .bool b], .agg #[.int .u8 ((y.kd.toNat : Nat) : Int), .int .i64 y.ix, .int .i64 y.ce, .int .i64 y.st, .slice ao y.vn ca, .slice bo y.dn cb], .bool b, x27, x28, x29, x30, x31, x32, x33, x34, x35, x36, x37, x38, x39, x40], defers := [] } v)) :
  Code.wp Tryz.prog (Code.region 4 #[{ dst := some 19, op := .load 23 (.tmp 5), type := 23, pos := "ref.go:51", after := #[], guard := none }, { dst := some 20, op := .move (.tmp 11), type := 3, pos := "ref.go:51", after := #[], guard := none }, { dst := some 21, op := .indexAddr 97 (.tmp 6) (.tmp 20), type := 0, pos := "ref.go:51", after := #[{ on := 1, ground := .data }], guard := none }, { dst := some 22, op := .load 36 (.tmp 21), type := 36, pos := "ref.go:51", after := #[{ on := 2, ground := .data }], guard := none }, { dst := some 23, op := .move (.tmp 3), type := 3, pos := "ref.go:51", after := #[], guard := none }, { dst := some 24, op := .call { callee := .value (.func 135), args := #[.tmp 19, .tmp 22, .tmp 23], argTypes := #[23, 36, 3] }, type := 170, pos := "ref.go:51", after := #[{ on := 0, ground := .data }, { on := 3, ground := .data }, { on := 4, ground := .data }], guard := none }, { dst := some 18, op := .move (.tmp 24), type := 170, pos := "ref.go:51", after := #[{ on := 5, ground := .data }], guard := none }, { dst := some 25, op := .extract (.tmp 18) 0, type := 107, pos := "ref.go:51", after := #[{ on := 6, ground := .data }], guard := none }, { dst := some 26, op := .extract (.tmp 18) 1, type := 4, pos := "ref.go:51", after := #[{ on := 6, ground := .data }, { on := 10, ground := Ground.gcOnly Departure.lateStores }], guard := none }, { dst := some 12, op := .alloc 107, type := 0, pos := "ref.go:51", after := #[], guard := none }, { dst := none, op := .store 107 (.tmp 12) (.tmp 25), type := 0, pos := "ref.go:51", after := #[{ on := 9, ground := .data }, { on := 7, ground := .data }, { on := 5, ground := .chain }, { on := 0, ground := .phase }, { on := 1, ground := .phase }, { on := 2, ground := .phase }, { on := 3, ground := .phase }, { on := 4, ground := .phase }, { on := 5, ground := .phase }, { on := 6, ground := .phase }, { on := 7, ground := .phase }, { on := 8, ground := Ground.textOnly Departure.lateStores }, { on := 9, ground := .phase }], guard := none }, { dst := some 13, op := .assign (.tmp 26), type := 4, pos := "ref.go:51", after := #[{ on := 8, ground := .data }, { on := 10, ground := .chain }, { on := 0, ground := .phase }, { on := 1, ground := .phase }, { on := 2, ground := .phase }, { on := 3, ground := .phase }, { on := 4, ground := .phase }, { on := 5, ground := .phase }, { on := 6, ground := .phase }, { on := 7, ground := .phase }, { on := 8, ground := .phase }, { on := 9, ground := .phase }, { on := 10, ground := .phase }], guard := none }] true) Q { tmps := #[x0, x1, x2, .int .i64 ix, x4, .pointer (some ⟨g0, 0, none⟩), .pointer (some ⟨g1, 0, none⟩), x7, x8, x9, x10, .int .i64 (i : Int), x12, x13, x14, x15, x16, x17, x18, x19, x20, x21, x22, x23, x24, x25, x26, x27, x28, x29, x30, x31, x32, x33, x34, x35, x36, x37, x38, x39, x40], defers := [] } w1 := by
 obtain ⟨s0, s1, s2, s3, s4⟩ := HS.out w1 (Below.refl _ _)
 have hd0 : Below w1.heap.size w1 w1.drew := below_drew _ _
 have hda : ∀ o, Below w1.heap.size w1 (w1.alloc o).drew := fun o => b_drew (b_alloc (Below.refl _ _) o)
 go_region_held3 (fun v => v.cell? ⟨g0, 0, none⟩ = some (.int .i64 k) /\ v.cell? ⟨g0, 1, none⟩ = some (.int .i64 r) /\ v.cell? ⟨g0, 2, none⟩ = some (.int .i64 c) /\ v.cell? ⟨g0, 3, none⟩ = some (.int .i64 q) /\ v.cell? ⟨g1, i, none⟩ = some (.slice a0 n0 c0)) ((refine HS.out _ ?_; first | with_reducible exact hd0 | with_reducible exact hda _ | with_reducible exact hb' | with_reducible exact b_alloc hb' _ | with_reducible exact below_six hb' hgg _ _ _ _ _ _ | with_reducible exact below_six (b_alloc hb' _) hb'.size _ _ _ _ _ _)) ((first
  | (go_at_call 135; refine (HP1.out _ (hda _)).mono ?_; rintro e w' ⟨ao, ca, bo, cb, rfl, hv, hw'⟩; have hb' := below_then (hda _) hw'; have hat : At w1 w' w1.heap.size #[.int .u8 0, .int .i64 0, .int .i64 0, .int .i64 0, .slice none 0 0, .slice none 0 0] 107 := (at_new (a := w1) (Below.refl _ _) _ 107).drew.below hw'; have hgg := hat.1; have c0 := hat.cell (i := 0) rfl; have c1 := hat.cell (i := 1) rfl; have c2 := hat.cell (i := 2) rfl; have c3 := hat.cell (i := 3) rfl; have c4 := hat.cell (i := 4) rfl; have c5 := hat.cell (i := 5) rfl; have cf := hat.free; clear hw')
  | (go_at_call 135; refine (HP1.out _ hd0).mono ?_; rintro e w' ⟨ao, ca, bo, cb, rfl, hv, hw'⟩; have hb' := below_then hd0 hw'; clear hw')))
 ·refine HQ.out _ _ ao ca bo cb ?_ ?_
  ·exact b_alloc hb' _
  ·exact at_new hb' _ _
 ·refine HQ.out _ _ ao ca bo cb ?_ ?_
  ·exact below_six hb' hgg _ _ _ _ _ _
  ·exact at_six hat _ _ _ _ _ _
theorem Holds_any {k r c q : Int} {N W : Nat} (h : Par k r c q N W 0) (w : World) (a0 : Option Addr) (n0 c0 : Nat) (F0 : Nat -> UInt8) (a1 : Option Addr) (n1 c1 : Nat) (F1 : Nat -> UInt8) (h0 : Bec w a0 n0 c0 F0) (h1 : Bec w a1 n1 c1 F1) (l0 : n0 <= 9223372036854775807) (l1 : n1 <= 9223372036854775807) (kd : UInt8) (ix v : Int) (y0 y1 : Sl) (hy0 : he 0 N c ix n0 F0 = y0) (hy1 : he 0 N c ix n1 F1 = y1) :
  Calls Tryz.prog 137 #[.agg #[.int .i64 k, .int .i64 r, .int .i64 c, .int .i64 q], .agg #[.slice a0 n0 c0, .slice a1 n1 c1], .int .u8 ((kd.toNat : Nat) : Int), .int .i64 ix, .int .i64 v] w fun e w' => e = .returned (.int .i64 (hN y0 y1 kd v)) /\ Below w.heap.size w w' := by
 obtain ⟨w0, hw0⟩ : ∃ w0, w0 = w.alloc (.cells #[.int .i64 k, .int .i64 r, .int .i64 c, .int .i64 q] 23) := ⟨_, rfl⟩
 have bw0 : Below w.heap.size w w0 := by rw [hw0]; exact below_alloc _ _
 have zw0 : w0.heap.size = w.heap.size + 1 := by rw [hw0]; simp
 obtain ⟨w1, hw1⟩ : ∃ w1, w1 = w0.alloc (.cells #[.slice a0 n0 c0, .slice a1 n1 c1] 97) := ⟨_, rfl⟩
 have bw1 : Below w0.heap.size w0 w1 := by rw [hw1]; exact below_alloc _ _
 have zw1 : w1.heap.size = w.heap.size + 1 + 1 := by rw [hw1]; simp [zw0]
 have Bw : Hid (Below w.heap.size w w1) := (below_then bw0 bw1)
 have Lw0 : Hid (∀ v, Below w1.heap.size w1 v -> At w v (w.heap.size) #[.int .i64 k, .int .i64 r, .int .i64 c, .int .i64 q] 23) := fun v hv => by exact (at_made (Below.refl _ _) hw0).below (below_then bw1 hv)
 have Lw1 : Hid (∀ v, Below w1.heap.size w1 v -> At w v (w.heap.size + 1) #[.slice a0 n0 c0, .slice a1 n1 c1] 97) := fun v hv => by rw [<- zw0]; exact (at_made bw0 hw1).below (below_then (Below.refl _ _) hv)
 have HO0 : Hid (∀ v, Below w.heap.size w v -> Calls Tryz.prog 135 #[.agg #[.int .i64 k, .int .i64 r, .int .i64 c, .int .i64 q], .slice a0 n0 c0, .int .i64 ix] v fun e w' => ∃ ao ca bo cb, e = .returned (.tuple #[slv y0 ao ca bo cb, .bool (decide (¬ y0.ce = 0))]) /\ Got v.heap.size w' y0 ao ca bo cb /\ Below v.heap.size v w') := fun v hv => Of_any h v a0 n0 c0 F0 (h0.below hv) l0 ix y0 hy0
 have HO1 : Hid (∀ v, Below w.heap.size w v -> Calls Tryz.prog 135 #[.agg #[.int .i64 k, .int .i64 r, .int .i64 c, .int .i64 q], .slice a1 n1 c1, .int .i64 ix] v fun e w' => ∃ ao ca bo cb, e = .returned (.tuple #[slv y1 ao ca bo cb, .bool (decide (¬ y1.ce = 0))]) /\ Got v.heap.size w' y1 ao ca bo cb /\ Below v.heap.size v w') := fun v hv => Of_any h v a1 n1 c1 F1 (h1.below hv) l1 ix y1 hy1
 have HO : Hid (∀ i : Nat, i < 2 -> ∃ a n cc y, ((i = 0 /\ a = a0 /\ n = n0 /\ cc = c0 /\ y = y0) \/ (i = 1 /\ a = a1 /\ n = n1 /\ cc = c1 /\ y = y1)) /\ (∀ v, Below w1.heap.size w1 v -> v.cell? ⟨w.heap.size, 0, none⟩ = some (.int .i64 k) /\ v.cell? ⟨w.heap.size, 1, none⟩ = some (.int .i64 r) /\ v.cell? ⟨w.heap.size, 2, none⟩ = some (.int .i64 c) /\ v.cell? ⟨w.heap.size, 3, none⟩ = some (.int .i64 q) /\ v.cell? ⟨w.heap.size + 1, i, none⟩ = some (.slice a n cc)) /\ (∀ v, Below w.heap.size w v -> Calls Tryz.prog 135 #[.agg #[.int .i64 k, .int .i64 r, .int .i64 c, .int .i64 q], .slice a n cc, .int .i64 ix] v fun e w' => ∃ ao ca bo cb, e = .returned (.tuple #[slv y ao ca bo cb, .bool (decide (¬ y.ce = 0))]) /\ Got v.heap.size w' y ao ca bo cb /\ Below v.heap.size v w')) := fun i hi => by
  rcases (show i = 0 \/ i = 1 by omega) with rfl | rfl
  ·refine ⟨a0, n0, _, y0, .inl ⟨rfl, rfl, rfl, rfl, rfl⟩, fun v hv => ?_, HO0.out⟩
   have p0 := Lw0.out v hv
   exact ⟨p0.cell (i := 0) rfl, p0.cell (i := 1) rfl, p0.cell (i := 2) rfl, p0.cell (i := 3) rfl, (Lw1.out v hv).cell (i := 0) rfl⟩
  ·refine ⟨a1, n1, _, y1, .inr ⟨rfl, rfl, rfl, rfl, rfl⟩, fun v hv => ?_, HO1.out⟩
   have p0 := Lw0.out v hv
   exact ⟨p0.cell (i := 0) rfl, p0.cell (i := 1) rfl, p0.cell (i := 2) rfl, p0.cell (i := 3) rfl, (Lw1.out v hv).cell (i := 1) rfl⟩
 clear h h0 h1 l0 l1 hy0 hy1 HO0 HO1 Lw0 Lw1
 unfold slv at HO
 go_enter Tryz.func137, Tryz.ntmps137
 go_wp2_with fail
 rw [<- hw0, <- hw1]
 clear hw0 bw0 zw0 hw1 bw1 zw1
 go_loopw [11] (fun y wr => ∃ i : Nat, i <= 2 /\ y = .int .i64 (i : Int) /\ Hid (Below w1.heap.size w1 wr) /\ Hid ((0 < i -> hB y0 kd v = false) /\ (1 < i -> hB y1 kd v = false))) (fun y _ => 2 - (intOf y).toNat)
 case atStart => exact ⟨0, Nat.zero_le _, rfl, Below.refl _ _, fun hh => absurd hh (by omega), fun hh => absurd hh (by omega)⟩
 case round =>
  obtain ⟨i, hi, rfl, hbw, hno⟩ := hrel
  by_cases hlt : i < 2
  ·have i1 : (0 : Int) <= (i : Int) := by omega
   have i2 : (i : Int) < 2 := by omega
   obtain ⟨a, n, cc, y, hwh, hs, hp⟩ := HO.out i hlt
   have HWH : Hid ((hB y kd v = true -> hN y0 y1 kd v = (i : Int)) /\ (hB y kd v = false -> (0 < i + 1 -> hB y0 kd v = false) /\ (1 < i + 1 -> hB y1 kd v = false))) := by
    show _ /\ _
    rcases hwh with ⟨rfl, _, _, _, rfl⟩ | ⟨rfl, _, _, _, rfl⟩
    ·refine ⟨fun hh => by unfold hN; rw [if_pos hh]; rfl, fun hh => ⟨fun _ => hh, fun h2 => absurd h2 (by omega)⟩⟩
    ·have h3 := hno.out.1 (by omega)
     refine ⟨fun hh => by unfold hN; rw [if_neg (by rw [h3]; exact Bool.false_ne_true), if_pos hh]; rfl, fun hh => ⟨fun _ => h3, fun _ => hh⟩⟩
   have HS : Hid (∀ u, Below wr.heap.size wr u -> u.cell? ⟨w.heap.size, 0, none⟩ = some (.int .i64 k) /\ u.cell? ⟨w.heap.size, 1, none⟩ = some (.int .i64 r) /\ u.cell? ⟨w.heap.size, 2, none⟩ = some (.int .i64 c) /\ u.cell? ⟨w.heap.size, 3, none⟩ = some (.int .i64 q) /\ u.cell? ⟨w.heap.size + 1, i, none⟩ = some (.slice a n cc)) := fun u hu => hs u (below_then hbw.out hu)
   have HP := fun u (hu : Below wr.heap.size wr u) => hp u (below_then Bw.out (below_then hbw.out hu))
   clear hs hp hwh hno
   go_wp2_with fail
   refine hreg wr k r c q ix w.heap.size (w.heap.size + 1) i i1 i2 a n cc y (decide (¬ y.ce = 0)) _ _ _ _ _ _ _ _ _ _ _ _ _ _ _ _ _ _ _ _ _ _ _ _ _ _ _ _ _ _ _ _ _ _ _ _ _ HS HP _ (fun v' g ao ca bo cb hb3 hat => ?_)
   have HB3 : Hid (Below w1.heap.size w1 v') := below_then hbw.out hb3
   have c0 := hat.cell (i := 0) rfl
   have c2 := hat.cell (i := 2) rfl
   clear hat hb3 HP HS HO
   rcases hB_tests y kd v with ⟨e0, e1⟩ | ⟨e0, e1, e2⟩ | ⟨e0, e1, e2, e3⟩ | ⟨e0, e1, e2, e3⟩
   ·rw [e1]
    go_wp2_with fail
    go_roundw
    case rel => exact ⟨i + 1, by omega, by go_num, HB3.out, HWH.out.2 e0⟩
    case measure => simp [intOf]; omega
   ·rw [e1]
    go_wp2_with fail
    go_roundw
    case rel => exact ⟨i + 1, by omega, by go_num, HB3.out, HWH.out.2 e0⟩
    case measure => simp [intOf]; omega
   ·rw [e1]
    go_wp2_with fail
    go_roundw
    case rel => exact ⟨i + 1, by omega, by go_num, HB3.out, HWH.out.2 e0⟩
    case measure => simp [intOf]; omega
   ·rw [e1]
    go_wp2_with fail
    go_ret
    exact ⟨by rw [HWH.out.1 e0]; rfl, below_then Bw.out HB3.out⟩
  ·have hi2 : i = 2 := by omega
   subst hi2
   go_wp2_with fail
   go_ret
   refine ⟨?_, below_then Bw.out hbw.out⟩
   unfold hN
   rw [if_neg (by rw [hno.out.1 (by omega)]; exact Bool.false_ne_true), if_neg (by rw [hno.out.2 (by omega)]; exact Bool.false_ne_true)]
   rfl
end Go.Proofs.YtemlojjkokooeaaGreat
